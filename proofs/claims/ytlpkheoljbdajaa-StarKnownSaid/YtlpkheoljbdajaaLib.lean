import Derived.Test.YtlpkheoljbdajaaProg
import Derived.WalkKit
import Derived.WalkLawsBesides
import Derived.WalkSpells
import Derived.Lib.Hide
import Derived.Laws.EntriesVeiled
import Derived.Deep.QuietTactic
import Derived.BigQuiet
import Derived.Deep.RegionHeld3
import Derived.Laws.Rows
/- Plain lemmas on worlds, blocks, new memory, and numbers. -/
namespace Go.Proofs.Ytlpkheoljbdajaa
open Go.RowKit

section
variable {P : Program} {md : Region.Mode} {ops : Array Oper} {Q : Exit → Act → World → Prop} {S : World → Prop}
/-- an operation of a drawn region is taken first; the slot that it writes is named -/
theorem takeH {i : Nat} {d : Option Tmp} {oi : Oper} {v : Value} {fuel : Nat} {listed : Array Bool} {a : Act} {w : World} (hi : ops[i]? = some oi) (hd : oi.dst = d)
    (hs : Region.noSelect ops = true) (hf : Region.free md ops listed i = true) (hr : (Region.ready md ops listed).contains i = true)
    (hQ : ∀ c a w, Q (.panic c) (a.put oi.dst v) w → Q (.panic c) a w) (hw : Region.wanted oi (yielded ops a.tmps) = true) (hy : ∀ w, S w → (execOp a.eval oi).run P w = .ok (.value v) w) (hS : S w)
    (h : wpAnyH P md ops Q S fuel (listed.setIfInBounds i true) (a.put d v) w) : wpAnyH P md ops Q S (fuel + 1) listed a w := by
  subst hd; exact wpAnyH_take hi hs hf hr hQ (Or.inl ⟨hw, hy⟩) hS h
/-- an operation whose guard is false is passed over -/
theorem skipH {i : Nat} {d : Option Tmp} {oi : Oper} {fuel : Nat} {listed : Array Bool} {a : Act} {w : World} (hi : ops[i]? = some oi) (hd : oi.dst = d)
    (hs : Region.noSelect ops = true) (hf : Region.free md ops listed i = true) (hr : (Region.ready md ops listed).contains i = true)
    (hQ : ∀ c a w, Q (.panic c) (a.put oi.dst undef) w → Q (.panic c) a w) (hw : Region.wanted oi (yielded ops a.tmps) = false) (hS : S w)
    (h : wpAnyH P md ops Q S fuel (listed.setIfInBounds i true) (a.put d undef) w) : wpAnyH P md ops Q S (fuel + 1) listed a w := by
  subst hd; exact wpAnyH_take hi hs hf hr hQ (Or.inr ⟨hw, rfl⟩) hS h
end

theorem ret_int {k : IntKind} {a b : Int} (h : a = b) : Ending.returned (.int k a) = .returned (.int k b) := by rw [h]

/-- from a world on only new memory has been laid -/
def Up (w w' : World) : Prop := Below w.heap.size w w'
theorem Up.refl (w : World) : Up w w := Below.refl _ _
theorem Up.alloc {w w' : World} (h : Up w w') (o : Obj) : Up w (w'.alloc o) := Below.alloc h (Below.size h) o
theorem Up.drew {w w' : World} (h : Up w w') : Up w w'.drew := Below.drew h
theorem Up.trans {a b c : World} (h : Up a b) (k : Up b c) : Up a c := Below.trans h (Below.mono k (Below.size h))
theorem Up.set {w w' : World} (h : Up w w') {p : Addr} (hp : w.heap.size ≤ p.block) (u : Value) : Up w (w'.setCell p u) := Below.setCell h hp u
theorem Up.size {w w' : World} (h : Up w w') : w.heap.size ≤ w'.heap.size := Below.size h
theorem Up.facts {W w1 : World} (hb : Up W w1) : (∀ b o, b < W.heap.size → w1.cell? ⟨b, o, none⟩ = W.cell? ⟨b, o, none⟩) ∧ (∀ b o, b < W.heap.size → w1.frozen? ⟨b, o, none⟩ = W.frozen? ⟨b, o, none⟩) ∧ W.heap.size ≤ w1.heap.size :=
  ⟨fun b o h => Below.cell hb (p := ⟨b, o, none⟩) h, fun b o h => Below.frozen hb (p := ⟨b, o, none⟩) h, hb.size⟩
/-- the block of a number -/
def mblk (w : World) (b : Nat) : Option Obj := w.heap[b]?
theorem blk_new (w : World) (o : Obj) (n : Nat) (hn : n = w.heap.size) : mblk (w.alloc o) n = some o := by
  subst hn
  show (w.heap.push o)[w.heap.size]? = some o
  simp
theorem blk_past (w : World) (o : Obj) (n : Nat) (hn : n < w.heap.size) : mblk (w.alloc o) n = mblk w n :=
  Below.heap_alloc w o n hn
theorem blk_lt {w : World} {b : Nat} {o : Obj} (h : mblk w b = some o) : b < w.heap.size := (Array.getElem?_eq_some_iff.1 h).1
theorem blk_keep {w : World} (o : Obj) {n : Nat} {x : Obj} (h : mblk w n = some x) : mblk (w.alloc o) n = some x := by rw [blk_past w o n (blk_lt h)]; exact h
theorem blk_drew (w : World) (n : Nat) : mblk w.drew n = mblk w n := rfl
theorem blk_set (w : World) (a : Addr) (u : Value) (n : Nat) (hn : n ≠ a.block) : mblk (w.setCell a u) n = mblk w n := Below.heap_setCell w a u n hn
attribute [go_sem] blk_new blk_past blk_keep blk_drew blk_set
theorem Up.blk {W w1 : World} (hb : Up W w1) {b : Nat} {o : Obj} (h : mblk W b = some o) : mblk w1 b = some o :=
  (Below.block hb b (blk_lt h)).trans h
theorem Up.cellOf {W w1 : World} (hb : Up W w1) {b j : Nat} {o : Obj} {v : Value} (h : mblk W b = some o) (hv : W.cell? ⟨b, j, none⟩ = some v) : w1.cell? ⟨b, j, none⟩ = some v :=
  (Below.cell hb (p := ⟨b, j, none⟩) (blk_lt h)).trans hv
theorem cellB {w : World} {b : Nat} {cs : Array Value} {t : TypeId} {fr : Nat × Nat} (h : mblk w b = some (.cells cs t fr)) (j : Nat) : w.cell? ⟨b, j, none⟩ = cs[j]? := cell_of_row w b j cs t fr h
theorem frozB {w : World} {b : Nat} {cs : Array Value} {t : TypeId} (h : mblk w b = some (.cells cs t (0, 0))) (j : Nat) : w.frozen? ⟨b, j, none⟩ = false := by
  have h' : w.heap[b]? = some (.cells cs t (0, 0)) := h
  simp [World.frozen?, h']
theorem blk_put {w : World} {b : Nat} {cs : Array Value} {t : TypeId} {fr : Nat × Nat} (h : mblk w b = some (.cells cs t fr)) (j : Nat) (v : Value) : mblk (w.setCell ⟨b, j, none⟩ v) b = some (.cells (cs.setIfInBounds j v) t fr) := by
  have h' : w.heap[b]? = some (.cells cs t fr) := h
  show (w.setCell ⟨b, j, none⟩ v).heap[b]? = _
  simp only [World.setCell, Array.getElem?_modify, h', if_true, Option.map_some]
  rfl
/-- is a number from one to another one? -/
def inB (n l h : Int) : Bool := decide (l ≤ n ∧ n ≤ h)
theorem inB_yes {n l h : Int} (h1 : l ≤ n) (h2 : n ≤ h) : inB n l h = true := by simp [inB, h1, h2]
theorem inB_no {n l h : Int} (h1 : ¬ (l ≤ n ∧ n ≤ h)) : inB n l h = false := by simp only [inB, h1, decide_false]
theorem inB_iff {n l h : Int} : inB n l h = true ↔ l ≤ n ∧ n ≤ h := by simp [inB]
theorem tdiv_floor (n k : Int) (hk : 1 ≤ k) (h : n.tmod k < 0) : n.tdiv k - 1 = n / k := by
  have e := Int.mul_tdiv_add_tmod n k
  have f : k * (n.tdiv k - 1) + (n.tmod k + k) = n := by rw [Int.mul_sub]; omega
  have lo : -k < n.tmod k := by
    have a := Int.tmod_lt_of_pos (-n) (b := k) (by omega)
    rw [Int.neg_tmod] at a
    omega
  exact ((Int.ediv_emod_unique (a := n) (b := k) (r := n.tmod k + k) (q := n.tdiv k - 1) (by omega)).2 ⟨by omega, by omega, by omega⟩).1.symm
theorem tdiv_pos (n k : Int) (hk : 1 ≤ k) (h : 0 ≤ n.tmod k) : n.tdiv k = n / k := by
  have e := Int.mul_tdiv_add_tmod n k
  have hi : n.tmod k < k := Int.tmod_lt_of_pos n (by omega)
  exact ((Int.ediv_emod_unique (a := n) (b := k) (r := n.tmod k) (q := n.tdiv k) (by omega)).2 ⟨by omega, by omega, by omega⟩).1.symm

theorem tmod_neg (n k : Int) (hk : 1 ≤ k) (h : n.tmod k < 0) : n.tmod k + k = n % k := by
  have a := tdiv_floor n k hk h
  have e := Int.mul_tdiv_add_tmod n k
  have f := Int.emod_add_mul_ediv n k
  rw [← a, Int.mul_sub] at f
  omega
theorem tmod_pos (n k : Int) (hk : 1 ≤ k) (h : 0 ≤ n.tmod k) : n.tmod k = n % k := by
  have a := tdiv_pos n k hk h
  have e := Int.mul_tdiv_add_tmod n k
  have f := Int.emod_add_mul_ediv n k
  rw [← a] at f
  omega
theorem set4_same {w : World} {b : Nat} {a0 a1 a2 a3 : Value} {t : TypeId} {fr : Nat × Nat} (h : mblk w b = some (.cells #[a0, a1, a2, a3] t fr)) (v0 v1 v2 v3 : Value) :
    mblk ((((w.setCell ⟨b, 0, none⟩ v0).setCell ⟨b, 1, none⟩ v1).setCell ⟨b, 2, none⟩ v2).setCell ⟨b, 3, none⟩ v3) b = some (.cells #[v0, v1, v2, v3] t fr) := by
  have q := blk_put (blk_put (blk_put (blk_put h 0 v0) 1 v1) 2 v2) 3 v3
  simpa using q
theorem set4_other (w : World) {b n : Nat} (hn : n ≠ b) (v0 v1 v2 v3 : Value) :
    mblk ((((w.setCell ⟨b, 0, none⟩ v0).setCell ⟨b, 1, none⟩ v1).setCell ⟨b, 2, none⟩ v2).setCell ⟨b, 3, none⟩ v3) n = mblk w n := by
  rw [blk_set _ _ _ _ hn, blk_set _ _ _ _ hn, blk_set _ _ _ _ hn, blk_set _ _ _ _ hn]
theorem Up.set4 {w w' : World} (h : Up w w') {b : Nat} (hb : w.heap.size ≤ b) (v0 v1 v2 v3 : Value) :
    Up w ((((w'.setCell ⟨b, 0, none⟩ v0).setCell ⟨b, 1, none⟩ v1).setCell ⟨b, 2, none⟩ v2).setCell ⟨b, 3, none⟩ v3) :=
  (((h.set hb v0).set hb v1).set hb v2).set hb v3

theorem Try.infoInt : (Try.prog.info? 3).map (fun i => (i.zero, i.size, i.bytes)) = some (some (.int .i64 0), 1, 8) := by kernel_rfl

theorem grown_blk {w w' : World} {row : Option Nat} {b : Nat} {o : Obj} (hg : w.grownBy w' row) (h : mblk w b = some o) (hne : some b ≠ row) : mblk w' b = some o :=
  (hg.block b (blk_lt h) hne).trans h
theorem Up.grown {w w1 w2 : World} {row : Option Nat} (h : Up w w1) (hg : w1.grownBy w2 row) (hr : ∀ k, row = some k → w.heap.size ≤ k) : Up w w2 := Below.grown h hg h.size hr

theorem Up.setRow {w w' : World} (h : Up w w') {g : Nat} (hg : w.heap.size ≤ g) (cs : Array Value) : Up w (w'.setRow g cs) where
  os := h.os
  tape := h.tape
  output := h.output
  size := by
    have := h.size
    simpa [World.setRow] using this
  block k hk := by
    have e : (w'.setRow g cs).heap[k]? = w'.heap[k]? := by
      simp only [World.setRow, Array.getElem?_modify]
      rw [if_neg (by omega)]
    rw [e]
    exact Below.block h k hk
theorem blk_setRow {w : World} {g : Nat} {old : Array Value} {t : TypeId} {fr : Nat × Nat} (h : mblk w g = some (.cells old t fr)) (cs : Array Value) : mblk (w.setRow g cs) g = some (.cells cs t fr) := setRow_heap w g old cs t fr h
/-- a new slice that holds these numbers; nil if there are none -/
def D.newInts (w w' : World) (v : Value) (xs : List Int) : Prop :=
  (xs = [] ∧ v = .slice none 0 0) ∨ ∃ g, v = .slice (some ⟨g, 0, none⟩) xs.length xs.length ∧ w.heap.size ≤ g ∧ g < w'.heap.size ∧ ∀ j, j < xs.length → w'.cell? ⟨g, j, none⟩ = (xs.map (Value.int .i64))[j]?

/-- a slice of numbers, in memory -/
structure Ints (w : World) (v : Value) (xs : List Int) : Prop where
  mk :: (is : ∃ a c, v = .slice a xs.length c ∧ xs.length ≤ c ∧ xs.length ≤ 9223372036854775807 ∧ (0 < xs.length → ∃ g off, a = some ⟨g, off, none⟩ ∧ g < w.heap.size ∧ ∀ j, j < xs.length → w.cell? ⟨g, off + j, none⟩ = some (.int .i64 (xs.getD j 0))))
theorem Ints.up {w w' : World} {v : Value} {xs : List Int} (h : Ints w v xs) (u : Up w w') : Ints w' v xs := by
  obtain ⟨a, c, e, hc, hl, hm⟩ := h.is
  refine ⟨a, c, e, hc, hl, fun h0 => ?_⟩
  obtain ⟨g, off, e1, e2, e3⟩ := hm h0
  exact ⟨g, off, e1, by have := u.size; omega, fun j hj => (u.facts.1 g _ e2).trans (e3 j hj)⟩
theorem Ints.nil (w : World) : Ints w (.slice none 0 0) [] := ⟨none, 0, rfl, Nat.le_refl _, by simp, fun h => by simp at h⟩
theorem Ints.new {w : World} {g cap : Nat} {cs : Array Value} {t : TypeId} {fr : Nat × Nat} {xs : List Int} (h : mblk w g = some (.cells cs t fr)) (hc : xs.length ≤ cap) (hl : xs.length ≤ 9223372036854775807) (hx : ∀ j, j < xs.length → cs[j]? = some (.int .i64 (xs.getD j 0))) : Ints w (.slice (some ⟨g, 0, none⟩) xs.length cap) xs :=
  ⟨_, _, rfl, hc, hl, fun _ => ⟨g, 0, rfl, blk_lt h, fun j hj => by rw [cellB h, Nat.zero_add]; exact hx j hj⟩⟩
theorem D.newInts.ints {w w' : World} {v : Value} {xs : List Int} (h : D.newInts w w' v xs) (hl : xs.length ≤ 1000000) : Ints w' v xs := by
  rcases h with ⟨rfl, rfl⟩ | ⟨g, rfl, _, g2, hc⟩
  · exact Ints.nil _
  · refine ⟨_, _, rfl, Nat.le_refl _, by omega, fun _ => ⟨g, 0, rfl, g2, fun j hj => ?_⟩⟩
    rw [Nat.zero_add, hc j hj, List.getElem?_map, List.getD_eq_getElem?_getD, List.getElem?_eq_getElem hj]
    rfl
theorem D.add_at (b off j : Nat) : (⟨b, off, none⟩ : Addr).add j = ⟨b, off + j, none⟩ := by
  unfold Addr.add
  split
  · rename_i h; subst h; rfl
  · rfl
theorem Ints.drop {w : World} {a : Option Addr} {n c : Nat} {xs : List Int} (I : Ints w (.slice a n c) xs) (k : Nat) : Ints w (.slice (a.map fun x => x.add k) (n - k) (n - k)) (xs.drop k) := by
  obtain ⟨a', c', e, hc, hl, hm⟩ := I.is
  injection e with e1 e2 e3
  subst e1 e2 e3
  refine ⟨_, _, by rw [List.length_drop], by rw [List.length_drop]; exact Nat.le_refl _, by rw [List.length_drop]; omega, fun h => ?_⟩
  rw [List.length_drop] at h
  obtain ⟨g, off, rfl, gl, hx⟩ := hm (by omega)
  refine ⟨g, off + k, by rw [Option.map_some, D.add_at], gl, fun j hj => ?_⟩
  rw [List.length_drop] at hj
  rw [Nat.add_assoc, hx (k + j) (by omega), List.getD_eq_getElem?_getD, List.getD_eq_getElem?_getD, List.getElem?_drop]
theorem Ints.clip {w : World} {a : Option Addr} {n c : Nat} {xs : List Int} (I : Ints w (.slice a n c) xs) : Ints w (.slice a n n) xs := by
  obtain ⟨a', c', e, hc, hl, hm⟩ := I.is
  injection e with e1 e2 e3
  subst e1 e2 e3
  exact ⟨_, _, rfl, Nat.le_refl _, hl, hm⟩
theorem Ints.len {w : World} {a : Option Addr} {n c : Nat} {xs : List Int} (I : Ints w (.slice a n c) xs) : n = xs.length := by
  obtain ⟨a', c', e, hc, hl, hm⟩ := I.is
  injection e
def D.in64 (a : Int) : Prop := -9223372036854775808 ≤ a ∧ a ≤ 9223372036854775807
theorem wrap_in {a : Int} (h : D.in64 a) : wrap64 a = a := by unfold wrap64; unfold D.in64 at h; omega

end Go.Proofs.Ytlpkheoljbdajaa
