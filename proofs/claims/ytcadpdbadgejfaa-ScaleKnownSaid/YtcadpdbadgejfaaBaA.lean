import GoSem.ClaimSeven
import Derived.Test.YtcadpdbadgejfaaProg
import Derived.WalkKit
import Derived.WalkLawsBesides
import Derived.WalkSpells
import Derived.Lib.Hide
import Derived.Laws.EntriesVeiled
import Derived.Deep.QuietTactic
import Derived.BigQuiet
import Derived.Deep.RegionHeld3
import Derived.Laws.Rows
/- The mathematics of plans: how much ticks can add, the fewest ticks, and a plan. -/
namespace Go.Proofs.Ytcadpdbadgejfaa

/-- the sum of the first values of a function -/
def S.sm (f : Nat → Int) : Nat → Int
  | 0 => 0
  | n + 1 => S.sm f n + f n
theorem S.sm_le {f g : Nat → Int} (n : Nat) (h : ∀ i, i < n → f i ≤ g i) : S.sm f n ≤ S.sm g n := by
  induction n with
  | zero => exact Int.le_refl _
  | succ n ih =>
    have a := ih (fun i hi => h i (by omega))
    have b := h n (by omega)
    simp only [S.sm]; omega
theorem S.sm_eq {f g : Nat → Int} (n : Nat) (h : ∀ i, i < n → f i = g i) : S.sm f n = S.sm g n := by
  induction n with
  | zero => rfl
  | succ n ih => simp only [S.sm]; rw [ih (fun i hi => h i (by omega)), h n (by omega)]
theorem S.sm_bd {f : Nat → Int} (n : Nat) (l u : Int) (h : ∀ i, i < n → l ≤ f i ∧ f i ≤ u) : n * l ≤ S.sm f n ∧ S.sm f n ≤ n * u := by
  induction n with
  | zero => simp [S.sm]
  | succ n ih =>
    have a := ih (fun i hi => h i (by omega))
    have b := h n (by omega)
    have e1 : ((n + 1 : Nat) : Int) * l = n * l + l := by rw [Int.natCast_add, Int.add_mul]; simp
    have e2 : ((n + 1 : Nat) : Int) * u = n * u + u := by rw [Int.natCast_add, Int.add_mul]; simp
    rw [e1, e2]
    simp only [S.sm]; omega
theorem S.sm_zero (n : Nat) : S.sm (fun _ => 0) n = 0 := by
  induction n with
  | zero => rfl
  | succ n ih => simp only [S.sm]; rw [ih]; rfl
theorem S.sm_mul (c : Int) (f : Nat → Int) (n : Nat) : S.sm (fun i => c * f i) n = c * S.sm f n := by
  induction n with
  | zero => simp [S.sm]
  | succ n ih => simp only [S.sm]; rw [ih, Int.mul_add]

/-- how much a tick so far from the nearer end can add, at most -/
def S.can (e j : Int) : Nat → Int
  | 0 => 0
  | t + 1 => min (S.can e j t + j) e
theorem S.can_bd {e j : Int} (he : 0 ≤ e) (hj : 0 ≤ j) (t : Nat) : 0 ≤ S.can e j t ∧ S.can e j t ≤ e := by
  induction t with
  | zero => exact ⟨Int.le_refl _, he⟩
  | succ t ih => simp only [S.can]; omega
theorem S.can_step {e j : Int} (he : 0 ≤ e) (hj : 0 ≤ j) (t : Nat) : S.can e j t ≤ S.can e j (t + 1) ∧ S.can e j (t + 1) ≤ S.can e j t + j := by
  have := S.can_bd he hj t
  simp only [S.can]; omega
theorem S.can_mono {e j : Int} (he : 0 ≤ e) (hj : 0 ≤ j) {t u : Nat} (h : t ≤ u) : S.can e j t ≤ S.can e j u := by
  induction u with
  | zero => rw [show t = 0 by omega]; exact Int.le_refl _
  | succ u ih =>
    by_cases g : t = u + 1
    · rw [g]; exact Int.le_refl _
    · have := S.can_step he hj u
      have := ih (by omega)
      omega
theorem S.can_is {e j : Int} (he : 0 ≤ e) (hj : 0 ≤ j) (t : Nat) : S.can e j t = min (t * j) e := by
  induction t with
  | zero => simp [S.can]; omega
  | succ t ih =>
    have e1 : ((t + 1 : Nat) : Int) * j = t * j + j := by rw [Int.natCast_add, Int.add_mul]; simp
    simp only [S.can]; rw [ih, e1]; omega
theorem S.can_zero {j : Int} (hj : 0 ≤ j) (t : Nat) : S.can 0 j t = 0 := by
  have := S.can_bd (Int.le_refl 0) hj t; omega
theorem S.can_e {e e' j j' : Int} (h : e ≤ e') (hj : j ≤ j') (t : Nat) : S.can e j t ≤ S.can e' j' t := by
  induction t with
  | zero => exact Int.le_refl _
  | succ t ih => simp only [S.can]; omega

/-- how much each of so many ticks can add, at most, and all of them -/
def S.add (e j : Int) (n i : Nat) : Int := S.can e j (min (i + 1) (n - i))
def S.most (e j : Int) (n : Nat) : Int := S.sm (S.add e j n) n
theorem S.add_bd {e j : Int} (he : 0 ≤ e) (hj : 0 ≤ j) (n i : Nat) : 0 ≤ S.add e j n i ∧ S.add e j n i ≤ e := S.can_bd he hj _
theorem S.add_one {e j : Int} (he : 0 ≤ e) (hj : 0 ≤ j) (n i : Nat) (h : i = 0 ∨ i + 1 = n) : S.add e j n i ≤ j := by
  have c1 : S.can e j 1 ≤ j := by simp only [S.can]; omega
  have c0 := S.can_mono he hj (show min (i + 1) (n - i) ≤ 1 by omega)
  unfold S.add; omega
theorem S.add_near {e j : Int} (he : 0 ≤ e) (hj : 0 ≤ j) (n i : Nat) : S.add e j n (i + 1) ≤ S.add e j n i + j ∧ S.add e j n i ≤ S.add e j n (i + 1) + j := by
  unfold S.add
  have a := S.can_step he hj (min (i + 1) (n - i))
  have b := S.can_step he hj (min (i + 1 + 1) (n - (i + 1)))
  have c := S.can_mono he hj (show min (i + 1 + 1) (n - (i + 1)) ≤ min (i + 1) (n - i) + 1 by omega)
  have d := S.can_mono he hj (show min (i + 1) (n - i) ≤ min (i + 1 + 1) (n - (i + 1)) + 1 by omega)
  omega
theorem S.add_more {e j : Int} (he : 0 ≤ e) (hj : 0 ≤ j) (n i : Nat) : S.add e j n i ≤ S.add e j (n + 1) i := S.can_mono he hj (by omega)
theorem S.most_bd {e j : Int} (he : 0 ≤ e) (hj : 0 ≤ j) (n : Nat) : 0 ≤ S.most e j n ∧ S.most e j n ≤ n * e := by
  have := S.sm_bd (f := S.add e j n) n 0 e (fun i _ => S.add_bd he hj n i)
  unfold S.most; simpa using this
theorem S.most_succ {e j : Int} (he : 0 ≤ e) (hj : 0 ≤ j) (n : Nat) : S.most e j n ≤ S.most e j (n + 1) := by
  have a := S.sm_le (f := S.add e j n) (g := S.add e j (n + 1)) n (fun i _ => S.add_more he hj n i)
  have b := S.add_bd he hj (n + 1) n
  unfold S.most; simp only [S.sm]; omega
theorem S.most_mono {e j : Int} (he : 0 ≤ e) (hj : 0 ≤ j) {n m : Nat} (h : n ≤ m) : S.most e j n ≤ S.most e j m := by
  induction m with
  | zero => rw [show n = 0 by omega]; exact Int.le_refl _
  | succ m ih =>
    by_cases g : n = m + 1
    · rw [g]; exact Int.le_refl _
    · have := S.most_succ he hj m
      have := ih (by omega)
      omega
theorem S.most_e {e e' j j' : Int} (h : e ≤ e') (hj : j ≤ j') (n : Nat) : S.most e j n ≤ S.most e' j' n :=
  S.sm_le n (fun _ _ => S.can_e h hj _)

/-- the adjustments of a plan: up to a level, and by 1 higher as long as something is left -/
def S.lo (A : Nat → Int) (L : Int) (i : Nat) : Int := min (A i) L
def S.left (A : Nat → Int) (L c : Int) : Nat → Int
  | 0 => c
  | i + 1 => S.left A L c i - min (S.lo A (L + 1) i - S.lo A L i) (S.left A L c i)
def S.bit (A : Nat → Int) (L c : Int) (i : Nat) : Int := S.lo A L i + min (S.lo A (L + 1) i - S.lo A L i) (S.left A L c i)
theorem S.lo_bd {A : Nat → Int} (L : Int) (i : Nat) : 0 ≤ S.lo A (L + 1) i - S.lo A L i ∧ S.lo A (L + 1) i - S.lo A L i ≤ 1 := by unfold S.lo; omega
theorem S.left_is {A : Nat → Int} {L c : Int} (hc : 0 ≤ c) (i : Nat) : S.left A L c i = max 0 (c - (S.sm (S.lo A (L + 1)) i - S.sm (S.lo A L) i)) := by
  induction i with
  | zero => simp only [S.left, S.sm]; omega
  | succ i ih =>
    have := S.lo_bd (A := A) L i
    simp only [S.left, S.sm]; rw [ih]; omega
theorem S.bit_sum {A : Nat → Int} {L c : Int} (n : Nat) : S.sm (S.bit A L c) n = S.sm (S.lo A L) n + (c - S.left A L c n) := by
  induction n with
  | zero => simp only [S.left, S.sm]; omega
  | succ n ih => simp only [S.left, S.sm, S.bit]; rw [ih]; omega
theorem S.bit_bd {A : Nat → Int} {L c : Int} (hc : 0 ≤ c) (i : Nat) : S.lo A L i ≤ S.bit A L c i ∧ S.bit A L c i ≤ S.lo A (L + 1) i := by
  have a := S.lo_bd (A := A) L i
  have b := S.left_is (A := A) (L := L) hc i
  unfold S.bit; omega
theorem S.bit_near {A : Nat → Int} {L c j : Int} (hc : 0 ≤ c) (hj : 1 ≤ j) (i : Nat) (h1 : A (i + 1) ≤ A i + j) (h2 : A i ≤ A (i + 1) + j) : S.bit A L c (i + 1) ≤ S.bit A L c i + j ∧ S.bit A L c i ≤ S.bit A L c (i + 1) + j := by
  have a := S.bit_bd (A := A) (L := L) hc i
  have b := S.bit_bd (A := A) (L := L) hc (i + 1)
  unfold S.lo at a b; omega

/-- the level of a plan -/
structure S.Level (A : Nat → Int) (n : Nat) (c L : Int) : Prop where
  l0 : 0 ≤ L
  fits : S.sm (S.lo A L) n ≤ c
  full : L < 500 → c < S.sm (S.lo A (L + 1)) n
  top : L ≤ 500
theorem S.Level.sum {A : Nat → Int} {n : Nat} {c L : Int} (h : S.Level A n c L) (hA : ∀ i, i < n → A i ≤ 500) (hc : c ≤ S.sm A n) : S.sm (S.bit A L (c - S.sm (S.lo A L) n)) n = c := by
  have f := h.fits
  have t := h.top
  rw [S.bit_sum, S.left_is (by omega)]
  by_cases g : L < 500
  · have := h.full g; omega
  · have e : S.sm (S.lo A L) n = S.sm A n := S.sm_eq n (fun i hi => by have := hA i hi; unfold S.lo; omega)
    have e2 : S.sm (S.lo A (L + 1)) n = S.sm A n := S.sm_eq n (fun i hi => by have := hA i hi; unfold S.lo; omega)
    omega

/-- do adjustments keep a rule? -/
def S.keeps (f s j : Int) : Int → List Int → Bool
  | _, [] => true
  | last, x :: l => decide (-s ≤ x) && decide (x ≤ f) && decide (-j ≤ x - last) && decide (x - last ≤ j) && S.keeps f s j x l
/-- do they end smoothly? -/
def S.smooth (j : Int) (l : List Int) : Bool := match l.getLast? with | none => true | some x => decide (-j ≤ x) && decide (x ≤ j)
/-- so many values of a function, from one on -/
def S.list (f : Nat → Int) : Nat → Nat → List Int
  | 0, _ => []
  | k + 1, i => f i :: S.list f k (i + 1)
theorem S.list_is (f : Nat → Int) (k i : Nat) : S.list f k i = (List.range k).map fun x => f (i + x) := by
  induction k generalizing i with
  | zero => rfl
  | succ k ih =>
    rw [S.list, ih, List.range_succ_eq_map, List.map_cons, List.map_map]
    have e : (List.range k).map (fun x => f (i + 1 + x)) = (List.range k).map ((fun x => f (i + x)) ∘ Nat.succ) := List.map_congr_left fun x _ => by
      show f (i + 1 + x) = f (i + (x + 1))
      congr 1; omega
    rw [e]; rfl
theorem S.keeps_list {f s j : Int} (g : Nat → Int) (n : Nat) (h1 : ∀ i, i < n → -s ≤ g i ∧ g i ≤ f) (h2 : ∀ i, i + 1 < n → g (i + 1) - g i ≤ j ∧ -j ≤ g (i + 1) - g i) (k i : Nat) (hk : i + k = n) (last : Int) (hl : 0 < k → g i - last ≤ j ∧ -j ≤ g i - last) : S.keeps f s j last (S.list g k i) = true := by
  induction k generalizing i last with
  | zero => rfl
  | succ k ih =>
    have a := h1 i (by omega)
    have b := hl (by omega)
    have c := ih (i + 1) (by omega) (g i) (fun hk => h2 i (by omega))
    simp only [S.list, S.keeps, Bool.and_eq_true, decide_eq_true_eq]
    exact ⟨⟨⟨⟨a.1, a.2⟩, b.2⟩, b.1⟩, c⟩
theorem S.smooth_list {j : Int} (g : Nat → Int) (n : Nat) (h : 0 < n → g (n - 1) ≤ j ∧ -j ≤ g (n - 1)) : S.smooth j (S.list g n 0) = true := by
  cases n with
  | zero => rfl
  | succ n =>
    have q := h (by omega)
    rw [S.list_is, S.smooth, List.range_succ, List.map_append]
    simp only [List.map_cons, List.map_nil, List.getLast?_append, List.getLast?_singleton, Option.some_or, Nat.zero_add]
    simp only [Nat.add_sub_cancel] at q
    simp [q]
theorem S.sum_list (g : Nat → Int) (k : Nat) : (S.list g k 0).sum = S.sm g k := by
  rw [S.list_is]
  induction k with
  | zero => rfl
  | succ k ih => rw [List.range_succ, List.map_append, List.sum_append, ih]; simp [S.sm]

end Go.Proofs.Ytcadpdbadgejfaa

/- Plain lemmas on worlds, blocks, new memory, and numbers. -/
namespace Go.Proofs.Ytcadpdbadgejfaa
open Go.RowKit

section
variable {P : Program} {md : Region.Mode} {ops : Array Oper} {Q : Exit → Act → World → Prop} {S : World → Prop}
/-- an operation of a drawn region is taken first; the slot that it writes is named -/
theorem takeH {i : Nat} {d : Option Tmp} {oi : Oper} {v : Value} {fuel : Nat} {listed : Array Bool} {a : Act} {w : World} (hi : ops[i]? = some oi) (hd : oi.dst = d)
    (hs : Region.noSelect ops = true) (hf : Region.free md ops listed i = true) (hr : (Region.ready md ops listed).contains i = true)
    (hQ : ∀ c a w, Q (.panic c) (a.put oi.dst v) w → Q (.panic c) a w) (hw : Region.wanted oi (yielded ops a.tmps) = true) (hy : ∀ w, S w → (execOp a.eval oi).run P w = .ok (.value v) w) (hS : S w)
    (h : wpAnyH P md ops Q S fuel (listed.setIfInBounds i true) (a.put d v) w) : wpAnyH P md ops Q S (fuel + 1) listed a w := by
  subst hd; exact wpAnyH_take hi hs hf hr hQ (Or.inl ⟨hw, hy⟩) hS h
/-- an operation whose guard is false is passed over -/
theorem skipH {i : Nat} {d : Option Tmp} {oi : Oper} {fuel : Nat} {listed : Array Bool} {a : Act} {w : World} (hi : ops[i]? = some oi) (hd : oi.dst = d)
    (hs : Region.noSelect ops = true) (hf : Region.free md ops listed i = true) (hr : (Region.ready md ops listed).contains i = true)
    (hQ : ∀ c a w, Q (.panic c) (a.put oi.dst undef) w → Q (.panic c) a w) (hw : Region.wanted oi (yielded ops a.tmps) = false) (hS : S w)
    (h : wpAnyH P md ops Q S fuel (listed.setIfInBounds i true) (a.put d undef) w) : wpAnyH P md ops Q S (fuel + 1) listed a w := by
  subst hd; exact wpAnyH_take hi hs hf hr hQ (Or.inr ⟨hw, rfl⟩) hS h
end

theorem ret_int {k : IntKind} {a b : Int} (h : a = b) : Ending.returned (.int k a) = .returned (.int k b) := by rw [h]

/-- from a world on only new memory has been laid -/
def Up (w w' : World) : Prop := Below w.heap.size w w'
theorem Up.refl (w : World) : Up w w := Below.refl _ _
theorem Up.alloc {w w' : World} (h : Up w w') (o : Obj) : Up w (w'.alloc o) := Below.alloc h (Below.size h) o
theorem Up.drew {w w' : World} (h : Up w w') : Up w w'.drew := Below.drew h
theorem Up.trans {a b c : World} (h : Up a b) (k : Up b c) : Up a c := Below.trans h (Below.mono k (Below.size h))
theorem Up.set {w w' : World} (h : Up w w') {p : Addr} (hp : w.heap.size ≤ p.block) (u : Value) : Up w (w'.setCell p u) := Below.setCell h hp u
theorem Up.size {w w' : World} (h : Up w w') : w.heap.size ≤ w'.heap.size := Below.size h
theorem Up.facts {W w1 : World} (hb : Up W w1) : (∀ b o, b < W.heap.size → w1.cell? ⟨b, o, none⟩ = W.cell? ⟨b, o, none⟩) ∧ (∀ b o, b < W.heap.size → w1.frozen? ⟨b, o, none⟩ = W.frozen? ⟨b, o, none⟩) ∧ W.heap.size ≤ w1.heap.size :=
  ⟨fun b o h => Below.cell hb (p := ⟨b, o, none⟩) h, fun b o h => Below.frozen hb (p := ⟨b, o, none⟩) h, hb.size⟩
/-- the block of a number -/
def mblk (w : World) (b : Nat) : Option Obj := w.heap[b]?
theorem blk_new (w : World) (o : Obj) (n : Nat) (hn : n = w.heap.size) : mblk (w.alloc o) n = some o := by
  subst hn
  show (w.heap.push o)[w.heap.size]? = some o
  simp
theorem blk_past (w : World) (o : Obj) (n : Nat) (hn : n < w.heap.size) : mblk (w.alloc o) n = mblk w n :=
  Below.heap_alloc w o n hn
theorem blk_lt {w : World} {b : Nat} {o : Obj} (h : mblk w b = some o) : b < w.heap.size := (Array.getElem?_eq_some_iff.1 h).1
theorem blk_keep {w : World} (o : Obj) {n : Nat} {x : Obj} (h : mblk w n = some x) : mblk (w.alloc o) n = some x := by rw [blk_past w o n (blk_lt h)]; exact h
theorem blk_drew (w : World) (n : Nat) : mblk w.drew n = mblk w n := rfl
theorem blk_set (w : World) (a : Addr) (u : Value) (n : Nat) (hn : n ≠ a.block) : mblk (w.setCell a u) n = mblk w n := Below.heap_setCell w a u n hn
attribute [go_sem] blk_new blk_past blk_keep blk_drew blk_set
theorem Up.blk {W w1 : World} (hb : Up W w1) {b : Nat} {o : Obj} (h : mblk W b = some o) : mblk w1 b = some o :=
  (Below.block hb b (blk_lt h)).trans h
theorem Up.cellOf {W w1 : World} (hb : Up W w1) {b j : Nat} {o : Obj} {v : Value} (h : mblk W b = some o) (hv : W.cell? ⟨b, j, none⟩ = some v) : w1.cell? ⟨b, j, none⟩ = some v :=
  (Below.cell hb (p := ⟨b, j, none⟩) (blk_lt h)).trans hv
theorem cellB {w : World} {b : Nat} {cs : Array Value} {t : TypeId} {fr : Nat × Nat} (h : mblk w b = some (.cells cs t fr)) (j : Nat) : w.cell? ⟨b, j, none⟩ = cs[j]? := cell_of_row w b j cs t fr h
theorem frozB {w : World} {b : Nat} {cs : Array Value} {t : TypeId} (h : mblk w b = some (.cells cs t (0, 0))) (j : Nat) : w.frozen? ⟨b, j, none⟩ = false := by
  have h' : w.heap[b]? = some (.cells cs t (0, 0)) := h
  simp [World.frozen?, h']
theorem blk_put {w : World} {b : Nat} {cs : Array Value} {t : TypeId} {fr : Nat × Nat} (h : mblk w b = some (.cells cs t fr)) (j : Nat) (v : Value) : mblk (w.setCell ⟨b, j, none⟩ v) b = some (.cells (cs.setIfInBounds j v) t fr) := by
  have h' : w.heap[b]? = some (.cells cs t fr) := h
  show (w.setCell ⟨b, j, none⟩ v).heap[b]? = _
  simp only [World.setCell, Array.getElem?_modify, h', if_true, Option.map_some]
  rfl
/-- is a number from one to another one? -/
def inB (n l h : Int) : Bool := decide (l ≤ n ∧ n ≤ h)
theorem inB_yes {n l h : Int} (h1 : l ≤ n) (h2 : n ≤ h) : inB n l h = true := by simp [inB, h1, h2]
theorem inB_no {n l h : Int} (h1 : ¬ (l ≤ n ∧ n ≤ h)) : inB n l h = false := by simp only [inB, h1, decide_false]
theorem inB_iff {n l h : Int} : inB n l h = true ↔ l ≤ n ∧ n ≤ h := by simp [inB]
theorem tdiv_floor (n k : Int) (hk : 1 ≤ k) (h : n.tmod k < 0) : n.tdiv k - 1 = n / k := by
  have e := Int.mul_tdiv_add_tmod n k
  have f : k * (n.tdiv k - 1) + (n.tmod k + k) = n := by rw [Int.mul_sub]; omega
  have lo : -k < n.tmod k := by
    have a := Int.tmod_lt_of_pos (-n) (b := k) (by omega)
    rw [Int.neg_tmod] at a
    omega
  exact ((Int.ediv_emod_unique (a := n) (b := k) (r := n.tmod k + k) (q := n.tdiv k - 1) (by omega)).2 ⟨by omega, by omega, by omega⟩).1.symm
theorem tdiv_pos (n k : Int) (hk : 1 ≤ k) (h : 0 ≤ n.tmod k) : n.tdiv k = n / k := by
  have e := Int.mul_tdiv_add_tmod n k
  have hi : n.tmod k < k := Int.tmod_lt_of_pos n (by omega)
  exact ((Int.ediv_emod_unique (a := n) (b := k) (r := n.tmod k) (q := n.tdiv k) (by omega)).2 ⟨by omega, by omega, by omega⟩).1.symm

theorem tmod_neg (n k : Int) (hk : 1 ≤ k) (h : n.tmod k < 0) : n.tmod k + k = n % k := by
  have a := tdiv_floor n k hk h
  have e := Int.mul_tdiv_add_tmod n k
  have f := Int.emod_add_mul_ediv n k
  rw [← a, Int.mul_sub] at f
  omega
theorem tmod_pos (n k : Int) (hk : 1 ≤ k) (h : 0 ≤ n.tmod k) : n.tmod k = n % k := by
  have a := tdiv_pos n k hk h
  have e := Int.mul_tdiv_add_tmod n k
  have f := Int.emod_add_mul_ediv n k
  rw [← a] at f
  omega
theorem set4_same {w : World} {b : Nat} {a0 a1 a2 a3 : Value} {t : TypeId} {fr : Nat × Nat} (h : mblk w b = some (.cells #[a0, a1, a2, a3] t fr)) (v0 v1 v2 v3 : Value) :
    mblk ((((w.setCell ⟨b, 0, none⟩ v0).setCell ⟨b, 1, none⟩ v1).setCell ⟨b, 2, none⟩ v2).setCell ⟨b, 3, none⟩ v3) b = some (.cells #[v0, v1, v2, v3] t fr) := by
  have q := blk_put (blk_put (blk_put (blk_put h 0 v0) 1 v1) 2 v2) 3 v3
  simpa using q
theorem set4_other (w : World) {b n : Nat} (hn : n ≠ b) (v0 v1 v2 v3 : Value) :
    mblk ((((w.setCell ⟨b, 0, none⟩ v0).setCell ⟨b, 1, none⟩ v1).setCell ⟨b, 2, none⟩ v2).setCell ⟨b, 3, none⟩ v3) n = mblk w n := by
  rw [blk_set _ _ _ _ hn, blk_set _ _ _ _ hn, blk_set _ _ _ _ hn, blk_set _ _ _ _ hn]
theorem Up.set4 {w w' : World} (h : Up w w') {b : Nat} (hb : w.heap.size ≤ b) (v0 v1 v2 v3 : Value) :
    Up w ((((w'.setCell ⟨b, 0, none⟩ v0).setCell ⟨b, 1, none⟩ v1).setCell ⟨b, 2, none⟩ v2).setCell ⟨b, 3, none⟩ v3) :=
  (((h.set hb v0).set hb v1).set hb v2).set hb v3

theorem Try.infoInt : (Try.prog.info? 3).map (fun i => (i.zero, i.size, i.bytes)) = some (some (.int .i64 0), 1, 8) := by kernel_rfl

theorem grown_blk {w w' : World} {row : Option Nat} {b : Nat} {o : Obj} (hg : w.grownBy w' row) (h : mblk w b = some o) (hne : some b ≠ row) : mblk w' b = some o :=
  (hg.block b (blk_lt h) hne).trans h
theorem Up.grown {w w1 w2 : World} {row : Option Nat} (h : Up w w1) (hg : w1.grownBy w2 row) (hr : ∀ k, row = some k → w.heap.size ≤ k) : Up w w2 := Below.grown h hg h.size hr

theorem Up.setRow {w w' : World} (h : Up w w') {g : Nat} (hg : w.heap.size ≤ g) (cs : Array Value) : Up w (w'.setRow g cs) where
  os := h.os
  tape := h.tape
  output := h.output
  size := by
    have := h.size
    simpa [World.setRow] using this
  block k hk := by
    have e : (w'.setRow g cs).heap[k]? = w'.heap[k]? := by
      simp only [World.setRow, Array.getElem?_modify]
      rw [if_neg (by omega)]
    rw [e]
    exact Below.block h k hk
theorem blk_setRow {w : World} {g : Nat} {old : Array Value} {t : TypeId} {fr : Nat × Nat} (h : mblk w g = some (.cells old t fr)) (cs : Array Value) : mblk (w.setRow g cs) g = some (.cells cs t fr) := setRow_heap w g old cs t fr h
/-- a new slice that holds these numbers; nil if there are none -/
def D.newInts (w w' : World) (v : Value) (xs : List Int) : Prop :=
  (xs = [] ∧ v = .slice none 0 0) ∨ ∃ g, v = .slice (some ⟨g, 0, none⟩) xs.length xs.length ∧ w.heap.size ≤ g ∧ g < w'.heap.size ∧ ∀ j, j < xs.length → w'.cell? ⟨g, j, none⟩ = (xs.map (Value.int .i64))[j]?

/-- a slice of numbers, in memory -/
structure Ints (w : World) (v : Value) (xs : List Int) : Prop where
  mk :: (is : ∃ a c, v = .slice a xs.length c ∧ xs.length ≤ c ∧ xs.length ≤ 9223372036854775807 ∧ (0 < xs.length → ∃ g off, a = some ⟨g, off, none⟩ ∧ g < w.heap.size ∧ ∀ j, j < xs.length → w.cell? ⟨g, off + j, none⟩ = some (.int .i64 (xs.getD j 0))))
theorem Ints.up {w w' : World} {v : Value} {xs : List Int} (h : Ints w v xs) (u : Up w w') : Ints w' v xs := by
  obtain ⟨a, c, e, hc, hl, hm⟩ := h.is
  refine ⟨a, c, e, hc, hl, fun h0 => ?_⟩
  obtain ⟨g, off, e1, e2, e3⟩ := hm h0
  exact ⟨g, off, e1, by have := u.size; omega, fun j hj => (u.facts.1 g _ e2).trans (e3 j hj)⟩
theorem Ints.nil (w : World) : Ints w (.slice none 0 0) [] := ⟨none, 0, rfl, Nat.le_refl _, by simp, fun h => by simp at h⟩
theorem Ints.new {w : World} {g cap : Nat} {cs : Array Value} {t : TypeId} {fr : Nat × Nat} {xs : List Int} (h : mblk w g = some (.cells cs t fr)) (hc : xs.length ≤ cap) (hl : xs.length ≤ 9223372036854775807) (hx : ∀ j, j < xs.length → cs[j]? = some (.int .i64 (xs.getD j 0))) : Ints w (.slice (some ⟨g, 0, none⟩) xs.length cap) xs :=
  ⟨_, _, rfl, hc, hl, fun _ => ⟨g, 0, rfl, blk_lt h, fun j hj => by rw [cellB h, Nat.zero_add]; exact hx j hj⟩⟩
theorem D.newInts.ints {w w' : World} {v : Value} {xs : List Int} (h : D.newInts w w' v xs) (hl : xs.length ≤ 1000000) : Ints w' v xs := by
  rcases h with ⟨rfl, rfl⟩ | ⟨g, rfl, _, g2, hc⟩
  · exact Ints.nil _
  · refine ⟨_, _, rfl, Nat.le_refl _, by omega, fun _ => ⟨g, 0, rfl, g2, fun j hj => ?_⟩⟩
    rw [Nat.zero_add, hc j hj, List.getElem?_map, List.getD_eq_getElem?_getD, List.getElem?_eq_getElem hj]
    rfl
theorem D.add_at (b off j : Nat) : (⟨b, off, none⟩ : Addr).add j = ⟨b, off + j, none⟩ := by
  unfold Addr.add
  split
  · rename_i h; subst h; rfl
  · rfl
theorem Ints.drop {w : World} {a : Option Addr} {n c : Nat} {xs : List Int} (I : Ints w (.slice a n c) xs) (k : Nat) : Ints w (.slice (a.map fun x => x.add k) (n - k) (n - k)) (xs.drop k) := by
  obtain ⟨a', c', e, hc, hl, hm⟩ := I.is
  injection e with e1 e2 e3
  subst e1 e2 e3
  refine ⟨_, _, by rw [List.length_drop], by rw [List.length_drop]; exact Nat.le_refl _, by rw [List.length_drop]; omega, fun h => ?_⟩
  rw [List.length_drop] at h
  obtain ⟨g, off, rfl, gl, hx⟩ := hm (by omega)
  refine ⟨g, off + k, by rw [Option.map_some, D.add_at], gl, fun j hj => ?_⟩
  rw [List.length_drop] at hj
  rw [Nat.add_assoc, hx (k + j) (by omega), List.getD_eq_getElem?_getD, List.getD_eq_getElem?_getD, List.getElem?_drop]
theorem Ints.clip {w : World} {a : Option Addr} {n c : Nat} {xs : List Int} (I : Ints w (.slice a n c) xs) : Ints w (.slice a n n) xs := by
  obtain ⟨a', c', e, hc, hl, hm⟩ := I.is
  injection e with e1 e2 e3
  subst e1 e2 e3
  exact ⟨_, _, rfl, Nat.le_refl _, hl, hm⟩
theorem Ints.len {w : World} {a : Option Addr} {n c : Nat} {xs : List Int} (I : Ints w (.slice a n c) xs) : n = xs.length := by
  obtain ⟨a', c', e, hc, hl, hm⟩ := I.is
  injection e
def D.in64 (a : Int) : Prop := -9223372036854775808 ≤ a ∧ a ≤ 9223372036854775807
theorem wrap_in {a : Int} (h : D.in64 a) : wrap64 a = a := by unfold wrap64; unfold D.in64 at h; omega

end Go.Proofs.Ytcadpdbadgejfaa

/- The contracts of scale's smallest functions: within, sum, isSpan, newRule. -/
namespace Go.Proofs.Ytcadpdbadgejfaa
open Go.RowKit

/-- a rule's value -/
abbrev RV (f s j dl dh : Int) : Value := .agg #[.int .i64 f, .int .i64 s, .int .i64 j, .int .i64 dl, .int .i64 dh]
theorem cell_rule {w : World} {b : Nat} {cs : Array Value} (h : mblk w b = some (.cells cs 79 (0, 0))) (j : Nat) : w.cell? ⟨b, j, none⟩ = cs[j]? := cellB h j
theorem cell_RULE {w : World} {b : Nat} {cs : Array Value} (h : mblk w b = some (.cells cs 25 (0, 0))) (j : Nat) : w.cell? ⟨b, j, none⟩ = cs[j]? := cellB h j
theorem cell_Span {w : World} {b : Nat} {cs : Array Value} (h : mblk w b = some (.cells cs 23 (0, 0))) (j : Nat) : w.cell? ⟨b, j, none⟩ = cs[j]? := cellB h j
attribute [go_sem] cell_rule cell_RULE cell_Span

theorem within_any (n l h : Int) (w : World) : Calls Try.prog 65 #[.int .i64 n, .int .i64 l, .int .i64 h] w fun e w' => e = .returned (.bool (inB n l h)) ∧ w = w' := by
  by_cases h1 : l ≤ n
  · by_cases h2 : n ≤ h
    · go_enter Try.func65, Try.ntmps65
      go_wp2
      go_ret
      exact ⟨by rw [inB_yes h1 h2]; rfl, rfl⟩
    · go_enter Try.func65, Try.ntmps65
      go_wp2
      go_ret
      exact ⟨by rw [inB_no (by omega)]; rfl, rfl⟩
  · go_enter Try.func65, Try.ntmps65
    go_wp2
    go_ret
    exact ⟨by rw [inB_no (by omega)]; rfl, rfl⟩
theorem within_yes (n l h : Int) (w : World) (h1 : l ≤ n) (h2 : n ≤ h) : Calls Try.prog 65 #[.int .i64 n, .int .i64 l, .int .i64 h] w fun e w' => e = .returned (.bool true) ∧ w = w' :=
  (within_any n l h w).mono fun e w' ⟨he, hw⟩ => ⟨by rw [he, inB_yes h1 h2], hw⟩
theorem within_no (n l h : Int) (w : World) (h1 : ¬ (l ≤ n ∧ n ≤ h)) : Calls Try.prog 65 #[.int .i64 n, .int .i64 l, .int .i64 h] w fun e w' => e = .returned (.bool false) ∧ w = w' :=
  (within_any n l h w).mono fun e w' ⟨he, hw⟩ => ⟨by rw [he, inB_no h1], hw⟩

theorem ret_bool {a b : Bool} (h : a = b) : Ending.returned (.bool a) = .returned (.bool b) := by rw [h]
theorem wrap_add (a b : Int) : wrap64 (wrap64 a + b) = wrap64 (a + b) := by
  unfold wrap64; omega
theorem S.tot_take (zs : List Int) (k : Nat) (hk : k < zs.length) : (zs.take (k + 1)).sum = (zs.take k).sum + zs.getD k 0 := by
  rw [List.take_succ_eq_append_getElem hk, List.sum_append, List.getD_eq_getElem?_getD, List.getElem?_eq_getElem hk]
  simp
set_option maxRecDepth 100000 in
theorem sum_any {v : Value} {zs : List Int} {w : World} (I : Ints w v zs) :
    Calls Try.prog 71 #[v] w fun e w' => e = .returned (.int .i64 (wrap64 zs.sum)) ∧ w = w' := by
  obtain ⟨a, c, rfl, _, hl, hm⟩ := I.is
  have HM := Lib.hid hm
  clear hm I
  go_enter Try.func71, Try.ntmps71
  go_wp2
  go_loop [3, 8, 5] (fun t i _ => ∃ k : Nat, k ≤ zs.length ∧ i = .int .i64 k ∧ t = .int .i64 (wrap64 (zs.take k).sum)) (fun _ i _ => zs.length - (intOf i).toNat)
  case atStart => exact ⟨0, Nat.zero_le _, rfl, by simp [wrap64]⟩
  case round =>
    obtain ⟨k, hk, rfl, rfl⟩ := hrel
    by_cases hlt : k < zs.length
    · obtain ⟨g, off, rfl, _, hc⟩ := HM.out (by omega)
      have hcell := hc k hlt
      have hts := Lib.hid (S.tot_take zs k hlt)
      generalize zs.getD k 0 = z at *
      generalize hT : (zs.take k).sum = T at *
      have HT := Lib.hid hT
      clear hT hc
      go_wp2
      go_round
      case rel => exact ⟨k + 1, by omega, by go_num, by rw [hts.out, wrap_add]⟩
      case measure => simp [intOf]; omega
    · go_wp2
      go_ret
      exact ⟨ret_int (by rw [List.take_of_length_le (by omega)]), rfl⟩

/-- is a span one, no farther than a number to both sides? -/
def S.spanOk (l h m : Int) : Bool := inB l (-m) h && decide (h ≤ m)
theorem S.spanOk_iff {l h m : Int} : S.spanOk l h m = true ↔ -m ≤ l ∧ l ≤ h ∧ h ≤ m := by simp [S.spanOk, inB_iff, and_assoc]
theorem isSpan_any (l h m : Int) (w : World) (m0 : 0 ≤ m) (m1 : m ≤ 1000000) : Calls Try.prog 81 #[.agg #[.int .i64 l, .int .i64 h], .int .i64 m] w fun e w' => e = .returned (.bool (S.spanOk l h m)) ∧ Up w w' := by
  have U := (Up.refl w).alloc (.cells #[.int .i64 l, .int .i64 h] 23)
  by_cases h1 : -m ≤ l ∧ l ≤ h
  · by_cases h2 : h ≤ m
    · have e : S.spanOk l h m = true := S.spanOk_iff.2 ⟨h1.1, h1.2, h2⟩
      rw [e]
      clear e
      go_enter Try.func81, Try.ntmps81
      go_wp2_with (go_at_call 65; refine (within_yes _ _ _ _ (by omega) (by omega)).mono ?_; rintro e w1 ⟨rfl, rfl⟩)
      go_ret
      exact ⟨rfl, U⟩
    · have e : S.spanOk l h m = false := by simp [S.spanOk, h2]
      rw [e]
      clear e
      go_enter Try.func81, Try.ntmps81
      go_wp2_with (go_at_call 65; refine (within_yes _ _ _ _ (by omega) (by omega)).mono ?_; rintro e w1 ⟨rfl, rfl⟩)
      go_ret
      exact ⟨ret_bool (a := decide (h ≤ m)) (b := false) (decide_eq_false (by omega)), U⟩
  · have e : S.spanOk l h m = false := by simp [S.spanOk, inB_no h1]
    rw [e]
    clear e
    go_enter Try.func81, Try.ntmps81
    go_wp2_with (go_at_call 65; refine (within_no _ _ _ _ (by omega)).mono ?_; rintro e w1 ⟨rfl, rfl⟩)
    go_ret
    exact ⟨rfl, U⟩

/-- is a rule valid? -/
def S.ok (f s j dl dh : Int) : Bool := inB f 0 500 && (inB s 0 500 && (inB j 1 500 && S.spanOk dl dh 100))
theorem S.ok_iff {f s j dl dh : Int} : S.ok f s j dl dh = true ↔ (0 ≤ f ∧ f ≤ 500) ∧ (0 ≤ s ∧ s ≤ 500) ∧ (1 ≤ j ∧ j ≤ 500) ∧ (-100 ≤ dl ∧ dl ≤ dh ∧ dh ≤ 100) := by simp [S.ok, inB_iff, S.spanOk_iff]
abbrev RZ : Value := .agg #[.int .i64 0, .int .i64 0, .int .i64 0, .int .i64 0, .int .i64 0]

set_option maxRecDepth 100000 in
theorem newRule_yes {f s j dl dh : Int} (w : World) (h : S.ok f s j dl dh = true) : Calls Try.prog 54 #[RV f s j dl dh] w fun e w' => e = .returned (.tuple #[RV f s j dl dh, .int .i64 0]) ∧ Up w w' := by
  obtain ⟨⟨f1, f2⟩, ⟨s1, s2⟩, ⟨j1, j2⟩, hd⟩ := S.ok_iff.1 h
  have K := Lib.hid (fun w => show Calls Try.prog 81 #[.agg #[.int .i64 dl, .int .i64 dh], .int .i64 100] w fun e w' => e = .returned (.bool true) ∧ Up w w' by rw [← S.spanOk_iff.2 hd]; exact isSpan_any _ _ _ w (by omega) (by omega))
  have U0 := ((Up.refl w).alloc (.cells #[.int .i64 f, .int .i64 s, .int .i64 j, .int .i64 dl, .int .i64 dh] 25)).alloc (.cells #[.int .i64 0, .int .i64 0, .int .i64 0, .int .i64 0, .int .i64 0] 79)
  have k0 := blk_new (w.alloc (.cells #[.int .i64 f, .int .i64 s, .int .i64 j, .int .i64 dl, .int .i64 dh] 25)) (.cells #[.int .i64 0, .int .i64 0, .int .i64 0, .int .i64 0, .int .i64 0] 79) (w.heap.size + 1) (by simp)
  have l0 := blk_keep (.cells #[.int .i64 0, .int .i64 0, .int .i64 0, .int .i64 0, .int .i64 0] 79) (blk_new w (.cells #[.int .i64 f, .int .i64 s, .int .i64 j, .int .i64 dl, .int .i64 dh] 25) w.heap.size rfl)
  clear h hd
  go_enter Try.func54, Try.ntmps54
  go_wp2_with (go_at_call 65; refine (within_yes _ _ _ _ (by omega) (by omega)).mono ?_; rintro e w1 ⟨rfl, rfl⟩)
  refine (K.out _).mono ?_
  rintro e w1 ⟨rfl, u1⟩
  have k1 := u1.blk k0
  have l1 := u1.blk l0
  have z1 := frozB k1
  have U1 := U0.trans u1
  clear u1 k0 l0 U0 K
  have c := cellB (blk_put (blk_put (blk_put (blk_put (blk_put k1 0 (.int .i64 f)) 1 (.int .i64 s)) 2 (.int .i64 j)) 3 (.int .i64 dl)) 4 (.int .i64 dh))
  have n0 : w.heap.size ≤ w.heap.size + 1 := by omega
  have UE := ((((U1.set (p := ⟨w.heap.size + 1, 0, none⟩) n0 (.int .i64 f)).set (p := ⟨w.heap.size + 1, 1, none⟩) n0 (.int .i64 s)).set (p := ⟨w.heap.size + 1, 2, none⟩) n0 (.int .i64 j)).set (p := ⟨w.heap.size + 1, 3, none⟩) n0 (.int .i64 dl)).set (p := ⟨w.heap.size + 1, 4, none⟩) n0 (.int .i64 dh)
  clear n0
  have C := Lib.hid c
  clear c
  go_wp2_with fail
  have c := C.out
  exact bodyPost_ret (v := .tuple #[RV f s j dl dh, .int .i64 0]) (by simp [results, Try.results54, go_sem, c]) rfl ⟨rfl, UE⟩

set_option maxRecDepth 100000 in
theorem newRule_no {f s j dl dh : Int} (w : World) (h : S.ok f s j dl dh = false) : Calls Try.prog 54 #[RV f s j dl dh] w fun e w' => e = .returned (.tuple #[RZ, .int .i64 40]) ∧ Up w w' := by
  have U0 := ((Up.refl w).alloc (.cells #[.int .i64 f, .int .i64 s, .int .i64 j, .int .i64 dl, .int .i64 dh] 25)).alloc (.cells #[.int .i64 0, .int .i64 0, .int .i64 0, .int .i64 0, .int .i64 0] 79)
  have k0 := blk_new (w.alloc (.cells #[.int .i64 f, .int .i64 s, .int .i64 j, .int .i64 dl, .int .i64 dh] 25)) (.cells #[.int .i64 0, .int .i64 0, .int .i64 0, .int .i64 0, .int .i64 0] 79) (w.heap.size + 1) (by simp)
  by_cases hf : 0 ≤ f ∧ f ≤ 500
  · by_cases hs : 0 ≤ s ∧ s ≤ 500
    · by_cases hj : 1 ≤ j ∧ j ≤ 500
      · have hd : S.spanOk dl dh 100 = false := by
          cases hd : S.spanOk dl dh 100
          · rfl
          · rw [S.ok_iff.2 ⟨hf, hs, hj, S.spanOk_iff.1 hd⟩] at h; cases h
        have K := Lib.hid (fun w => show Calls Try.prog 81 #[.agg #[.int .i64 dl, .int .i64 dh], .int .i64 100] w fun e w' => e = .returned (.bool false) ∧ Up w w' by rw [← hd]; exact isSpan_any _ _ _ w (by omega) (by omega))
        obtain ⟨f1, f2⟩ := hf
        obtain ⟨s1, s2⟩ := hs
        obtain ⟨j1, j2⟩ := hj
        clear h hd
        go_enter Try.func54, Try.ntmps54
        go_wp2_with (go_at_call 65; refine (within_yes _ _ _ _ (by omega) (by omega)).mono ?_; rintro e w1 ⟨rfl, rfl⟩)
        refine (K.out _).mono ?_
        rintro e w1 ⟨rfl, u1⟩
        have k1 := u1.blk k0
        have z1 := frozB k1
        have U1 := U0.trans u1
        clear u1 k0 U0 K
        have c := cellB (blk_put (blk_put (blk_put (blk_put (blk_put k1 0 (.int .i64 0)) 1 (.int .i64 0)) 2 (.int .i64 0)) 3 (.int .i64 0)) 4 (.int .i64 0))
        have n0 : w.heap.size ≤ w.heap.size + 1 := by omega
        have UE := ((((U1.set (p := ⟨w.heap.size + 1, 0, none⟩) n0 (.int .i64 0)).set (p := ⟨w.heap.size + 1, 1, none⟩) n0 (.int .i64 0)).set (p := ⟨w.heap.size + 1, 2, none⟩) n0 (.int .i64 0)).set (p := ⟨w.heap.size + 1, 3, none⟩) n0 (.int .i64 0)).set (p := ⟨w.heap.size + 1, 4, none⟩) n0 (.int .i64 0)
        clear n0
        have C := Lib.hid c
        clear c
        go_wp2_with fail
        have c := C.out
        exact bodyPost_ret (v := .tuple #[RZ, .int .i64 40]) (by simp [results, Try.results54, go_sem, c]) rfl ⟨rfl, UE⟩
      · clear h
        obtain ⟨f1, f2⟩ := hf
        obtain ⟨s1, s2⟩ := hs
        go_enter Try.func54, Try.ntmps54
        go_wp2_with (first | (go_at_call 65; refine (within_yes _ _ _ _ (by omega) (by omega)).mono ?_; rintro e w1 ⟨rfl, rfl⟩) | (go_at_call 65; refine (within_no _ _ _ _ (by omega)).mono ?_; rintro e w1 ⟨rfl, rfl⟩))
        exact bodyPost_ret (v := .tuple #[RZ, .int .i64 40]) (by simp [results, Try.results54, go_sem]) rfl ⟨rfl, U0⟩
    · clear h
      obtain ⟨f1, f2⟩ := hf
      go_enter Try.func54, Try.ntmps54
      go_wp2_with (first | (go_at_call 65; refine (within_yes _ _ _ _ (by omega) (by omega)).mono ?_; rintro e w1 ⟨rfl, rfl⟩) | (go_at_call 65; refine (within_no _ _ _ _ (by omega)).mono ?_; rintro e w1 ⟨rfl, rfl⟩))
      exact bodyPost_ret (v := .tuple #[RZ, .int .i64 40]) (by simp [results, Try.results54, go_sem]) rfl ⟨rfl, U0⟩
  · clear h
    go_enter Try.func54, Try.ntmps54
    go_wp2_with (first | (go_at_call 65; refine (within_yes _ _ _ _ (by omega) (by omega)).mono ?_; rintro e w1 ⟨rfl, rfl⟩) | (go_at_call 65; refine (within_no _ _ _ _ (by omega)).mono ?_; rintro e w1 ⟨rfl, rfl⟩))
    exact bodyPost_ret (v := .tuple #[RZ, .int .i64 40]) (by simp [results, Try.results54, go_sem]) rfl ⟨rfl, U0⟩

end Go.Proofs.Ytcadpdbadgejfaa

/- The contracts of scale's keeps, endsSmoothly and isPlan. -/
namespace Go.Proofs.Ytcadpdbadgejfaa
open Go.RowKit

theorem S.keeps_drop {f s j : Int} {xs : List Int} {k : Nat} (hk : k < xs.length) (last : Int) : S.keeps f s j last (xs.drop k) = (inB (xs.getD k 0) (-s) f && (inB (xs.getD k 0 - last) (-j) j && S.keeps f s j (xs.getD k 0) (xs.drop (k + 1)))) := by
  rw [List.drop_eq_getElem_cons hk, S.keeps, List.getD_eq_getElem?_getD, List.getElem?_eq_getElem hk]
  simp only [inB, Option.getD_some, Bool.decide_and, Bool.and_assoc]

set_option maxRecDepth 100000 in
set_option maxHeartbeats 1000000 in
theorem keeps_any {f s j dl dh : Int} (hr : S.ok f s j dl dh = true) {v : Value} {xs : List Int} {w : World} (I : Ints w v xs) (most : Int) :
    Calls Try.prog 70 #[RV f s j dl dh, v, .int .i64 most] w fun e w' => e = .returned (.bool (decide ((xs.length : Int) ≤ most) && S.keeps f s j 0 xs)) ∧ Up w w' := by
  obtain ⟨⟨f1, f2⟩, ⟨s1, s2⟩, ⟨j1, j2⟩, hd⟩ := S.ok_iff.1 hr
  obtain ⟨a, c, rfl, _, hl, hm⟩ := I.is
  have HM := Lib.hid hm
  have U := (Up.refl w).alloc (.cells #[.int .i64 f, .int .i64 s, .int .i64 j, .int .i64 dl, .int .i64 dh] 79)
  clear hm I hr hd
  by_cases hlen : (xs.length : Int) ≤ most
  · rw [decide_eq_true hlen, Bool.true_and]
    go_enter Try.func70, Try.ntmps70
    go_wp2_with fail
    go_loopw [7, 16] (fun b i wr => ∃ (k : Nat) (last : Int), k ≤ xs.length ∧ i = .int .i64 k ∧ b = .int .i64 last ∧ -500 ≤ last ∧ last ≤ 500 ∧ Hid (S.keeps f s j 0 xs = S.keeps f s j last (xs.drop k)) ∧ mblk wr w.heap.size = some (.cells #[.int .i64 f, .int .i64 s, .int .i64 j, .int .i64 dl, .int .i64 dh] 79 (0, 0)) ∧ Up w wr) (fun _ i _ => xs.length - (intOf i).toNat)
    case atStart => exact ⟨0, 0, Nat.zero_le _, rfl, rfl, by omega, by omega, rfl, blk_new _ _ _ rfl, U⟩
    case round =>
      obtain ⟨k, last, hk, rfl, rfl, la, lb, hK, c1, V⟩ := hrel
      by_cases hlt : k < xs.length
      · obtain ⟨g, off, rfl, gl, hc⟩ := HM.out (by omega)
        have hcell := (V.facts.1 g _ gl).trans (hc k hlt)
        have st := S.keeps_drop (f := f) (s := s) (j := j) hlt last
        generalize xs.getD k 0 = x at *
        clear hc
        by_cases h1 : -s ≤ x ∧ x ≤ f
        · obtain ⟨a1, a2⟩ := h1
          rw [inB_yes a1 a2, Bool.true_and] at st
          have e1 : IntKind.i64.wrap (x - last) = x - last := IntWalk.i64_in _ (by omega)
          by_cases h2 : -j ≤ x - last ∧ x - last ≤ j
          · obtain ⟨b1, b2⟩ := h2
            rw [inB_yes b1 b2, Bool.true_and] at st
            have h3 : Hid (S.keeps f s j 0 xs = S.keeps f s j x (xs.drop (k + 1))) := hK.out.trans st
            clear hK st e1
            go_wp2_with (go_at_call 65; refine (within_yes _ _ _ _ (by omega) (by omega)).mono ?_; rintro e w1 ⟨rfl, rfl⟩)
            go_roundw
            case rel => exact ⟨k + 1, x, by omega, by go_num, rfl, by omega, by omega, h3, c1, V⟩
            case measure => simp [intOf]; omega
          · rw [inB_no h2, Bool.false_and] at st
            have h3 := Lib.hid (hK.out.trans st)
            clear hK st e1
            go_wp2_with (first | (go_at_call 65; refine (within_yes _ _ _ _ (by omega) (by omega)).mono ?_; rintro e w1 ⟨rfl, rfl⟩) | (go_at_call 65; refine (within_no _ _ _ _ (by omega)).mono ?_; rintro e w1 ⟨rfl, rfl⟩))
            go_ret
            exact ⟨by rw [h3.out]; rfl, V⟩
        · rw [inB_no h1, Bool.false_and] at st
          have h3 := Lib.hid (hK.out.trans st)
          clear hK st
          go_wp2_with (go_at_call 65; refine (within_no _ _ _ _ (by omega)).mono ?_; rintro e w1 ⟨rfl, rfl⟩)
          go_ret
          exact ⟨by rw [h3.out]; rfl, V⟩
      · have h3 : Hid (S.keeps f s j 0 xs = true) := by
          have := hK.out
          rw [List.drop_eq_nil_of_le (by omega)] at this
          exact this
        clear hK
        go_wp2
        go_ret
        exact ⟨by rw [h3.out]; rfl, V⟩
  · rw [decide_eq_false hlen, Bool.false_and]
    have hlt : most < (xs.length : Int) := by omega
    clear hlen
    go_enter Try.func70, Try.ntmps70
    go_wp2
    go_ret
    exact ⟨rfl, U⟩

set_option maxRecDepth 100000 in
theorem smooth_any {f s j dl dh : Int} (hr : S.ok f s j dl dh = true) {v : Value} {xs : List Int} {w : World} (I : Ints w v xs) :
    Calls Try.prog 82 #[RV f s j dl dh, v] w fun e w' => e = .returned (.bool (S.keeps f s j 0 (xs.drop (xs.length - 1)))) ∧ Up w w' := by
  have U := (Up.refl w).alloc (.cells #[.int .i64 f, .int .i64 s, .int .i64 j, .int .i64 dl, .int .i64 dh] 79)
  obtain ⟨a, c, rfl, hc, hl, hm⟩ := I.is
  by_cases h0 : xs.length = 0
  · have hx : xs = [] := List.length_eq_zero_iff.1 h0
    subst hx
    have hM : ∀ (ts : Array TypeId) (t' : TypeId) (w : World), (Builtin.max_ ts t' #[.int .i64 (-1), .int .i64 0]).run Try.prog w = .ok (.int .i64 0) w := fun ts t' w => by rw [run_max_int2]; rfl
    have h00 : ([] : List Int).length = 0 := rfl
    rw [h00]
    clear I hm hl hc h0 h00
    go_enter Try.func82, Try.ntmps82
    go_wp2_with fail
    refine (keeps_any hr (xs := []) ⟨_, _, rfl, Nat.le_refl _, by simp, fun h => by simp at h⟩ 1).mono ?_
    rintro e w1 ⟨rfl, u1⟩
    go_wp2
    go_ret
    exact ⟨rfl, U.trans u1⟩
  · have hM : ∀ (ts : Array TypeId) (t' : TypeId) (w : World), (Builtin.max_ ts t' #[.int .i64 ((xs.length : Int) - 1), .int .i64 0]).run Try.prog w = .ok (.int .i64 ((xs.length : Int) - 1)) w := fun ts t' w => by
      have e : (if 0 > (xs.length : Int) - 1 then 0 else (xs.length : Int) - 1) = (xs.length : Int) - 1 := by split <;> omega
      rw [run_max_int2, e]
    have KD : ∀ w', Up w w' → Calls Try.prog 70 #[RV f s j dl dh, .slice (a.map fun x => x.add (xs.length - 1)) (xs.length - (xs.length - 1)) (xs.length - (xs.length - 1)), .int .i64 1] w' fun e w'' => e = .returned (.bool (S.keeps f s j 0 (xs.drop (xs.length - 1)))) ∧ Up w' w'' := fun w' u => by
      have := keeps_any hr ((I.drop (xs.length - 1)).up u) 1
      rw [decide_eq_true (by rw [List.length_drop]; omega), Bool.true_and] at this
      exact this
    have HK := Lib.hid KD
    generalize S.keeps f s j 0 (xs.drop (xs.length - 1)) = q at *
    clear KD
    clear I hm
    go_enter Try.func82, Try.ntmps82
    go_wp2_with fail
    refine (HK.out _ U).mono ?_
    rintro e w1 ⟨rfl, u1⟩
    go_wp2
    go_ret
    exact ⟨rfl, U.trans u1⟩

theorem S.smooth_last {f s j : Int} {xs : List Int} : S.keeps f s j 0 (xs.drop (xs.length - 1)) = match xs.getLast? with | none => true | some x => inB x (-s) f && inB x (-j) j := by
  cases h : xs.getLast? with
  | none =>
    rw [List.getLast?_eq_none_iff] at h
    subst h; rfl
  | some x =>
    have hl : 0 < xs.length := by
      cases xs with
      | nil => simp at h
      | cons _ _ => simp
    rw [List.getLast?_eq_getElem?, List.getElem?_eq_getElem (by omega)] at h
    injection h with h
    rw [S.keeps_drop (by omega), List.drop_eq_nil_of_le (by omega), List.getD_eq_getElem?_getD, List.getElem?_eq_getElem (by omega), Option.getD_some, h]
    simp [S.keeps]
/-- is a list a plan? -/
def S.plans (f s j off : Int) (xs : List Int) : Bool := decide (xs.length ≤ 200) && (S.keeps f s j 0 xs && (S.keeps f s j 0 (xs.drop (xs.length - 1)) && decide (wrap64 xs.sum = -off)))

set_option maxRecDepth 100000 in
set_option maxHeartbeats 1000000 in
theorem isPlan_any {f s j dl dh : Int} (hr : S.ok f s j dl dh = true) (off : Int) (o1 : -20000 ≤ off) (o2 : off ≤ 20000) {v : Value} {xs : List Int} {w : World} (I : Ints w v xs) :
    Calls Try.prog 56 #[RV f s j dl dh, .int .i64 off, v] w fun e w' => e = .returned (.bool (S.plans f s j off xs)) ∧ Up w w' := by
  have U := (Up.refl w).alloc (.cells #[.int .i64 f, .int .i64 s, .int .i64 j, .int .i64 dl, .int .i64 dh] 79)
  have K1 := Lib.hid (keeps_any hr (I.up U) 200)
  have K2 := Lib.hid (fun w' (u : Up w w') => smooth_any hr (I.up u))
  have K3 := Lib.hid (fun w' (u : Up w w') => sum_any (I.up u))
  have E := Lib.hid (show S.plans f s j off xs = ((decide ((xs.length : Int) ≤ 200) && S.keeps f s j 0 xs) && (S.keeps f s j 0 (xs.drop (xs.length - 1)) && decide (wrap64 xs.sum = -off))) by
    unfold S.plans
    rw [Bool.and_assoc, decide_eq_decide.2 (show xs.length ≤ 200 ↔ (xs.length : Int) ≤ 200 by omega)])
  rw [E.out]
  clear E I hr
  generalize (decide ((xs.length : Int) ≤ 200) && S.keeps f s j 0 xs) = p1 at *
  generalize S.keeps f s j 0 (xs.drop (xs.length - 1)) = p2 at *
  generalize wrap64 xs.sum = t at *
  have w1' : IntKind.i64.wrap (-off) = -off := IntWalk.i64_in _ (by omega)
  cases p1
  · go_enter Try.func56, Try.ntmps56
    go_wp2_with fail
    refine K1.out.mono ?_
    rintro e w1 ⟨rfl, u1⟩
    go_wp2
    go_ret
    exact ⟨rfl, U.trans u1⟩
  · have k0 := blk_new w (.cells #[.int .i64 f, .int .i64 s, .int .i64 j, .int .i64 dl, .int .i64 dh] 79) _ rfl
    cases p2
    · go_enter Try.func56, Try.ntmps56
      go_wp2_with fail
      refine K1.out.mono ?_
      rintro e w1 ⟨rfl, u1⟩
      have k1 := u1.blk k0
      have U1 := U.trans u1
      clear u1 k0 U
      go_wp2_with fail
      refine (K2.out _ U1).mono ?_
      rintro e w2 ⟨rfl, u2⟩
      go_wp2
      go_ret
      exact ⟨rfl, U1.trans u2⟩
    · go_enter Try.func56, Try.ntmps56
      go_wp2_with fail
      refine K1.out.mono ?_
      rintro e w1 ⟨rfl, u1⟩
      have k1 := u1.blk k0
      have U1 := U.trans u1
      clear u1 k0 U
      go_wp2_with fail
      refine (K2.out _ U1).mono ?_
      rintro e w2 ⟨rfl, u2⟩
      have U2 := U1.trans u2
      clear u2 k1 U1
      go_wp2_with fail
      refine (K3.out _ U2).mono ?_
      rintro e w3 ⟨rfl, rfl⟩
      go_wp2
      go_ret
      exact ⟨ret_bool (a := (t == -off)) (by rw [Bool.eq_iff_iff]; simp), U2⟩

end Go.Proofs.Ytcadpdbadgejfaa
