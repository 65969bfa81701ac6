import Derived.Test.YtghelfbigbdkkaaProg
import Derived.WalkKit
import Derived.WalkLawsBesides
import Derived.WalkSpells
import Derived.Lib.Hide
import Derived.Laws.EntriesVeiled
import Derived.Deep.QuietTactic
import Derived.BigQuiet
import Derived.Deep.RegionHeld3
import Derived.Laws.Rows
/- Plain mathematics of a calendar: no program is imported here. -/
namespace Go.Proofs.Ytghelfbigbdkkaa
namespace D

/-- how many ticks the last minute of a day has: x is what is done to the day (1: a second is put in, 2: one is left out) -/
def lastM (s x : Int) : Int := if x = 1 then s + 1 else if x = 2 then s - 1 else s

/-- how many ticks a day has -/
def len (h m s x : Int) : Int := (h * m - 1) * s + lastM s x

theorem mul_bd (h m : Int) (h1 : 1 ≤ h) (h2 : h ≤ 24) (m1 : 1 ≤ m) (m2 : m ≤ 60) : 1 ≤ h * m ∧ h * m ≤ 1440 := by
  have a := Int.mul_le_mul h1 m1 (by omega) (by omega)
  have b := Int.mul_le_mul h2 m2 (by omega) (by omega)
  omega

theorem mul_bd2 (p s : Int) (p0 : 0 ≤ p) (p1 : p ≤ 1440) (s1 : 0 ≤ s) (s2 : s ≤ 60) : 0 ≤ p * s ∧ p * s ≤ 86400 := by
  have a := Int.mul_nonneg p0 s1
  have b := Int.mul_le_mul p1 s2 s1 (by omega)
  omega

theorem lastM_bd (s x : Int) : s - 1 ≤ lastM s x ∧ lastM s x ≤ s + 1 := by
  unfold lastM; split
  · omega
  · split <;> omega

theorem len_bd (h m s x : Int) (h1 : 1 ≤ h) (h2 : h ≤ 24) (m1 : 1 ≤ m) (m2 : m ≤ 60) (s1 : 2 ≤ s) (s2 : s ≤ 60) : 1 ≤ len h m s x ∧ len h m s x ≤ 86401 := by
  have a := mul_bd h m h1 h2 m1 m2
  have b := mul_bd2 (h * m - 1) s (by omega) (by omega) (by omega) s2
  have c := lastM_bd s x
  have d : (h * m - 1) * s ≤ 1439 * s := Int.mul_le_mul_of_nonneg_right (by omega) (by omega)
  unfold len; omega

end D
end Go.Proofs.Ytghelfbigbdkkaa

/- The contracts of dial's small functions over a calendar. -/
namespace Go.Proofs.Ytghelfbigbdkkaa
open Go.RowKit

/-- a calendar's cells: its numbers, its decrees' slice, and what is done to each day -/
structure Cal (cs : Array Value) (h m s d : Int) (x : Nat → Int) : Prop where
  size : cs.size = 15
  c0 : cs[0]? = some (.int .i64 h)
  c1 : cs[1]? = some (.int .i64 m)
  c2 : cs[2]? = some (.int .i64 s)
  c3 : cs[3]? = some (.int .i64 d)
  cx : ∀ k, k < 10 → cs[5 + k]? = some (.int .i64 (x k))

section
variable {P : Program} {md : Region.Mode} {ops : Array Oper} {Q : Exit → Act → World → Prop} {S : World → Prop}
/-- an operation of a drawn region is taken first; the slot that it writes is named -/
theorem takeH {i : Nat} {d : Option Tmp} {oi : Oper} {v : Value} {fuel : Nat} {listed : Array Bool} {a : Act} {w : World} (hi : ops[i]? = some oi) (hd : oi.dst = d)
    (hs : Region.noSelect ops = true) (hf : Region.free md ops listed i = true) (hr : (Region.ready md ops listed).contains i = true)
    (hQ : ∀ c a w, Q (.panic c) (a.put oi.dst v) w → Q (.panic c) a w) (hw : Region.wanted oi (yielded ops a.tmps) = true) (hy : ∀ w, S w → (execOp a.eval oi).run P w = .ok (.value v) w) (hS : S w)
    (h : wpAnyH P md ops Q S fuel (listed.setIfInBounds i true) (a.put d v) w) : wpAnyH P md ops Q S (fuel + 1) listed a w := by
  subst hd; exact wpAnyH_take hi hs hf hr hQ (Or.inl ⟨hw, hy⟩) hS h
/-- an operation whose guard is false is passed over -/
theorem skipH {i : Nat} {d : Option Tmp} {oi : Oper} {fuel : Nat} {listed : Array Bool} {a : Act} {w : World} (hi : ops[i]? = some oi) (hd : oi.dst = d)
    (hs : Region.noSelect ops = true) (hf : Region.free md ops listed i = true) (hr : (Region.ready md ops listed).contains i = true)
    (hQ : ∀ c a w, Q (.panic c) (a.put oi.dst undef) w → Q (.panic c) a w) (hw : Region.wanted oi (yielded ops a.tmps) = false) (hS : S w)
    (h : wpAnyH P md ops Q S fuel (listed.setIfInBounds i true) (a.put d undef) w) : wpAnyH P md ops Q S (fuel + 1) listed a w := by
  subst hd; exact wpAnyH_take hi hs hf hr hQ (Or.inr ⟨hw, rfl⟩) hS h
end

theorem ret_int {k : IntKind} {a b : Int} (h : a = b) : Ending.returned (.int k a) = .returned (.int k b) := by rw [h]

/-- from a world on only new memory has been laid -/
def Up (w w' : World) : Prop := Below w.heap.size w w'
theorem Up.refl (w : World) : Up w w := Below.refl _ _
theorem Up.alloc {w w' : World} (h : Up w w') (o : Obj) : Up w (w'.alloc o) := Below.alloc h (Below.size h) o
theorem Up.drew {w w' : World} (h : Up w w') : Up w w'.drew := Below.drew h
theorem Up.trans {a b c : World} (h : Up a b) (k : Up b c) : Up a c := Below.trans h (Below.mono k (Below.size h))
theorem Up.set {w w' : World} (h : Up w w') {p : Addr} (hp : w.heap.size ≤ p.block) (u : Value) : Up w (w'.setCell p u) := Below.setCell h hp u
theorem Up.size {w w' : World} (h : Up w w') : w.heap.size ≤ w'.heap.size := Below.size h
theorem Up.facts {W w1 : World} (hb : Up W w1) : (∀ b o, b < W.heap.size → w1.cell? ⟨b, o, none⟩ = W.cell? ⟨b, o, none⟩) ∧ (∀ b o, b < W.heap.size → w1.frozen? ⟨b, o, none⟩ = W.frozen? ⟨b, o, none⟩) ∧ W.heap.size ≤ w1.heap.size :=
  ⟨fun b o h => Below.cell hb (p := ⟨b, o, none⟩) h, fun b o h => Below.frozen hb (p := ⟨b, o, none⟩) h, hb.size⟩
/-- the block of a number -/
def mblk (w : World) (b : Nat) : Option Obj := w.heap[b]?
theorem blk_new (w : World) (o : Obj) (n : Nat) (hn : n = w.heap.size) : mblk (w.alloc o) n = some o := by
  subst hn
  show (w.heap.push o)[w.heap.size]? = some o
  simp
theorem blk_past (w : World) (o : Obj) (n : Nat) (hn : n < w.heap.size) : mblk (w.alloc o) n = mblk w n :=
  Below.heap_alloc w o n hn
theorem blk_lt {w : World} {b : Nat} {o : Obj} (h : mblk w b = some o) : b < w.heap.size := (Array.getElem?_eq_some_iff.1 h).1
theorem blk_keep {w : World} (o : Obj) {n : Nat} {x : Obj} (h : mblk w n = some x) : mblk (w.alloc o) n = some x := by rw [blk_past w o n (blk_lt h)]; exact h
theorem blk_drew (w : World) (n : Nat) : mblk w.drew n = mblk w n := rfl
theorem blk_set (w : World) (a : Addr) (u : Value) (n : Nat) (hn : n ≠ a.block) : mblk (w.setCell a u) n = mblk w n := Below.heap_setCell w a u n hn
attribute [go_sem] blk_new blk_past blk_keep blk_drew blk_set
theorem Up.blk {W w1 : World} (hb : Up W w1) {b : Nat} {o : Obj} (h : mblk W b = some o) : mblk w1 b = some o :=
  (Below.block hb b (blk_lt h)).trans h
theorem Up.cellOf {W w1 : World} (hb : Up W w1) {b j : Nat} {o : Obj} {v : Value} (h : mblk W b = some o) (hv : W.cell? ⟨b, j, none⟩ = some v) : w1.cell? ⟨b, j, none⟩ = some v :=
  (Below.cell hb (p := ⟨b, j, none⟩) (blk_lt h)).trans hv
theorem cellB {w : World} {b : Nat} {cs : Array Value} {t : TypeId} {fr : Nat × Nat} (h : mblk w b = some (.cells cs t fr)) (j : Nat) : w.cell? ⟨b, j, none⟩ = cs[j]? := cell_of_row w b j cs t fr h
theorem frozB {w : World} {b : Nat} {cs : Array Value} {t : TypeId} (h : mblk w b = some (.cells cs t (0, 0))) (j : Nat) : w.frozen? ⟨b, j, none⟩ = false := by
  have h' : w.heap[b]? = some (.cells cs t (0, 0)) := h
  simp [World.frozen?, h']
theorem blk_put {w : World} {b : Nat} {cs : Array Value} {t : TypeId} {fr : Nat × Nat} (h : mblk w b = some (.cells cs t fr)) (j : Nat) (v : Value) : mblk (w.setCell ⟨b, j, none⟩ v) b = some (.cells (cs.setIfInBounds j v) t fr) := by
  have h' : w.heap[b]? = some (.cells cs t fr) := h
  show (w.setCell ⟨b, j, none⟩ v).heap[b]? = _
  simp only [World.setCell, Array.getElem?_modify, h', if_true, Option.map_some]
  rfl
theorem cell_cal {w : World} {b : Nat} {cs : Array Value} (h : mblk w b = some (.cells cs 62 (0, 0))) (j : Nat) : w.cell? ⟨b, j, none⟩ = cs[j]? := cellB h j
theorem cell_reading {w : World} {b : Nat} {cs : Array Value} (h : mblk w b = some (.cells cs 34 (0, 0))) (j : Nat) : w.cell? ⟨b, j, none⟩ = cs[j]? := cellB h j
theorem froz_reading {w : World} {b : Nat} {cs : Array Value} (h : mblk w b = some (.cells cs 34 (0, 0))) (j : Nat) : w.frozen? ⟨b, j, none⟩ = false := frozB h j
attribute [go_sem] cell_cal cell_reading
/-- a whole calendar is read out of a block -/
def calLoad (v : Value) : Sem Value := Instr.loadAt 62 v
theorem calLoad_eq (v : Value) : Instr.loadAt 62 v = calLoad v := rfl
theorem run_calLoad (w : World) (b : Nat) (cs : Array Value) (hg : mblk w b = some (.cells cs 62 (0, 0))) (hs : Hid (cs.size = 15)) : (calLoad (.pointer (some ⟨b, 0, none⟩))).run Try.prog w = .ok (.agg cs) w := by
  have e : (Try.prog.info? 62).map (·.size) = some 15 := by kernel_rfl
  have q := run_loadVar_row w b 62 62 cs (0, 0) _ hg Try.underlying62 rfl (by rw [e, hs.out])
  simp only [calLoad, Instr.loadAt, Instr.sureAddr, Sem.run_bind, Sem.run_pure, Result.andThen_ok, q]
attribute [go_sem ↓] calLoad_eq
attribute [go_sem] run_calLoad
theorem Cal.info {cs : Array Value} {h m s d : Int} {x : Nat → Int} (C : Cal cs h m s d x) : (Try.prog.info? 62).map (·.size) = some cs.size := by
  have e : (Try.prog.info? 62).map (·.size) = some 15 := by kernel_rfl
  rw [e, C.size]

/-- is a number from one to another one? -/
def inB (n l h : Int) : Bool := decide (l ≤ n ∧ n ≤ h)
theorem inB_yes {n l h : Int} (h1 : l ≤ n) (h2 : n ≤ h) : inB n l h = true := by simp [inB, h1, h2]
theorem inB_no {n l h : Int} (h1 : ¬ (l ≤ n ∧ n ≤ h)) : inB n l h = false := by simp only [inB, h1, decide_false]
theorem inB_iff {n l h : Int} : inB n l h = true ↔ l ≤ n ∧ n ≤ h := by simp [inB]
theorem within_any (n l h : Int) (w : World) : Calls Try.prog 27 #[.int .i64 n, .int .i64 l, .int .i64 h] w fun e w' => e = .returned (.bool (inB n l h)) ∧ w = w' := by
  by_cases h1 : l ≤ n
  · by_cases h2 : n ≤ h
    · go_enter Try.func27, Try.ntmps27
      go_wp2
      go_ret
      exact ⟨by rw [inB_yes h1 h2]; rfl, rfl⟩
    · go_enter Try.func27, Try.ntmps27
      go_wp2
      go_ret
      exact ⟨by rw [inB_no (by omega)]; rfl, rfl⟩
  · go_enter Try.func27, Try.ntmps27
    go_wp2
    go_ret
    exact ⟨by rw [inB_no (by omega)]; rfl, rfl⟩
theorem within_yes (n l h : Int) (w : World) (h1 : l ≤ n) (h2 : n ≤ h) : Calls Try.prog 27 #[.int .i64 n, .int .i64 l, .int .i64 h] w fun e w' => e = .returned (.bool true) ∧ w = w' :=
  (within_any n l h w).mono fun e w' ⟨he, hw⟩ => ⟨by rw [he, inB_yes h1 h2], hw⟩
theorem within_no (n l h : Int) (w : World) (h1 : ¬ (l ≤ n ∧ n ≤ h)) : Calls Try.prog 27 #[.int .i64 n, .int .i64 l, .int .i64 h] w fun e w' => e = .returned (.bool false) ∧ w = w' :=
  (within_any n l h w).mono fun e w' ⟨he, hw⟩ => ⟨by rw [he, inB_no h1], hw⟩

theorem tdiv_floor (n k : Int) (hk : 1 ≤ k) (h : n.tmod k < 0) : n.tdiv k - 1 = n / k := by
  have e := Int.mul_tdiv_add_tmod n k
  have f : k * (n.tdiv k - 1) + (n.tmod k + k) = n := by rw [Int.mul_sub]; omega
  have lo : -k < n.tmod k := by
    have a := Int.tmod_lt_of_pos (-n) (b := k) (by omega)
    rw [Int.neg_tmod] at a
    omega
  exact ((Int.ediv_emod_unique (a := n) (b := k) (r := n.tmod k + k) (q := n.tdiv k - 1) (by omega)).2 ⟨by omega, by omega, by omega⟩).1.symm
theorem tdiv_pos (n k : Int) (hk : 1 ≤ k) (h : 0 ≤ n.tmod k) : n.tdiv k = n / k := by
  have e := Int.mul_tdiv_add_tmod n k
  have hi : n.tmod k < k := Int.tmod_lt_of_pos n (by omega)
  exact ((Int.ediv_emod_unique (a := n) (b := k) (r := n.tmod k) (q := n.tdiv k) (by omega)).2 ⟨by omega, by omega, by omega⟩).1.symm

theorem floor_any (n k : Int) (w : World) (hk : 1 ≤ k) (hk2 : k ≤ 9223372036854775807) (hn : -9223372036854775808 ≤ n) (hn2 : n ≤ 9223372036854775807) : Calls Try.prog 57 #[.int .i64 n, .int .i64 k] w fun e w' => e = .returned (.int .i64 (n / k)) ∧ w = w' := by
  have b1 : -n.natAbs ≤ n.tdiv k ∧ n.tdiv k ≤ n.natAbs := by
    have := Int.natAbs_tdiv_le_natAbs n k
    omega
  by_cases h : n.tmod k < 0
  · have e := tdiv_floor n k hk h
    have f : 0 - 9223372036854775808 ≤ n / k := by
      have := Int.ediv_nonneg_iff_of_pos (a := n) (b := k) (by omega)
      have g : n < 0 := by
        by_cases q : 0 ≤ n
        · have := Int.tmod_nonneg k q; omega
        · omega
      have := Int.le_ediv_of_mul_le (a := -9223372036854775808) (b := n) (c := k) (by omega) (by omega)
      omega
    have H := Lib.hid e
    clear e
    have b2 : n.tdiv k ≤ 0 := by
      have g : n ≤ 0 := by
        by_cases q : 0 ≤ n
        · have := Int.tmod_nonneg k q; omega
        · omega
      have := Int.tdiv_nonneg (a := -n) (b := k) (by omega) (by omega)
      rw [Int.neg_tdiv] at this
      omega
    have b3 : -9223372036854775808 ≤ n.tdiv k - 1 := by rw [H.out]; omega
    go_enter Try.func57, Try.ntmps57
    go_wp2
    go_ret
    exact ⟨ret_int H.out, rfl⟩
  · have e := tdiv_pos n k hk (by omega)
    have H := Lib.hid e
    clear e
    go_enter Try.func57, Try.ntmps57
    go_wp2
    go_ret
    exact ⟨ret_int H.out, rfl⟩

theorem mod_any {cs : Array Value} {h m s d : Int} {x : Nat → Int} (C : Cal cs h m s d x) (w : World) (h1 : 1 ≤ h) (h2 : h ≤ 24) (m1 : 1 ≤ m) (m2 : m ≤ 60) : Calls Try.prog 38 #[.agg cs] w fun e w' => e = .returned (.int .i64 (h * m)) ∧ Up w w' := by
  obtain ⟨b1, b2⟩ := D.mul_bd h m h1 h2 m1 m2
  have q0 := C.c0
  have q1 := C.c1
  go_enter Try.func38, Try.ntmps38
  go_wp2
  go_ret
  exact ⟨rfl, (Up.refl _).alloc _⟩
theorem moh_any {cs : Array Value} {h m s d : Int} {x : Nat → Int} (C : Cal cs h m s d x) (w : World) : Calls Try.prog 61 #[.agg cs] w fun e w' => e = .returned (.int .i64 m) ∧ Up w w' := by
  have q1 := C.c1
  go_enter Try.func61, Try.ntmps61
  go_wp2
  go_ret
  exact ⟨rfl, (Up.refl _).alloc _⟩
theorem mom_any (cs : Array Value) (w : World) : Calls Try.prog 67 #[.agg cs] w fun e w' => e = .returned (.int .i64 1) ∧ Up w w' := by
  go_enter Try.func67, Try.ntmps67
  go_wp2
  go_ret
  exact ⟨rfl, (Up.refl _).alloc _⟩
theorem extra_any {cs : Array Value} {h m s d : Int} {x : Nat → Int} (C : Cal cs h m s d x) (w : World) : Calls Try.prog 63 #[.agg cs] w fun e w' => e = .returned (.int .i64 s) ∧ Up w w' := by
  have q2 := C.c2
  go_enter Try.func63, Try.ntmps63
  go_wp2
  go_ret
  exact ⟨rfl, (Up.refl _).alloc _⟩
theorem last_any {cs : Array Value} {h m s d : Int} {x : Nat → Int} (C : Cal cs h m s d x) (w : World) (s1 : 1 ≤ s) (s2 : s ≤ 1000) : Calls Try.prog 64 #[.agg cs] w fun e w' => e = .returned (.int .i64 (s - 1)) ∧ Up w w' := by
  have q2 := C.c2
  go_enter Try.func64, Try.ntmps64
  go_wp2
  go_ret
  exact ⟨rfl, (Up.refl _).alloc _⟩

theorem ending_1 (w : World) : Calls Try.prog 54 #[.int .i64 1] w fun e w' => e = .returned (.agg #[.func (.func 63) #[] #[], .bool true]) ∧ Up w w' := by
  go_enter Try.func54, Try.ntmps54
  go_wp2
  exact bodyPost_ret (v := .agg #[.func (.func 63) #[] #[], .bool true]) (by simp [results, Try.results54, go_sem]) rfl ⟨rfl, (Up.refl _).alloc _⟩
theorem ending_2 (w : World) : Calls Try.prog 54 #[.int .i64 2] w fun e w' => e = .returned (.agg #[.func (.func 64) #[] #[], .bool false]) ∧ Up w w' := by
  go_enter Try.func54, Try.ntmps54
  go_wp2
  exact bodyPost_ret (v := .agg #[.func (.func 64) #[] #[], .bool false]) (by simp [results, Try.results54, go_sem]) rfl ⟨rfl, (Up.refl _).alloc _⟩
theorem ending_0 (x : Int) (w : World) (h1 : (x == 1) = false) (h2 : (x == 2) = false) : Calls Try.prog 54 #[.int .i64 x] w fun e w' => e = .returned (.agg #[.func (.func 63) #[] #[], .bool false]) ∧ Up w w' := by
  go_enter Try.func54, Try.ntmps54
  go_wp2
  exact bodyPost_ret (v := .agg #[.func (.func 63) #[] #[], .bool false]) (by simp [results, Try.results54, go_sem]) rfl ⟨rfl, (Up.refl _).alloc _⟩

theorem lastMinute_any {cs : Array Value} {h m s d : Int} {x : Nat → Int} (C : Cal cs h m s d x) (k : Nat) (w : World) (hk : k < 10) (s1 : 2 ≤ s) (s2 : s ≤ 60) : Calls Try.prog 39 #[.agg cs, .int .i64 k] w fun e w' => e = .returned (.int .i64 (D.lastM s (x k))) ∧ Up w w' := by
  have hc := C.cx k hk
  have hs := Lib.hid C.size
  by_cases x1 : x k = 1
  · rw [x1] at hc
    have fin : D.lastM s (x k) = s + 1 := by simp [D.lastM, x1]
    have F := Lib.hid fin
    clear fin x1
    go_enter Try.func39, Try.ntmps39
    go_wp2_with fail
    refine (ending_1 _).mono ?_
    rintro e w1 ⟨rfl, u1⟩
    obtain ⟨c1, f1, z1⟩ := u1.facts
    have z1 : w.heap.size < w1.heap.size := by simp at z1; omega
    have b1 := u1.blk (blk_new _ _ _ rfl)
    go_wp2_with fail
    refine (extra_any C _).mono ?_
    rintro e w2 ⟨rfl, u2⟩
    go_wp2
    go_ret
    exact ⟨ret_int F.out.symm, ((((Up.refl _).alloc _).trans u1).alloc _).trans u2⟩
  · by_cases x2 : x k = 2
    · rw [x2] at hc
      have fin : D.lastM s (x k) = s - 1 := by simp [D.lastM, x2]
      have F := Lib.hid fin
      clear fin x1 x2
      go_enter Try.func39, Try.ntmps39
      go_wp2_with fail
      refine (ending_2 _).mono ?_
      rintro e w1 ⟨rfl, u1⟩
      obtain ⟨c1, f1, z1⟩ := u1.facts
      have z1 : w.heap.size < w1.heap.size := by simp at z1; omega
      have b1 := u1.blk (blk_new _ _ _ rfl)
      go_wp2_with fail
      refine (last_any C _ (by omega) (by omega)).mono ?_
      rintro e w2 ⟨rfl, u2⟩
      go_wp2
      go_ret
      exact ⟨ret_int F.out.symm, ((((Up.refl _).alloc _).trans u1).alloc _).trans u2⟩
    · have fin : D.lastM s (x k) = s := by simp [D.lastM, x1, x2]
      have F := Lib.hid fin
      have y1 : (x k == 1) = false := by simpa using x1
      have y2 : (x k == 2) = false := by simpa using x2
      clear fin x1 x2
      go_enter Try.func39, Try.ntmps39
      go_wp2_with fail
      refine (ending_0 _ _ y1 y2).mono ?_
      rintro e w1 ⟨rfl, u1⟩
      obtain ⟨c1, f1, z1⟩ := u1.facts
      have z1 : w.heap.size < w1.heap.size := by simp at z1; omega
      have b1 := u1.blk (blk_new _ _ _ rfl)
      go_wp2_with fail
      refine (extra_any C _).mono ?_
      rintro e w2 ⟨rfl, u2⟩
      go_wp2
      go_ret
      exact ⟨ret_int F.out.symm, ((((Up.refl _).alloc _).trans u1).alloc _).trans u2⟩

theorem length_any {cs : Array Value} {h m s d : Int} {x : Nat → Int} (C : Cal cs h m s d x) (k : Nat) (w : World) (hk : k < 10) (h1 : 1 ≤ h) (h2 : h ≤ 24) (m1 : 1 ≤ m) (m2 : m ≤ 60) (s1 : 2 ≤ s) (s2 : s ≤ 60) : Calls Try.prog 22 #[.agg cs, .int .i64 k] w fun e w' => e = .returned (.int .i64 (D.len h m s (x k))) ∧ Up w w' := by
  have hs := Lib.hid C.size
  have q2 := C.c2
  obtain ⟨a1, a2⟩ := D.mul_bd h m h1 h2 m1 m2
  obtain ⟨b1, b2⟩ := D.mul_bd2 (h * m - 1) s (by omega) (by omega) (by omega) s2
  obtain ⟨d1, d2⟩ := D.lastM_bd s (x k)
  have q2' : (w.alloc (.cells cs 62)).drew.cell? ⟨w.heap.size, 2, none⟩ = some (.int .i64 s) := by
    rw [← q2]; exact World.cell?_alloc_new _ _ _ _
  go_enter Try.func22, Try.ntmps22
  go_wp2_with fail
  go_region_held3 (fun w' => mblk w' w.heap.size = some (.cells cs 62 (0, 0)) ∧ w'.cell? ⟨w.heap.size, 2, none⟩ = some (.int .i64 s) ∧ Up w w')
    (first
      | exact ⟨blk_new _ _ _ rfl, q2', ((Up.refl _).alloc _).drew⟩
      | (go_split_ands; exact ⟨u1.blk (by assumption), u1.cellOf (o := .cells cs 62) (by assumption) (by assumption), Up.trans (by assumption) u1⟩))
    (first
      | (go_at_call 38; refine (mod_any C _ h1 h2 m1 m2).mono ?_; rintro e w1 ⟨rfl, u1⟩)
      | (go_at_call 39; refine (lastMinute_any C k _ hk s1 s2).mono ?_; rintro e w1 ⟨rfl, u1⟩))
  all_goals
    go_wp2
    go_ret
    go_split_ands
    refine ⟨ret_int ?_, by assumption⟩
    rw [IntWalk.i64_in (h * m - 1) (by omega), IntWalk.i64_in ((h * m - 1) * s) (by omega), IntWalk.i64_in _ (by omega)]
    rfl

theorem deedOf_any (i : Int) (p : Bool) (w : World) : Calls Try.prog 37 #[.agg #[.int .i64 i, .bool p]] w fun e w' => e = .returned (.int .i64 (if p = true then 1 else 2)) ∧ Up w w' := by
  cases p
  · go_enter Try.func37, Try.ntmps37
    go_wp2
    go_ret
    exact ⟨rfl, (Up.refl _).alloc _⟩
  · go_enter Try.func37, Try.ntmps37
    go_wp2
    go_ret
    exact ⟨rfl, (Up.refl _).alloc _⟩

theorem isDay_any {cs : Array Value} {h m s d : Int} {x : Nat → Int} (C : Cal cs h m s d x) (k : Int) (w : World) (d1 : 1 ≤ d) (d2 : d ≤ 10) : Calls Try.prog 21 #[.agg cs, .int .i64 k] w fun e w' => e = .returned (.bool (inB k 0 (d - 1))) ∧ Up w w' := by
  have q3 := C.c3
  go_enter Try.func21, Try.ntmps21
  go_wp2_with fail
  refine (within_any _ _ _ _).mono ?_
  rintro e w1 ⟨rfl, rfl⟩
  go_wp2
  go_ret
  exact ⟨rfl, (Up.refl _).alloc _⟩

theorem hasSizes_yes {cs : Array Value} {h m s d : Int} {x : Nat → Int} (C : Cal cs h m s d x) (w : World) (h1 : 1 ≤ h) (h2 : h ≤ 24) (m1 : 1 ≤ m) (m2 : m ≤ 60) (s1 : 2 ≤ s) (s2 : s ≤ 60) (d1 : 1 ≤ d) (d2 : d ≤ 10) : Calls Try.prog 35 #[.agg cs] w fun e w' => e = .returned (.bool true) ∧ Up w w' := by
  have q0 := C.c0
  have q1 := C.c1
  have q2 := C.c2
  have q3 := C.c3
  go_enter Try.func35, Try.ntmps35
  go_wp2_with (go_at_call 27; refine (within_yes _ _ _ _ (by omega) (by omega)).mono ?_; rintro e w1 ⟨rfl, rfl⟩)
  go_ret
  exact ⟨rfl, (Up.refl _).alloc _⟩

end Go.Proofs.Ytghelfbigbdkkaa
