import Derived.Test.YtcadpdbadgejfaaBex
import Derived.Test.YtcadpdbadgejfaaSho
/- The contracts of the laws' rule and book. -/
namespace Go.Proofs.Ytcadpdbadgejfaa
open Go.RowKit

set_option maxRecDepth 100000 in
theorem B_To_any (l h : Int) (w : World) : Calls Try.prog 49 #[.int .i64 l, .int .i64 h] w fun e w' => e = .returned (SpV l h) ∧ Up w w' := by
  have U := (Up.refl w).alloc (.cells #[.int .i64 l, .int .i64 h] 23)
  have f := cellB (blk_new w (.cells #[.int .i64 l, .int .i64 h] 23) _ rfl)
  go_enter Try.func49, Try.ntmps49
  go_wp2
  exact bodyPost_ret (v := SpV l h) (by simp [results, Try.results49, go_sem, f]) rfl ⟨rfl, U⟩
set_option maxRecDepth 100000 in
theorem l_rule_any (w : World) : Calls Try.prog 53 #[] w fun e w' => e = .returned (RV 10 5 4 (-1) 2) ∧ Up w w' := by
  have HT := Lib.hid (fun w => B_To_any (-1) 2 w)
  have U0 := (Up.refl w).alloc (.cells #[.int .i64 0, .int .i64 0, .int .i64 0, .int .i64 0, .int .i64 0] 25)
  have k0 := blk_new w (.cells #[.int .i64 0, .int .i64 0, .int .i64 0, .int .i64 0, .int .i64 0] 25) _ rfl
  go_enter Try.func53, Try.ntmps53
  go_wp2_with fail
  refine (HT.out _).mono ?_
  rintro e w1 ⟨rfl, u1⟩
  have k1 := u1.blk k0
  have V := U0.trans u1
  have z1 := frozB k1
  have UE := ((((V.set (p := ⟨w.heap.size, 0, none⟩) (Nat.le_refl _) (.int .i64 10)).set (p := ⟨w.heap.size, 1, none⟩) (Nat.le_refl _) (.int .i64 5)).set (p := ⟨w.heap.size, 2, none⟩) (Nat.le_refl _) (.int .i64 4)).set (p := ⟨w.heap.size, 3, none⟩) (Nat.le_refl _) (.int .i64 (-1))).set (p := ⟨w.heap.size, 4, none⟩) (Nat.le_refl _) (.int .i64 2)
  have C := Lib.hid (cellB (blk_put (blk_put (blk_put (blk_put (blk_put k1 0 (.int .i64 10)) 1 (.int .i64 5)) 2 (.int .i64 4)) 3 (.int .i64 (-1))) 4 (.int .i64 2)))
  clear u1 U0 V k0
  go_wp2_with fail
  have cc := C.out
  exact bodyPost_ret (v := RV 10 5 4 (-1) 2) (by simp [results, Try.results53, go_sem, cc]) rfl ⟨rfl, UE⟩
abbrev exSt : List Int := [-4, -5, -4]
abbrev exLk : List (Int × Int × Int) := [(0, 18, 22), (6, -3, 4)]
set_option maxRecDepth 100000 in
set_option maxHeartbeats 1000000 in
theorem l_book_nil (w : World) : Calls Try.prog 52 #[.slice none 0 0] w fun e w' => ∃ g g', e = .returned (BV 10 5 4 (-1) 2 10 (.slice (some ⟨g, 0, none⟩) 3 3) (.slice (some ⟨g', 0, none⟩) 2 2)) ∧ Up w w' ∧ Ints w' (.slice (some ⟨g, 0, none⟩) 3 3) exSt ∧ Lks w' (.slice (some ⟨g', 0, none⟩) 2 2) exLk := by
  have HT1 := Lib.hid (fun w => B_To_any 18 22 w)
  have HT2 := Lib.hid (fun w => B_To_any (-3) 4 w)
  have HR := Lib.hid (fun w => l_rule_any w)
  have U0 := (Up.refl w).alloc (.cells BCZ 44)
  have k0 := blk_new w (.cells BCZ 44) _ rfl
  go_enter Try.func52, Try.ntmps52
  go_wp2_with fail
  refine (HR.out _).mono ?_
  rintro e w1 ⟨rfl, u1⟩
  have k1 := u1.blk k0
  have V1 := U0.trans u1
  have k1lt := blk_lt k1
  clear u1 k0 U0 HR
  go_wp2_with fail
  have g0 := blk_new w1 (.cells #[.int .i64 (-4), .int .i64 (-5), .int .i64 (-4)] 3) _ rfl
  have k2 := blk_keep (.cells #[.int .i64 (-4), .int .i64 (-5), .int .i64 (-4)] 3) k1
  have V2 := V1.alloc (.cells #[.int .i64 (-4), .int .i64 (-5), .int .i64 (-4)] 3)
  refine (HT1.out _).mono ?_
  rintro e w3 ⟨rfl, u3⟩
  replace g0 := u3.blk g0
  replace k2 := u3.blk k2
  replace V2 := V2.trans u3
  clear u3 k1 V1 HT1
  go_wp2_with fail
  refine (HT2.out _).mono ?_
  rintro e w4 ⟨rfl, u4⟩
  replace g0 := u4.blk g0
  replace k2 := u4.blk k2
  replace V2 := V2.trans u4
  clear u4 HT2
  have lt := blk_lt k2
  have zz := frozB k2
  have z4 := frozB (blk_keep (.cells (BC 10 5 4 (-1) 2 10 (.slice (some ⟨w1.heap.size, 0, none⟩) 3 3) (.slice (some ⟨w4.heap.size, 0, none⟩) 2 2)) 44) (blk_keep (.cells #[.int .i64 0, .int .i64 18, .int .i64 22, .int .i64 6, .int .i64 (-3), .int .i64 4] 71) k2))
  have hne : w1.heap.size ≠ w.heap.size := by have := blk_lt g0; have := k1lt; omega
  have hsz : ((((((((w4.setCell ⟨w.heap.size, 0, none⟩ (.int .i64 10)).setCell ⟨w.heap.size, 1, none⟩ (.int .i64 5)).setCell ⟨w.heap.size, 2, none⟩ (.int .i64 4)).setCell ⟨w.heap.size, 3, none⟩ (.int .i64 (-1))).setCell ⟨w.heap.size, 4, none⟩ (.int .i64 2)).setCell ⟨w.heap.size, 5, none⟩ (.int .i64 10)).setCell ⟨w.heap.size, 6, none⟩ (.slice (some ⟨w1.heap.size, 0, none⟩) 3 3)).setCell ⟨w.heap.size, 7, none⟩ (.slice (some ⟨w4.heap.size, 0, none⟩) 2 2)).heap.size = w4.heap.size := by simp [World.setCell]
  have UE := (((((((((V2.set (p := ⟨w.heap.size, 0, none⟩) (Nat.le_refl _) (.int .i64 10)).set (p := ⟨w.heap.size, 1, none⟩) (Nat.le_refl _) (.int .i64 5)).set (p := ⟨w.heap.size, 2, none⟩) (Nat.le_refl _) (.int .i64 4)).set (p := ⟨w.heap.size, 3, none⟩) (Nat.le_refl _) (.int .i64 (-1))).set (p := ⟨w.heap.size, 4, none⟩) (Nat.le_refl _) (.int .i64 2)).set (p := ⟨w.heap.size, 5, none⟩) (Nat.le_refl _) (.int .i64 10)).set (p := ⟨w.heap.size, 6, none⟩) (Nat.le_refl _) (.slice (some ⟨w1.heap.size, 0, none⟩) 3 3)).set (p := ⟨w.heap.size, 7, none⟩) (Nat.le_refl _) (.slice (some ⟨w4.heap.size, 0, none⟩) 2 2)).alloc (.cells #[.int .i64 0, .int .i64 18, .int .i64 22, .int .i64 6, .int .i64 (-3), .int .i64 4] 71)).alloc (.cells (BC 10 5 4 (-1) 2 10 (.slice (some ⟨w1.heap.size, 0, none⟩) 3 3) (.slice (some ⟨w4.heap.size, 0, none⟩) 2 2)) 44)
  have C := Lib.hid (cellB (blk_keep (.cells (BC 10 5 4 (-1) 2 10 (.slice (some ⟨w1.heap.size, 0, none⟩) 3 3) (.slice (some ⟨w4.heap.size, 0, none⟩) 2 2)) 44) (blk_keep (.cells #[.int .i64 0, .int .i64 18, .int .i64 22, .int .i64 6, .int .i64 (-3), .int .i64 4] 71) (blk_put (blk_put (blk_put (blk_put (blk_put (blk_put (blk_put (blk_put k2 0 (.int .i64 10)) 1 (.int .i64 5)) 2 (.int .i64 4)) 3 (.int .i64 (-1))) 4 (.int .i64 2)) 5 (.int .i64 10)) 6 (.slice (some ⟨w1.heap.size, 0, none⟩) 3 3)) 7 (.slice (some ⟨w4.heap.size, 0, none⟩) 2 2)))))
  have GS := Lib.hid (show mblk ((((((((((w4.setCell ⟨w.heap.size, 0, none⟩ (.int .i64 10)).setCell ⟨w.heap.size, 1, none⟩ (.int .i64 5)).setCell ⟨w.heap.size, 2, none⟩ (.int .i64 4)).setCell ⟨w.heap.size, 3, none⟩ (.int .i64 (-1))).setCell ⟨w.heap.size, 4, none⟩ (.int .i64 2)).setCell ⟨w.heap.size, 5, none⟩ (.int .i64 10)).setCell ⟨w.heap.size, 6, none⟩ (.slice (some ⟨w1.heap.size, 0, none⟩) 3 3)).setCell ⟨w.heap.size, 7, none⟩ (.slice (some ⟨w4.heap.size, 0, none⟩) 2 2)).alloc (.cells #[.int .i64 0, .int .i64 18, .int .i64 22, .int .i64 6, .int .i64 (-3), .int .i64 4] 71)).alloc (.cells (BC 10 5 4 (-1) 2 10 (.slice (some ⟨w1.heap.size, 0, none⟩) 3 3) (.slice (some ⟨w4.heap.size, 0, none⟩) 2 2)) 44)) w1.heap.size = some (.cells #[.int .i64 (-4), .int .i64 (-5), .int .i64 (-4)] 3 (0, 0)) from blk_keep _ (blk_keep _ (by rw [blk_set _ _ _ _ hne, blk_set _ _ _ _ hne, blk_set _ _ _ _ hne, blk_set _ _ _ _ hne, blk_set _ _ _ _ hne, blk_set _ _ _ _ hne, blk_set _ _ _ _ hne, blk_set _ _ _ _ hne]; exact g0)))
  have GL := Lib.hid (show mblk ((((((((((w4.setCell ⟨w.heap.size, 0, none⟩ (.int .i64 10)).setCell ⟨w.heap.size, 1, none⟩ (.int .i64 5)).setCell ⟨w.heap.size, 2, none⟩ (.int .i64 4)).setCell ⟨w.heap.size, 3, none⟩ (.int .i64 (-1))).setCell ⟨w.heap.size, 4, none⟩ (.int .i64 2)).setCell ⟨w.heap.size, 5, none⟩ (.int .i64 10)).setCell ⟨w.heap.size, 6, none⟩ (.slice (some ⟨w1.heap.size, 0, none⟩) 3 3)).setCell ⟨w.heap.size, 7, none⟩ (.slice (some ⟨w4.heap.size, 0, none⟩) 2 2)).alloc (.cells #[.int .i64 0, .int .i64 18, .int .i64 22, .int .i64 6, .int .i64 (-3), .int .i64 4] 71)).alloc (.cells (BC 10 5 4 (-1) 2 10 (.slice (some ⟨w1.heap.size, 0, none⟩) 3 3) (.slice (some ⟨w4.heap.size, 0, none⟩) 2 2)) 44)) w4.heap.size = some (.cells #[.int .i64 0, .int .i64 18, .int .i64 22, .int .i64 6, .int .i64 (-3), .int .i64 4] 71 (0, 0)) from blk_keep _ (blk_new _ _ _ hsz.symm))
  clear V2 hsz hne g0
  go_wp2_with fail
  have cc := C.out
  refine bodyPost_ret (v := BV 10 5 4 (-1) 2 10 (.slice (some ⟨w1.heap.size, 0, none⟩) 3 3) (.slice (some ⟨w4.heap.size, 0, none⟩) 2 2)) (by simp [results, Try.results52, go_sem, cc]) rfl ⟨_, _, rfl, UE, ?_, ?_⟩
  · refine Ints.new (cap := 3) (xs := exSt) GS.out (by decide) (by decide) fun j hj => ?_
    have : j = 0 ∨ j = 1 ∨ j = 2 := by have : j < 3 := hj; omega
    rcases this with rfl | rfl | rfl <;> rfl
  · refine ⟨⟨_, _, rfl, Nat.le_refl _, by simp, fun _ => ⟨_, 0, rfl, blk_lt GL.out, fun j hj => ?_⟩⟩⟩
    have : j = 0 ∨ j = 1 := by simp at hj; omega
    rw [cellB GL.out, cellB GL.out, cellB GL.out]
    rcases this with rfl | rfl <;> exact ⟨rfl, rfl, rfl⟩

end Go.Proofs.Ytcadpdbadgejfaa

/- The chapter's examples. -/
namespace Go.Proofs.Ytcadpdbadgejfaa
open Go.RowKit

abbrev exB : S.Bk := S.bk (-1) 2 10 exSt exLk
/-- what is told of the chapter's book -/
def exO : S.Ofs := fun i => match i with
  | 0 => (18, 22) | 1 => (13, 18) | 2 => (7, 12) | 3 => (2, 7) | 4 => (1, 6) | 5 => (0, 5) | 6 => (-1, 4) | 7 => (-2, 6) | 8 => (-3, 8) | 9 => (-4, 10) | 10 => (-5, 12) | _ => (0, 0)
theorem ex_le {P : Nat → Prop} (h : P 0 ∧ P 1 ∧ P 2 ∧ P 3 ∧ P 4 ∧ P 5 ∧ P 6 ∧ P 7 ∧ P 8 ∧ P 9 ∧ P 10) : ∀ i, i ≤ 10 → P i := by
  intro i hi
  have : i = 0 ∨ i = 1 ∨ i = 2 ∨ i = 3 ∨ i = 4 ∨ i = 5 ∨ i = 6 ∨ i = 7 ∨ i = 8 ∨ i = 9 ∨ i = 10 := by omega
  obtain ⟨h0, h1, h2, h3, h4, h5, h6, h7, h8, h9, h10⟩ := h
  rcases this with rfl | rfl | rfl | rfl | rfl | rfl | rfl | rfl | rfl | rfl | rfl <;> assumption
theorem exFine : S.Fine exO := by
  intro i
  by_cases hi : i ≤ 10
  · revert i
    refine ex_le ?_
    simp only [exO]
    omega
  · have : exO i = (0, 0) := by
      unfold exO
      split <;> first | omega | rfl
    rw [this]; omega
theorem exFix : exB.Fix exO := by
  have h : (List.range 11).all (fun i => (exB.bounds exO i).all fun s => decide (s.1 ≤ (exO i).1 ∧ (exO i).2 ≤ s.2)) = true := by kernel_rfl
  intro i hi s hs
  have h1 := List.all_eq_true.1 h i (List.mem_range.2 (by have : exB.ticks = 10 := rfl; omega))
  have h2 : decide (s.1 ≤ (exO i).1 ∧ (exO i).2 ≤ s.2) = true := List.all_eq_true.1 h1 s hs
  have h3 := of_decide_eq_true h2
  exact h3
theorem exHolds : exB.Holds exO := by
  intro v hv
  have t10 : exB.ticks = 10 := rfl
  have l0 := hv.look 0 (by omega) (0, 18, 22) (by simp [exB, S.bk, exLk]) rfl
  have l6 := hv.look 6 (by omega) (6, -3, 4) (by simp [exB, S.bk, exLk]) rfl
  have s0 : (-5 : Int) ≤ v 1 - v 0 ∧ v 1 - v 0 ≤ -2 := hv.step 0 (by omega)
  have s1 : (-6 : Int) ≤ v 2 - v 1 ∧ v 2 - v 1 ≤ -3 := hv.step 1 (by omega)
  have s2 : (-5 : Int) ≤ v 3 - v 2 ∧ v 3 - v 2 ≤ -2 := hv.step 2 (by omega)
  have s3 : (-1 : Int) ≤ v 4 - v 3 ∧ v 4 - v 3 ≤ 2 := hv.step 3 (by omega)
  have s4 : (-1 : Int) ≤ v 5 - v 4 ∧ v 5 - v 4 ≤ 2 := hv.step 4 (by omega)
  have s5 : (-1 : Int) ≤ v 6 - v 5 ∧ v 6 - v 5 ≤ 2 := hv.step 5 (by omega)
  have s6 : (-1 : Int) ≤ v 7 - v 6 ∧ v 7 - v 6 ≤ 2 := hv.step 6 (by omega)
  have s7 : (-1 : Int) ≤ v 8 - v 7 ∧ v 8 - v 7 ≤ 2 := hv.step 7 (by omega)
  have s8 : (-1 : Int) ≤ v 9 - v 8 ∧ v 9 - v 8 ≤ 2 := hv.step 8 (by omega)
  have s9 : (-1 : Int) ≤ v 10 - v 9 ∧ v 10 - v 9 ≤ 2 := hv.step 9 (by omega)
  simp only at l0 l6
  rw [t10]
  refine ex_le ?_
  simp only [exO]
  omega
theorem exEnds (i : Nat) (hi : i ≤ 10) : exB.Ends i (exO i).1 (exO i).2 := S.Bk.Ends.of exFine exFix exHolds hi
theorem exOk : S.bookOk 10 5 4 (-1) 2 10 exSt exLk = true := by kernel_rfl
theorem exRule : S.ok 10 5 4 (-1) 2 = true := by kernel_rfl
theorem exTold {i : Nat} (hi : i ≤ 10) {l h e : Int} (t : S.Told 10 5 4 (-1) 2 10 exSt exLk i l h e) : l = (exO i).1 ∧ h = (exO i).2 ∧ e = 0 := by
  rcases t.yes exOk (by omega) with ⟨_, _, _, h4⟩ | ⟨h1, h2⟩
  · obtain ⟨v, hv, _⟩ := (exEnds 0 (by omega)).low
    exact absurd hv (h4 v)
  · rw [Int.toNat_natCast] at h2
    have := h2.uniq (exEnds i hi)
    exact ⟨this.1, this.2, h1⟩
theorem S.wst_congr {F G : Nat → Int} {n : Nat} (h : ∀ i, i < n → F i = G i) : S.wst F n = S.wst G n := by
  induction n with
  | zero => rfl
  | succ n ih =>
    have e := ih fun i hi => h i (by omega)
    unfold S.wst
    rw [e, h n (by omega)]
theorem exWst : S.wst (fun i => S.far (exO i).1 (exO i).2) 11 = (0, 22) := by kernel_rfl
theorem exToldW {tk of e : Int} (t : S.ToldW 10 5 4 (-1) 2 10 exSt exLk tk of e) : tk = 0 ∧ of = 22 ∧ e = 0 := by
  rcases t.yes exOk with ⟨_, _, _, h4⟩ | ⟨h1, o, h2, h3, h4⟩
  · obtain ⟨v, hv, _⟩ := (exEnds 0 (by omega)).low
    exact absurd hv (h4 v)
  · have e : S.wst (fun i => S.far (o i).1 (o i).2) ((10 : Int).toNat + 1) = (0, 22) := by
      rw [← exWst]
      refine S.wst_congr fun i hi => ?_
      have := (h2 i (by omega)).uniq (exEnds i (by omega))
      rw [this.1, this.2]
    rw [e] at h3 h4
    exact ⟨h3, h4, h1⟩
/-- the first that will do, looked up -/
theorem S.First.of_check {P : Nat → Bool} {n r : Nat} (hr : r < n) (h : ((List.range r).all fun x => !P x) = true) (hp : P r = true) : S.First P n r :=
  ⟨by omega, fun x hx => by
    have := List.all_eq_true.1 h x (List.mem_range.2 hx)
    simpa using this, fun _ => hp⟩
theorem few_5 : S.Few 10 5 4 (-5) 2 := S.First.of_check (by omega) (by kernel_rfl) (by kernel_rfl)
theorem few12 : S.Few 10 5 4 12 3 := S.First.of_check (by omega) (by kernel_rfl) (by kernel_rfl)
theorem few0 : S.Few 10 5 4 (S.near (-5) 12) 0 := S.First.of_check (by omega) (by kernel_rfl) (by kernel_rfl)
theorem few20 : S.Few 10 5 4 20 5 := S.First.of_check (by omega) (by kernel_rfl) (by kernel_rfl)
theorem few_20 : S.Few 10 5 4 (-20) 4 := S.First.of_check (by omega) (by kernel_rfl) (by kernel_rfl)
section
variable {w : World} {a a' : Option Addr} {n c n' c' : Nat}
abbrev exV (a : Option Addr) (n c : Nat) (a' : Option Addr) (n' c' : Nat) : Value := BV 10 5 4 (-1) 2 10 (.slice a n c) (.slice a' n' c')
theorem exError (I : Ints w (.slice a n c) exSt) (I' : Lks w (.slice a' n' c') exLk) : Calls Try.prog 27 #[exV a n c a' n' c', .int .i64 3] w fun e w' => e = .returned (.tuple #[SpV 2 7, .int .i64 0]) ∧ Up w w' :=
  (Error_any I I' 3).mono fun e w' ⟨l, h, r, he, t, u⟩ => by
    obtain ⟨rfl, rfl, rfl⟩ := exTold (i := 3) (by omega) t
    exact ⟨he, u⟩
theorem exStated (I : Ints w (.slice a n c) exSt) (I' : Lks w (.slice a' n' c') exLk) : Calls Try.prog 31 #[exV a n c a' n' c', .int .i64 10] w fun e w' => e = .returned (.tuple #[.int .i64 12, .int .i64 0]) ∧ Up w w' :=
  (Stated_any I I' 10).mono fun e w' ⟨l, h, r, he, t, u⟩ => by
    obtain ⟨rfl, rfl, rfl⟩ := exTold (i := 10) (by omega) t
    exact ⟨by rw [he]; kernel_rfl, u⟩
theorem exWorst (I : Ints w (.slice a n c) exSt) (I' : Lks w (.slice a' n' c') exLk) : Calls Try.prog 33 #[exV a n c a' n' c'] w fun e w' => e = .returned (.tuple #[.int .i64 0, .int .i64 22, .int .i64 0]) ∧ Up w w' :=
  (Worst_any I I').mono fun e w' ⟨tk, of, r, he, t, u⟩ => by
    obtain ⟨rfl, rfl, rfl⟩ := exToldW t
    exact ⟨he, u⟩
theorem exMeets (I : Ints w (.slice a n c) exSt) (I' : Lks w (.slice a' n' c') exLk) : Calls Try.prog 35 #[exV a n c a' n' c'] w fun e w' => e = .returned (.tuple #[.int .i64 3, .int .i64 0, .int .i64 0]) ∧ Up w w' :=
  (Meets_any I I').mono fun e w' ⟨l, h, r, t, u, ht⟩ => by
    obtain ⟨rfl, rfl, rfl⟩ := exTold (i := 10) (by omega) t
    rcases ht with ⟨h1, _⟩ | ⟨_, rl, rh, rn, h1, h2, h3, he⟩
    · omega
    · obtain rfl := S.First.one h1 few_5
      obtain rfl := S.First.one h2 few12
      obtain rfl := S.First.one h3 few0
      exact ⟨by rw [he]; kernel_rfl, u⟩
theorem exCheck (I : Ints w (.slice a n c) exSt) (I' : Lks w (.slice a' n' c') exLk) : Calls Try.prog 29 #[exV a n c a' n' c'] w fun e w' => e = .returned (.int .i64 0) ∧ Up w w' :=
  (Check_any I I').mono fun e w' ⟨he, u⟩ => ⟨by rw [he, exOk]; rfl, u⟩
theorem exReach : Calls Try.prog 22 #[RV 10 5 4 (-1) 2, .int .i64 5] w fun e w' => e = .returned (.tuple #[SpV (-23) 34, .int .i64 0]) ∧ Up w w' :=
  (Reach_yes w exRule 5 (by omega)).mono fun e w' ⟨he, u⟩ => ⟨by rw [he]; kernel_rfl, u⟩
theorem exFewest : Calls Try.prog 18 #[RV 10 5 4 (-1) 2, .int .i64 20] w fun e w' => e = .returned (.tuple #[.int .i64 5, .int .i64 0]) ∧ Up w w' :=
  (Fewest_yes w exRule 20 (by omega) (by omega) few20).mono fun e w' ⟨he, u⟩ => ⟨by rw [he]; kernel_rfl, u⟩
theorem exPlan : Calls Try.prog 20 #[RV 10 5 4 (-1) 2, .int .i64 (-20)] w fun e w' => ∃ a c, e = .returned (.tuple #[.slice a 4 c, .int .i64 0]) ∧ Up w w' :=
  (Plan_yes w exRule (-20) (by omega) (by omega) few_20 (by omega)).mono fun e w' ⟨v, L, he, _, u, I⟩ => by
    obtain ⟨a, c, rfl, _⟩ := I.is
    rw [S.list_len] at he
    exact ⟨a, c, he, u⟩
theorem exIsPlan {v : Value} (I : Ints w v [-4, -5, -5, -4, -2]) : Calls Try.prog 16 #[RV 10 5 4 (-1) 2, .int .i64 20, v] w fun e w' => e = .returned (.tuple #[.bool true, .int .i64 0]) ∧ Up w w' :=
  (IsPlan_yes exRule 20 (by omega) (by omega) I).mono fun e w' ⟨he, u⟩ => ⟨by rw [he]; kernel_rfl, u⟩
theorem exShown {v : Value} (I : Ints w v [4, 8]) : Calls Try.prog 24 #[RV 10 5 4 (-1) 2, .int .i64 7000, v] w fun e w' => ∃ v', e = .returned (.tuple #[v', .int .i64 0]) ∧ Up w w' ∧ Ints w' v' [7000, 8004, 9012] :=
  (Shown_yes w exRule 7000 (by omega) (by omega) I (by kernel_rfl)).mono fun e w' ⟨v', he, u, I'⟩ => ⟨v', he, u, by
    have e2 : (List.range (([4, 8] : List Int).length + 1)).map (S.shows 7000 [4, 8]) = [7000, 8004, 9012] := by kernel_rfl
    rw [e2] at I'; exact I'⟩
end

end Go.Proofs.Ytcadpdbadgejfaa

/- The contracts of First and Alike, and of works. -/
namespace Go.Proofs.Ytcadpdbadgejfaa
open Go.RowKit

/-- the first place at which two lists differ -/
def D.first : List Int → List Int → Nat
  | a :: l, b :: m => if a = b then D.first l m + 1 else 0
  | _, _ => 0
theorem D.first_end {xs ys : List Int} {k : Nat} (h : ¬ (k < xs.length ∧ k < ys.length)) : D.first (xs.drop k) (ys.drop k) = 0 := by
  by_cases h1 : k < xs.length
  · have e : ys.drop k = [] := List.drop_eq_nil_of_le (by omega)
    rw [e]
    cases xs.drop k <;> rfl
  · have e : xs.drop k = [] := List.drop_eq_nil_of_le (by omega)
    rw [e]
    rfl
theorem D.first_step {xs ys : List Int} {k : Nat} (h1 : k < xs.length) (h2 : k < ys.length) : D.first (xs.drop k) (ys.drop k) = if xs.getD k 0 = ys.getD k 0 then D.first (xs.drop (k + 1)) (ys.drop (k + 1)) + 1 else 0 := by
  rw [List.drop_eq_getElem_cons h1, List.drop_eq_getElem_cons h2, D.first, List.getD_eq_getElem?_getD, List.getD_eq_getElem?_getD, List.getElem?_eq_getElem h1, List.getElem?_eq_getElem h2]
  rfl
theorem D.first_self (xs : List Int) : D.first xs xs = xs.length := by
  induction xs with
  | nil => rfl
  | cons a l ih => simp [D.first, ih]
theorem D.first_all {xs ys : List Int} (hl : xs.length = ys.length) (h : D.first xs ys = xs.length) : xs = ys := by
  induction xs generalizing ys with
  | nil => cases ys with
    | nil => rfl
    | cons _ _ => simp at hl
  | cons a l ih => cases ys with
    | nil => simp at hl
    | cons b m =>
      simp only [D.first, List.length_cons] at h hl
      by_cases e : a = b
      · rw [if_pos e] at h
        subst e
        rw [ih (ys := m) (by omega) (by omega)]
      · rw [if_neg e] at h; omega

set_option maxRecDepth 100000 in
set_option maxHeartbeats 2000000 in
theorem B_First_any {xs ys : List Int} {va vb : Value} {w : World} (SA : Ints w va xs) (SB : Ints w vb ys) :
    Calls Try.prog 72 #[va, vb] w fun e w' => e = .returned (.int .i64 (D.first xs ys)) ∧ Up w w' := by
  obtain ⟨a, c, rfl, _, lx, ma⟩ := SA.is
  obtain ⟨a', c', rfl, _, ly, mb⟩ := SB.is
  have MA := Lib.hid ma
  have MB := Lib.hid mb
  clear ma mb SA SB
  go_enter Try.func72, Try.ntmps72
  go_wp2_with fail
  go_loopw [5] (fun t wr => ∃ k : Nat, k ≤ xs.length ∧ k ≤ ys.length ∧ t = .int .i64 k ∧ Hid (D.first xs ys = k + D.first (xs.drop k) (ys.drop k)) ∧ Up w wr) (fun t _ => xs.length - (intOf t).toNat)
  case atStart => exact ⟨0, Nat.zero_le _, Nat.zero_le _, rfl, by simp [Hid], Up.refl _⟩
  case round =>
    obtain ⟨k, hkx, hky, rfl, hF, U⟩ := hrel
    by_cases hx : k < xs.length
    · by_cases hy : k < ys.length
      · obtain ⟨g, of, rfl, g1, gc⟩ := MA.out (by omega)
        obtain ⟨g', of', rfl, g1', gc'⟩ := MB.out (by omega)
        have c1 := (U.facts.1 g (of + k) g1).trans (gc k hx)
        have c2 := (U.facts.1 g' (of' + k) g1').trans (gc' k hy)
        have st := D.first_step hx hy
        obtain ⟨p, hp⟩ : ∃ p, xs.getD k 0 = p := ⟨_, rfl⟩
        obtain ⟨q, hq⟩ : ∃ q, ys.getD k 0 = q := ⟨_, rfl⟩
        rw [hp, hq] at st
        rw [hp] at c1
        rw [hq] at c2
        clear gc gc' hp hq
        go_wp2_with fail
        refine wp_region_held_drew (S := fun w' => Up w w' ∧ w'.cell? ⟨g, of + k, none⟩ = some (.int .i64 p) ∧ w'.cell? ⟨g', of' + k, none⟩ = some (.int .i64 q)) (by kernel_rfl) ⟨U.drew, c1, c2⟩ (fun hHeld => ?_)
        refine takeH (i := 0) (d := (some 6)) (v := ?v1) rfl rfl (by kernel_rfl) (by kernel_rfl) (by kernel_rfl) (fun _ _ _ h => h) (by rfl) ?hy1 (by assumption) ?_
        case hy1 => ((intro w hSw; (try dsimp only at hSw); (try go_split_ands); go_simp); try with_reducible rfl)
        simp only [Act.put, List.setIfInBounds_toArray, List.set_cons_zero, List.set_cons_succ]
        refine takeH (i := 1) (d := (some 7)) (v := ?v2) rfl rfl (by kernel_rfl) (by kernel_rfl) (by kernel_rfl) (fun _ _ _ h => h) (by rfl) ?hy2 (by assumption) ?_
        case hy2 => ((intro w hSw; (try dsimp only at hSw); (try go_split_ands); go_simp); try with_reducible rfl)
        simp only [Act.put, List.setIfInBounds_toArray, List.set_cons_zero, List.set_cons_succ]
        refine takeH (i := 2) (d := (some 8)) (v := ?v3) rfl rfl (by kernel_rfl) (by kernel_rfl) (by kernel_rfl) (fun _ _ _ h => h) (by rfl) ?hy3 (by assumption) ?_
        case hy3 => ((intro w hSw; (try dsimp only at hSw); (try go_split_ands); go_simp); try with_reducible rfl)
        simp only [Act.put, List.setIfInBounds_toArray, List.set_cons_zero, List.set_cons_succ]
        refine takeH (i := 3) (d := (some 9)) (v := ?v4) rfl rfl (by kernel_rfl) (by kernel_rfl) (by kernel_rfl) (fun _ _ _ h => h) (by rfl) ?hy4 (by assumption) ?_
        case hy4 => ((intro w hSw; (try dsimp only at hSw); (try go_split_ands); go_simp); try with_reducible rfl)
        simp only [Act.put, List.setIfInBounds_toArray, List.set_cons_zero, List.set_cons_succ]
        refine takeH (i := 4) (d := (some 10)) (v := ?v5) rfl rfl (by kernel_rfl) (by kernel_rfl) (by kernel_rfl) (fun _ _ _ h => h) (by rfl) ?hy5 (by assumption) ?_
        case hy5 => ((intro w hSw; (try dsimp only at hSw); (try go_split_ands); go_simp); try with_reducible rfl)
        simp only [Act.put, List.setIfInBounds_toArray, List.set_cons_zero, List.set_cons_succ]
        refine takeH (i := 5) (d := (some 11)) (v := ?v6) rfl rfl (by kernel_rfl) (by kernel_rfl) (by kernel_rfl) (fun _ _ _ h => h) (by rfl) ?hy6 (by assumption) ?_
        case hy6 => ((intro w hSw; (try dsimp only at hSw); (try go_split_ands); go_simp); try with_reducible rfl)
        simp only [Act.put, List.setIfInBounds_toArray, List.set_cons_zero, List.set_cons_succ]
        refine takeH (i := 6) (d := (some 12)) (v := ?v7) rfl rfl (by kernel_rfl) (by kernel_rfl) (by kernel_rfl) (fun _ _ _ h => h) (by rfl) ?hy7 (by assumption) ?_
        case hy7 => ((intro w hSw; (try dsimp only at hSw); (try go_split_ands); go_simp); try with_reducible rfl)
        simp only [Act.put, List.setIfInBounds_toArray, List.set_cons_zero, List.set_cons_succ]
        refine takeH (i := 7) (d := (some 13)) (v := ?v8) rfl rfl (by kernel_rfl) (by kernel_rfl) (by kernel_rfl) (fun _ _ _ h => h) (by rfl) ?hy8 (by assumption) ?_
        case hy8 => ((intro w hSw; (try dsimp only at hSw); (try go_split_ands); go_simp); try with_reducible rfl)
        simp only [Act.put, List.setIfInBounds_toArray, List.set_cons_zero, List.set_cons_succ]
        refine takeH (i := 8) (d := (some 14)) (v := ?v9) rfl rfl (by kernel_rfl) (by kernel_rfl) (by kernel_rfl) (fun _ _ _ h => h) (by rfl) ?hy9 (by assumption) ?_
        case hy9 => ((intro w hSw; (try dsimp only at hSw); (try go_split_ands); go_simp); try with_reducible rfl)
        simp only [Act.put, List.setIfInBounds_toArray, List.set_cons_zero, List.set_cons_succ]
        refine takeH (i := 9) (d := (some 15)) (v := ?v10) rfl rfl (by kernel_rfl) (by kernel_rfl) (by kernel_rfl) (fun _ _ _ h => h) (by rfl) ?hy10 (by assumption) ?_
        case hy10 => ((intro w hSw; (try dsimp only at hSw); (try go_split_ands); go_simp); try with_reducible rfl)
        simp only [Act.put, List.setIfInBounds_toArray, List.set_cons_zero, List.set_cons_succ]
        refine takeH (i := 10) (d := (some 16)) (v := ?v11) rfl rfl (by kernel_rfl) (by kernel_rfl) (by kernel_rfl) (fun _ _ _ h => h) (by rfl) ?hy11 (by assumption) ?_
        case hy11 => ((intro w hSw; (try dsimp only at hSw); (try go_split_ands); go_simp); try with_reducible rfl)
        simp only [Act.put, List.setIfInBounds_toArray, List.set_cons_zero, List.set_cons_succ]
        refine takeH (i := 11) (d := (some 17)) (v := ?v12) rfl rfl (by kernel_rfl) (by kernel_rfl) (by kernel_rfl) (fun _ _ _ h => h) (by rfl) ?hy12 (by assumption) ?_
        case hy12 => ((intro w hSw; (try dsimp only at hSw); (try go_split_ands); go_simp); try with_reducible rfl)
        simp only [Act.put, List.setIfInBounds_toArray, List.set_cons_zero, List.set_cons_succ]
        refine takeH (i := 12) (d := (some 18)) (v := ?v13) rfl rfl (by kernel_rfl) (by kernel_rfl) (by kernel_rfl) (fun _ _ _ h => h) (by rfl) ?hy13 (by assumption) ?_
        case hy13 => ((intro w hSw; (try dsimp only at hSw); (try go_split_ands); go_simp); try with_reducible rfl)
        simp only [Act.put, List.setIfInBounds_toArray, List.set_cons_zero, List.set_cons_succ]
        refine takeH (i := 15) (d := (some 21)) (v := ?v14) rfl rfl (by kernel_rfl) (by kernel_rfl) (by kernel_rfl) (fun _ _ _ h => h) (by rfl) ?hy14 (by assumption) ?_
        case hy14 => ((intro w hSw; (try dsimp only at hSw); (try go_split_ands); go_simp); try with_reducible rfl)
        simp only [Act.put, List.setIfInBounds_toArray, List.set_cons_zero, List.set_cons_succ]
        refine takeH (i := 16) (d := (some 22)) (v := ?v15) rfl rfl (by kernel_rfl) (by kernel_rfl) (by kernel_rfl) (fun _ _ _ h => h) (by rfl) ?hy15 (by assumption) ?_
        case hy15 => ((intro w hSw; (try dsimp only at hSw); (try go_split_ands); go_simp); try with_reducible rfl)
        simp only [Act.put, List.setIfInBounds_toArray, List.set_cons_zero, List.set_cons_succ]
        refine takeH (i := 13) (d := (some 19)) (v := ?v16) rfl rfl (by kernel_rfl) (by kernel_rfl) (by kernel_rfl) (fun _ _ _ h => h) (by rfl) ?hy16 (by assumption) ?_
        case hy16 => ((intro w hSw; (try dsimp only at hSw); (try go_split_ands); go_simp); try with_reducible rfl)
        simp only [Act.put, List.setIfInBounds_toArray, List.set_cons_zero, List.set_cons_succ]
        refine takeH (i := 17) (d := (some 23)) (v := ?v17) rfl rfl (by kernel_rfl) (by kernel_rfl) (by kernel_rfl) (fun _ _ _ h => h) (by rfl) ?hy17 (by assumption) ?_
        case hy17 => ((intro w hSw; (try dsimp only at hSw); (try go_split_ands); go_simp); try with_reducible rfl)
        simp only [Act.put, List.setIfInBounds_toArray, List.set_cons_zero, List.set_cons_succ]
        refine takeH (i := 14) (d := (some 20)) (v := ?v18) rfl rfl (by kernel_rfl) (by kernel_rfl) (by kernel_rfl) (fun _ _ _ h => h) (by rfl) ?hy18 (by assumption) ?_
        case hy18 => ((intro w hSw; (try dsimp only at hSw); (try go_split_ands); go_simp); try with_reducible rfl)
        simp only [Act.put, List.setIfInBounds_toArray, List.set_cons_zero, List.set_cons_succ]
        refine takeH (i := 18) (d := (some 24)) (v := ?v19) rfl rfl (by kernel_rfl) (by kernel_rfl) (by kernel_rfl) (fun _ _ _ h => h) (by rfl) ?hy19 (by assumption) ?_
        case hy19 => ((intro w hSw; (try dsimp only at hSw); (try go_split_ands); go_simp); try with_reducible rfl)
        simp only [Act.put, List.setIfInBounds_toArray, List.set_cons_zero, List.set_cons_succ]
        refine takeH (i := 19) (d := (some 25)) (v := ?v20) rfl rfl (by kernel_rfl) (by kernel_rfl) (by kernel_rfl) (fun _ _ _ h => h) (by rfl) ?hy20 (by assumption) ?_
        case hy20 => ((intro w hSw; (try dsimp only at hSw); (try go_split_ands); go_simp); try with_reducible rfl)
        simp only [Act.put, List.setIfInBounds_toArray, List.set_cons_zero, List.set_cons_succ]
        refine takeH (i := 20) (d := (some 26)) (v := ?v21) rfl rfl (by kernel_rfl) (by kernel_rfl) (by kernel_rfl) (fun _ _ _ h => h) (by rfl) ?hy21 (by assumption) ?_
        case hy21 => ((intro w hSw; (try dsimp only at hSw); (try go_split_ands); go_simp); try with_reducible rfl)
        simp only [Act.put, List.setIfInBounds_toArray, List.set_cons_zero, List.set_cons_succ]
        refine wpAnyH_done (by kernel_rfl) ?_ _
        by_cases he : p = q
        · rw [if_pos he] at st
          have h3 : Hid (D.first xs ys = k + 1 + D.first (xs.drop (k + 1)) (ys.drop (k + 1))) := by have := hF.out; unfold Hid; omega
          clear hF st c1 c2
          go_wp2
          go_roundw
          case rel => exact ⟨k + 1, by omega, by omega, by go_num, h3, hHeld.1⟩
          case measure => simp [intOf]; omega
        · rw [if_neg he] at st
          have h3 : Hid (D.first xs ys = k) := by have := hF.out; unfold Hid; omega
          clear hF st c1 c2
          go_wp2
          go_ret
          exact ⟨by rw [h3.out]; rfl, hHeld.1⟩
      · have st := D.first_end (xs := xs) (ys := ys) (k := k) (by omega)
        have h3 : Hid (D.first xs ys = k) := by have := hF.out; unfold Hid; omega
        clear hF st MA MB
        go_wp2_with fail
        refine wp_region_held_drew (S := fun w' => Up w w') (by kernel_rfl) U.drew (fun hHeld => ?_)
        refine takeH (i := 0) (d := (some 6)) (v := ?v22) rfl rfl (by kernel_rfl) (by kernel_rfl) (by kernel_rfl) (fun _ _ _ h => h) (by rfl) ?hy22 (by assumption) ?_
        case hy22 => ((intro w hSw; (try dsimp only at hSw); (try go_split_ands); go_simp); try with_reducible rfl)
        simp only [Act.put, List.setIfInBounds_toArray, List.set_cons_zero, List.set_cons_succ]
        refine takeH (i := 1) (d := (some 7)) (v := ?v23) rfl rfl (by kernel_rfl) (by kernel_rfl) (by kernel_rfl) (fun _ _ _ h => h) (by rfl) ?hy23 (by assumption) ?_
        case hy23 => ((intro w hSw; (try dsimp only at hSw); (try go_split_ands); go_simp); try with_reducible rfl)
        simp only [Act.put, List.setIfInBounds_toArray, List.set_cons_zero, List.set_cons_succ]
        refine takeH (i := 2) (d := (some 8)) (v := ?v24) rfl rfl (by kernel_rfl) (by kernel_rfl) (by kernel_rfl) (fun _ _ _ h => h) (by rfl) ?hy24 (by assumption) ?_
        case hy24 => ((intro w hSw; (try dsimp only at hSw); (try go_split_ands); go_simp); try with_reducible rfl)
        simp only [Act.put, List.setIfInBounds_toArray, List.set_cons_zero, List.set_cons_succ]
        refine takeH (i := 3) (d := (some 9)) (v := ?v25) rfl rfl (by kernel_rfl) (by kernel_rfl) (by kernel_rfl) (fun _ _ _ h => h) (by rfl) ?hy25 (by assumption) ?_
        case hy25 => ((intro w hSw; (try dsimp only at hSw); (try go_split_ands); go_simp); try with_reducible rfl)
        simp only [Act.put, List.setIfInBounds_toArray, List.set_cons_zero, List.set_cons_succ]
        refine takeH (i := 4) (d := (some 10)) (v := ?v26) rfl rfl (by kernel_rfl) (by kernel_rfl) (by kernel_rfl) (fun _ _ _ h => h) (by rfl) ?hy26 (by assumption) ?_
        case hy26 => ((intro w hSw; (try dsimp only at hSw); (try go_split_ands); go_simp); try with_reducible rfl)
        simp only [Act.put, List.setIfInBounds_toArray, List.set_cons_zero, List.set_cons_succ]
        refine takeH (i := 5) (d := (some 11)) (v := ?v27) rfl rfl (by kernel_rfl) (by kernel_rfl) (by kernel_rfl) (fun _ _ _ h => h) (by rfl) ?hy27 (by assumption) ?_
        case hy27 => ((intro w hSw; (try dsimp only at hSw); (try go_split_ands); go_simp); try with_reducible rfl)
        simp only [Act.put, List.setIfInBounds_toArray, List.set_cons_zero, List.set_cons_succ]
        refine takeH (i := 6) (d := (some 12)) (v := ?v28) rfl rfl (by kernel_rfl) (by kernel_rfl) (by kernel_rfl) (fun _ _ _ h => h) (by rfl) ?hy28 (by assumption) ?_
        case hy28 => ((intro w hSw; (try dsimp only at hSw); (try go_split_ands); go_simp); try with_reducible rfl)
        simp only [Act.put, List.setIfInBounds_toArray, List.set_cons_zero, List.set_cons_succ]
        refine takeH (i := 7) (d := (some 13)) (v := ?v29) rfl rfl (by kernel_rfl) (by kernel_rfl) (by kernel_rfl) (fun _ _ _ h => h) (by rfl) ?hy29 (by assumption) ?_
        case hy29 => ((intro w hSw; (try dsimp only at hSw); (try go_split_ands); go_simp); try with_reducible rfl)
        simp only [Act.put, List.setIfInBounds_toArray, List.set_cons_zero, List.set_cons_succ]
        refine takeH (i := 8) (d := (some 14)) (v := ?v30) rfl rfl (by kernel_rfl) (by kernel_rfl) (by kernel_rfl) (fun _ _ _ h => h) (by rfl) ?hy30 (by assumption) ?_
        case hy30 => ((intro w hSw; (try dsimp only at hSw); (try go_split_ands); go_simp); try with_reducible rfl)
        simp only [Act.put, List.setIfInBounds_toArray, List.set_cons_zero, List.set_cons_succ]
        refine takeH (i := 9) (d := (some 15)) (v := ?v31) rfl rfl (by kernel_rfl) (by kernel_rfl) (by kernel_rfl) (fun _ _ _ h => h) (by rfl) ?hy31 (by assumption) ?_
        case hy31 => ((intro w hSw; (try dsimp only at hSw); (try go_split_ands); go_simp); try with_reducible rfl)
        simp only [Act.put, List.setIfInBounds_toArray, List.set_cons_zero, List.set_cons_succ]
        refine takeH (i := 10) (d := (some 16)) (v := ?v32) rfl rfl (by kernel_rfl) (by kernel_rfl) (by kernel_rfl) (fun _ _ _ h => h) (by rfl) ?hy32 (by assumption) ?_
        case hy32 => ((intro w hSw; (try dsimp only at hSw); (try go_split_ands); go_simp); try with_reducible rfl)
        simp only [Act.put, List.setIfInBounds_toArray, List.set_cons_zero, List.set_cons_succ]
        refine skipH (i := 11) (d := (some 17)) rfl rfl (by kernel_rfl) (by kernel_rfl) (by kernel_rfl) (fun _ _ _ h => h) (by rfl) (by assumption) ?_
        simp only [Act.put, List.setIfInBounds_toArray, List.set_cons_zero, List.set_cons_succ]
        refine skipH (i := 12) (d := (some 18)) rfl rfl (by kernel_rfl) (by kernel_rfl) (by kernel_rfl) (fun _ _ _ h => h) (by rfl) (by assumption) ?_
        simp only [Act.put, List.setIfInBounds_toArray, List.set_cons_zero, List.set_cons_succ]
        refine skipH (i := 15) (d := (some 21)) rfl rfl (by kernel_rfl) (by kernel_rfl) (by kernel_rfl) (fun _ _ _ h => h) (by rfl) (by assumption) ?_
        simp only [Act.put, List.setIfInBounds_toArray, List.set_cons_zero, List.set_cons_succ]
        refine skipH (i := 16) (d := (some 22)) rfl rfl (by kernel_rfl) (by kernel_rfl) (by kernel_rfl) (fun _ _ _ h => h) (by rfl) (by assumption) ?_
        simp only [Act.put, List.setIfInBounds_toArray, List.set_cons_zero, List.set_cons_succ]
        refine skipH (i := 13) (d := (some 19)) rfl rfl (by kernel_rfl) (by kernel_rfl) (by kernel_rfl) (fun _ _ _ h => h) (by rfl) (by assumption) ?_
        simp only [Act.put, List.setIfInBounds_toArray, List.set_cons_zero, List.set_cons_succ]
        refine skipH (i := 17) (d := (some 23)) rfl rfl (by kernel_rfl) (by kernel_rfl) (by kernel_rfl) (fun _ _ _ h => h) (by rfl) (by assumption) ?_
        simp only [Act.put, List.setIfInBounds_toArray, List.set_cons_zero, List.set_cons_succ]
        refine skipH (i := 14) (d := (some 20)) rfl rfl (by kernel_rfl) (by kernel_rfl) (by kernel_rfl) (fun _ _ _ h => h) (by rfl) (by assumption) ?_
        simp only [Act.put, List.setIfInBounds_toArray, List.set_cons_zero, List.set_cons_succ]
        refine skipH (i := 18) (d := (some 24)) rfl rfl (by kernel_rfl) (by kernel_rfl) (by kernel_rfl) (fun _ _ _ h => h) (by rfl) (by assumption) ?_
        simp only [Act.put, List.setIfInBounds_toArray, List.set_cons_zero, List.set_cons_succ]
        refine skipH (i := 19) (d := (some 25)) rfl rfl (by kernel_rfl) (by kernel_rfl) (by kernel_rfl) (fun _ _ _ h => h) (by rfl) (by assumption) ?_
        simp only [Act.put, List.setIfInBounds_toArray, List.set_cons_zero, List.set_cons_succ]
        refine takeH (i := 20) (d := (some 26)) (v := ?v42) rfl rfl (by kernel_rfl) (by kernel_rfl) (by kernel_rfl) (fun _ _ _ h => h) (by rfl) ?hy42 (by assumption) ?_
        case hy42 => ((intro w hSw; (try dsimp only at hSw); (try go_split_ands); go_simp); try with_reducible rfl)
        simp only [Act.put, List.setIfInBounds_toArray, List.set_cons_zero, List.set_cons_succ]
        refine wpAnyH_done (by kernel_rfl) ?_ _
        go_wp2
        go_ret
        exact ⟨by rw [h3.out]; rfl, hHeld⟩
    · have st := D.first_end (xs := xs) (ys := ys) (k := k) (by omega)
      have h3 : Hid (D.first xs ys = k) := by have := hF.out; unfold Hid; omega
      clear hF st MA MB
      go_wp2_with fail
      refine wp_region_held_drew (S := fun w' => Up w w') (by kernel_rfl) U.drew (fun hHeld => ?_)
      refine takeH (i := 0) (d := (some 6)) (v := ?v43) rfl rfl (by kernel_rfl) (by kernel_rfl) (by kernel_rfl) (fun _ _ _ h => h) (by rfl) ?hy43 (by assumption) ?_
      case hy43 => ((intro w hSw; (try dsimp only at hSw); (try go_split_ands); go_simp); try with_reducible rfl)
      simp only [Act.put, List.setIfInBounds_toArray, List.set_cons_zero, List.set_cons_succ]
      refine takeH (i := 1) (d := (some 7)) (v := ?v44) rfl rfl (by kernel_rfl) (by kernel_rfl) (by kernel_rfl) (fun _ _ _ h => h) (by rfl) ?hy44 (by assumption) ?_
      case hy44 => ((intro w hSw; (try dsimp only at hSw); (try go_split_ands); go_simp); try with_reducible rfl)
      simp only [Act.put, List.setIfInBounds_toArray, List.set_cons_zero, List.set_cons_succ]
      refine takeH (i := 2) (d := (some 8)) (v := ?v45) rfl rfl (by kernel_rfl) (by kernel_rfl) (by kernel_rfl) (fun _ _ _ h => h) (by rfl) ?hy45 (by assumption) ?_
      case hy45 => ((intro w hSw; (try dsimp only at hSw); (try go_split_ands); go_simp); try with_reducible rfl)
      simp only [Act.put, List.setIfInBounds_toArray, List.set_cons_zero, List.set_cons_succ]
      refine takeH (i := 3) (d := (some 9)) (v := ?v46) rfl rfl (by kernel_rfl) (by kernel_rfl) (by kernel_rfl) (fun _ _ _ h => h) (by rfl) ?hy46 (by assumption) ?_
      case hy46 => ((intro w hSw; (try dsimp only at hSw); (try go_split_ands); go_simp); try with_reducible rfl)
      simp only [Act.put, List.setIfInBounds_toArray, List.set_cons_zero, List.set_cons_succ]
      refine takeH (i := 4) (d := (some 10)) (v := ?v47) rfl rfl (by kernel_rfl) (by kernel_rfl) (by kernel_rfl) (fun _ _ _ h => h) (by rfl) ?hy47 (by assumption) ?_
      case hy47 => ((intro w hSw; (try dsimp only at hSw); (try go_split_ands); go_simp); try with_reducible rfl)
      simp only [Act.put, List.setIfInBounds_toArray, List.set_cons_zero, List.set_cons_succ]
      refine skipH (i := 5) (d := (some 11)) rfl rfl (by kernel_rfl) (by kernel_rfl) (by kernel_rfl) (fun _ _ _ h => h) (by rfl) (by assumption) ?_
      simp only [Act.put, List.setIfInBounds_toArray, List.set_cons_zero, List.set_cons_succ]
      refine skipH (i := 6) (d := (some 12)) rfl rfl (by kernel_rfl) (by kernel_rfl) (by kernel_rfl) (fun _ _ _ h => h) (by rfl) (by assumption) ?_
      simp only [Act.put, List.setIfInBounds_toArray, List.set_cons_zero, List.set_cons_succ]
      refine skipH (i := 7) (d := (some 13)) rfl rfl (by kernel_rfl) (by kernel_rfl) (by kernel_rfl) (fun _ _ _ h => h) (by rfl) (by assumption) ?_
      simp only [Act.put, List.setIfInBounds_toArray, List.set_cons_zero, List.set_cons_succ]
      refine skipH (i := 8) (d := (some 14)) rfl rfl (by kernel_rfl) (by kernel_rfl) (by kernel_rfl) (fun _ _ _ h => h) (by rfl) (by assumption) ?_
      simp only [Act.put, List.setIfInBounds_toArray, List.set_cons_zero, List.set_cons_succ]
      refine takeH (i := 9) (d := (some 15)) (v := ?v52) rfl rfl (by kernel_rfl) (by kernel_rfl) (by kernel_rfl) (fun _ _ _ h => h) (by rfl) ?hy52 (by assumption) ?_
      case hy52 => ((intro w hSw; (try dsimp only at hSw); (try go_split_ands); go_simp); try with_reducible rfl)
      simp only [Act.put, List.setIfInBounds_toArray, List.set_cons_zero, List.set_cons_succ]
      refine takeH (i := 10) (d := (some 16)) (v := ?v53) rfl rfl (by kernel_rfl) (by kernel_rfl) (by kernel_rfl) (fun _ _ _ h => h) (by rfl) ?hy53 (by assumption) ?_
      case hy53 => ((intro w hSw; (try dsimp only at hSw); (try go_split_ands); go_simp); try with_reducible rfl)
      simp only [Act.put, List.setIfInBounds_toArray, List.set_cons_zero, List.set_cons_succ]
      refine skipH (i := 11) (d := (some 17)) rfl rfl (by kernel_rfl) (by kernel_rfl) (by kernel_rfl) (fun _ _ _ h => h) (by rfl) (by assumption) ?_
      simp only [Act.put, List.setIfInBounds_toArray, List.set_cons_zero, List.set_cons_succ]
      refine skipH (i := 12) (d := (some 18)) rfl rfl (by kernel_rfl) (by kernel_rfl) (by kernel_rfl) (fun _ _ _ h => h) (by rfl) (by assumption) ?_
      simp only [Act.put, List.setIfInBounds_toArray, List.set_cons_zero, List.set_cons_succ]
      refine skipH (i := 15) (d := (some 21)) rfl rfl (by kernel_rfl) (by kernel_rfl) (by kernel_rfl) (fun _ _ _ h => h) (by rfl) (by assumption) ?_
      simp only [Act.put, List.setIfInBounds_toArray, List.set_cons_zero, List.set_cons_succ]
      refine skipH (i := 16) (d := (some 22)) rfl rfl (by kernel_rfl) (by kernel_rfl) (by kernel_rfl) (fun _ _ _ h => h) (by rfl) (by assumption) ?_
      simp only [Act.put, List.setIfInBounds_toArray, List.set_cons_zero, List.set_cons_succ]
      refine skipH (i := 13) (d := (some 19)) rfl rfl (by kernel_rfl) (by kernel_rfl) (by kernel_rfl) (fun _ _ _ h => h) (by rfl) (by assumption) ?_
      simp only [Act.put, List.setIfInBounds_toArray, List.set_cons_zero, List.set_cons_succ]
      refine skipH (i := 17) (d := (some 23)) rfl rfl (by kernel_rfl) (by kernel_rfl) (by kernel_rfl) (fun _ _ _ h => h) (by rfl) (by assumption) ?_
      simp only [Act.put, List.setIfInBounds_toArray, List.set_cons_zero, List.set_cons_succ]
      refine skipH (i := 14) (d := (some 20)) rfl rfl (by kernel_rfl) (by kernel_rfl) (by kernel_rfl) (fun _ _ _ h => h) (by rfl) (by assumption) ?_
      simp only [Act.put, List.setIfInBounds_toArray, List.set_cons_zero, List.set_cons_succ]
      refine skipH (i := 18) (d := (some 24)) rfl rfl (by kernel_rfl) (by kernel_rfl) (by kernel_rfl) (fun _ _ _ h => h) (by rfl) (by assumption) ?_
      simp only [Act.put, List.setIfInBounds_toArray, List.set_cons_zero, List.set_cons_succ]
      refine skipH (i := 19) (d := (some 25)) rfl rfl (by kernel_rfl) (by kernel_rfl) (by kernel_rfl) (fun _ _ _ h => h) (by rfl) (by assumption) ?_
      simp only [Act.put, List.setIfInBounds_toArray, List.set_cons_zero, List.set_cons_succ]
      refine takeH (i := 20) (d := (some 26)) (v := ?v63) rfl rfl (by kernel_rfl) (by kernel_rfl) (by kernel_rfl) (fun _ _ _ h => h) (by rfl) ?hy63 (by assumption) ?_
      case hy63 => ((intro w hSw; (try dsimp only at hSw); (try go_split_ands); go_simp); try with_reducible rfl)
      simp only [Act.put, List.setIfInBounds_toArray, List.set_cons_zero, List.set_cons_succ]
      refine wpAnyH_done (by kernel_rfl) ?_ _
      go_wp2
      go_ret
      exact ⟨by rw [h3.out]; rfl, hHeld⟩


set_option maxRecDepth 100000 in
set_option maxHeartbeats 1000000 in
theorem B_Alike_any {xs ys : List Int} {va vb : Value} {w : World} (SA : Ints w va xs) (SB : Ints w vb ys) :
    Calls Try.prog 26 #[va, vb] w fun e w' => e = .returned (.bool (decide (xs = ys))) ∧ Up w w' := by
  have K := B_First_any SA SB
  obtain ⟨a, c, rfl, _, lx, _⟩ := SA.is
  obtain ⟨a', c', rfl, _, ly, _⟩ := SB.is
  clear SA SB
  obtain ⟨nx, hnx⟩ : ∃ nx, xs.length = nx := ⟨_, rfl⟩
  obtain ⟨ny, hny⟩ : ∃ ny, ys.length = ny := ⟨_, rfl⟩
  rw [hnx, hny] at K
  rw [hnx, hny]
  by_cases hl : nx = ny
  · have e : (decide (xs = ys)) = (decide (D.first xs ys = nx)) := by
      rw [decide_eq_decide]
      exact ⟨fun h => by rw [← hnx, h]; exact D.first_self _, fun h => D.first_all (by omega) (by omega)⟩
    rw [e]
    obtain ⟨f, hf0⟩ : ∃ f, D.first xs ys = f := ⟨_, rfl⟩
    rw [hf0] at K ⊢
    have HK := Lib.hid K
    subst hl
    have lx' : nx ≤ 9223372036854775807 := by omega
    clear K e hf0 hnx hny lx ly
    by_cases hf : f = nx
    · have hf' : ((f : Int) == (nx : Int)) = true := by simp [hf]
      rw [decide_eq_true hf]
      go_enter Try.func26, Try.ntmps26
      go_wp2_with fail
      refine HK.out.mono ?_
      rintro e w1 ⟨rfl, u1⟩
      go_wp2
      go_ret
      exact ⟨rfl, u1⟩
    · have hf' : ((f : Int) == (nx : Int)) = false := by simp; omega
      rw [decide_eq_false hf]
      go_enter Try.func26, Try.ntmps26
      go_wp2_with fail
      refine HK.out.mono ?_
      rintro e w1 ⟨rfl, u1⟩
      go_wp2
      go_ret
      exact ⟨rfl, u1⟩
  · have hf' : ((nx : Int) == (ny : Int)) = false := by simp; omega
    rw [decide_eq_false (fun h => hl (by rw [← hnx, ← hny, h]))]
    clear K hnx hny
    go_enter Try.func26, Try.ntmps26
    go_wp2
    go_ret
    exact ⟨rfl, Up.refl _⟩

end Go.Proofs.Ytcadpdbadgejfaa

/- The contract of the laws' works: the chapter's examples come out. -/
namespace Go.Proofs.Ytcadpdbadgejfaa
open Go.RowKit

theorem ints_lit {w : World} {xs : List Int} {cs : Array Value} (n : Nat) (hn : n = w.heap.size) (hx : xs.length ≤ 100) (h : ∀ j, j < xs.length → cs[j]? = some (.int .i64 (xs.getD j 0))) : Ints (w.alloc (.cells cs 3)) (.slice (some ⟨n, 0, none⟩) xs.length xs.length) xs :=
  Ints.new (blk_new w (.cells cs 3) n hn) (Nat.le_refl _) (by omega) h
set_option maxRecDepth 100000 in
set_option maxHeartbeats 4000000 in
theorem l_works_any (w : World) : Calls Try.prog 21 #[] w fun e w' => e = .returned (.bool true) ∧ Up w w' := by
  go_enter Try.func21, Try.ntmps21
  go_wp2_with fail
  refine (l_rule_any _).mono ?_
  rintro e w1 ⟨rfl, u1⟩
  go_wp2_with fail
  refine exReach.mono ?_
  rintro e w2 ⟨rfl, u2⟩
  have U2 := u1.trans u2
  clear u1 u2
  go_wp2_with fail
  obtain ⟨W0, hW0⟩ : ∃ W0, w2.alloc (.cells #[.int .i64 (-23), .int .i64 34] 23) = W0 := ⟨_, rfl⟩
  have U0 : Up w W0 := by rw [← hW0]; exact U2.alloc _
  have k0 : mblk W0 w2.heap.size = some (.cells #[.int .i64 (-23), .int .i64 34] 23) := by rw [← hW0]; exact blk_new _ _ _ rfl
  rw [hW0]
  clear hW0
  obtain ⟨r, hr⟩ : ∃ r, w2.heap.size = r := ⟨_, rfl⟩
  rw [hr] at k0 ⊢
  clear hr U2
  refine (l_rule_any _).mono ?_
  rintro e w3 ⟨rfl, u3⟩
  go_wp2_with fail
  refine exFewest.mono ?_
  rintro e w4 ⟨rfl, u4⟩
  replace U0 := U0.trans (u3.trans u4)
  replace k0 := u4.blk (u3.blk k0)
  clear u3 u4
  go_wp2_with fail
  refine (l_rule_any _).mono ?_
  rintro e w5 ⟨rfl, u5⟩
  go_wp2_with fail
  refine exPlan.mono ?_
  rintro e w6 ⟨pa, pc, rfl, u6⟩
  replace U0 := U0.trans (u5.trans u6)
  replace k0 := u6.blk (u5.blk k0)
  clear u5 u6
  go_wp2_with fail
  refine (l_rule_any _).mono ?_
  rintro e w7 ⟨rfl, u7⟩
  replace U0 := U0.trans u7
  replace k0 := u7.blk k0
  clear u7
  have I8 := ints_lit (w := w7) (xs := [-4, -5, -5, -4, -2]) (cs := #[.int .i64 (-4), .int .i64 (-5), .int .i64 (-5), .int .i64 (-4), .int .i64 (-2)]) w7.heap.size rfl (by decide) (fun j hj => by
    have : j = 0 ∨ j = 1 ∨ j = 2 ∨ j = 3 ∨ j = 4 := by have : j < 5 := hj; omega
    rcases this with rfl | rfl | rfl | rfl | rfl <;> rfl)
  replace U0 := U0.alloc (.cells #[.int .i64 (-4), .int .i64 (-5), .int .i64 (-5), .int .i64 (-4), .int .i64 (-2)] 3)
  replace k0 := blk_keep (.cells #[.int .i64 (-4), .int .i64 (-5), .int .i64 (-5), .int .i64 (-4), .int .i64 (-2)] 3) k0
  go_wp2_with fail
  refine (exIsPlan I8).mono ?_
  rintro e w8 ⟨rfl, u8⟩
  replace U0 := U0.trans u8
  replace k0 := u8.blk k0
  clear u8 I8
  go_wp2_with fail
  refine (l_rule_any _).mono ?_
  rintro e w9 ⟨rfl, u9⟩
  replace U0 := U0.trans u9
  replace k0 := u9.blk k0
  clear u9
  have I10 := ints_lit (w := w9) (xs := [4, 8]) (cs := #[.int .i64 4, .int .i64 8]) w9.heap.size rfl (by decide) (fun j hj => by
    have : j = 0 ∨ j = 1 := by have : j < 2 := hj; omega
    rcases this with rfl | rfl <;> rfl)
  replace U0 := U0.alloc (.cells #[.int .i64 4, .int .i64 8] 3)
  replace k0 := blk_keep (.cells #[.int .i64 4, .int .i64 8] 3) k0
  go_wp2_with fail
  refine (exShown I10).mono ?_
  rintro e w10 ⟨sv, rfl, u10, IS⟩
  replace U0 := U0.trans u10
  replace k0 := u10.blk k0
  clear u10 I10
  go_wp2_with fail
  refine wp_region_held_drew (S := fun w' => Up w w' ∧ mblk w' r = some (.cells #[.int .i64 (-23), .int .i64 34] 23 (0, 0)) ∧ Ints w' sv [7000, 8004, 9012]) (by kernel_rfl) ⟨U0.drew, k0, IS.up (Up.refl _).drew⟩ (fun hHeld => ?_)
  clear U0 k0 IS
  refine takeH (i := 0) (d := (some 44)) (v := ?v64) rfl rfl (by kernel_rfl) (by kernel_rfl) (by kernel_rfl) (fun _ _ _ h => h) (by rfl) ?hy64 (by assumption) ?_
  case hy64 => ((intro w hSw; (try dsimp only at hSw); (try go_split_ands); go_simp); try with_reducible rfl)
  simp only [Act.put, List.setIfInBounds_toArray, List.set_cons_zero, List.set_cons_succ]
  refine takeH (i := 1) (d := (some 45)) (v := ?v65) rfl rfl (by kernel_rfl) (by kernel_rfl) (by kernel_rfl) (fun _ _ _ h => h) (by rfl) ?hy65 (by assumption) ?_
  case hy65 => ((intro w hSw; (try dsimp only at hSw); (try go_split_ands); go_simp); try with_reducible rfl)
  simp only [Act.put, List.setIfInBounds_toArray, List.set_cons_zero, List.set_cons_succ]
  refine takeH (i := 2) (d := (some 46)) (v := ?v66) rfl rfl (by kernel_rfl) (by kernel_rfl) (by kernel_rfl) (fun _ _ _ h => h) (by rfl) ?hy66 (by assumption) ?_
  case hy66 => ((intro w hSw; (try dsimp only at hSw); (try go_split_ands); go_simp); try with_reducible rfl)
  simp only [Act.put, List.setIfInBounds_toArray, List.set_cons_zero, List.set_cons_succ]
  refine takeH (i := 3) (d := (some 47)) (v := ?v67) rfl rfl (by kernel_rfl) (by kernel_rfl) (by kernel_rfl) (fun _ _ _ h => h) (by rfl) ?hy67 (by assumption) ?_
  case hy67 => ((intro w hSw; (try dsimp only at hSw); (try go_split_ands); go_simp); try with_reducible rfl)
  simp only [Act.put, List.setIfInBounds_toArray, List.set_cons_zero, List.set_cons_succ]
  refine takeH (i := 4) (d := (some 48)) (v := ?v68) rfl rfl (by kernel_rfl) (by kernel_rfl) (by kernel_rfl) (fun _ _ _ h => h) (by rfl) ?hy68 (by assumption) ?_
  case hy68 => ((intro w hSw; (try dsimp only at hSw); (try go_split_ands); go_simp); try with_reducible rfl)
  simp only [Act.put, List.setIfInBounds_toArray, List.set_cons_zero, List.set_cons_succ]
  refine takeH (i := 5) (d := (some 49)) (v := ?v69) rfl rfl (by kernel_rfl) (by kernel_rfl) (by kernel_rfl) (fun _ _ _ h => h) (by rfl) ?hy69 (by assumption) ?_
  case hy69 => ((intro w hSw; (try dsimp only at hSw); (try go_split_ands); go_simp); try with_reducible rfl)
  simp only [Act.put, List.setIfInBounds_toArray, List.set_cons_zero, List.set_cons_succ]
  refine takeH (i := 6) (d := (some 50)) (v := ?v70) rfl rfl (by kernel_rfl) (by kernel_rfl) (by kernel_rfl) (fun _ _ _ h => h) (by rfl) ?hy70 (by assumption) ?_
  case hy70 => ((intro w hSw; (try dsimp only at hSw); (try go_split_ands); go_simp); try with_reducible rfl)
  simp only [Act.put, List.setIfInBounds_toArray, List.set_cons_zero, List.set_cons_succ]
  refine takeH (i := 7) (d := (some 51)) (v := ?v71) rfl rfl (by kernel_rfl) (by kernel_rfl) (by kernel_rfl) (fun _ _ _ h => h) (by rfl) ?hy71 (by assumption) ?_
  case hy71 => ((intro w hSw; (try dsimp only at hSw); (try go_split_ands); go_simp); try with_reducible rfl)
  simp only [Act.put, List.setIfInBounds_toArray, List.set_cons_zero, List.set_cons_succ]
  refine takeH (i := 8) (d := (some 52)) (v := ?v72) rfl rfl (by kernel_rfl) (by kernel_rfl) (by kernel_rfl) (fun _ _ _ h => h) (by rfl) ?hy72 (by assumption) ?_
  case hy72 => ((intro w hSw; (try dsimp only at hSw); (try go_split_ands); go_simp); try with_reducible rfl)
  simp only [Act.put, List.setIfInBounds_toArray, List.set_cons_zero, List.set_cons_succ]
  refine takeH (i := 9) (d := (some 53)) (v := ?v73) rfl rfl (by kernel_rfl) (by kernel_rfl) (by kernel_rfl) (fun _ _ _ h => h) (by rfl) ?hy73 (by assumption) ?_
  case hy73 => ((intro w hSw; (try dsimp only at hSw); (try go_split_ands); go_simp); try with_reducible rfl)
  simp only [Act.put, List.setIfInBounds_toArray, List.set_cons_zero, List.set_cons_succ]
  refine takeH (i := 10) (d := (some 54)) (v := ?v74) rfl rfl (by kernel_rfl) (by kernel_rfl) (by kernel_rfl) (fun _ _ _ h => h) (by rfl) ?hy74 (by assumption) ?_
  case hy74 => ((intro w hSw; (try dsimp only at hSw); (try go_split_ands); go_simp); try with_reducible rfl)
  simp only [Act.put, List.setIfInBounds_toArray, List.set_cons_zero, List.set_cons_succ]
  refine takeH (i := 11) (d := (some 55)) (v := ?v75) rfl rfl (by kernel_rfl) (by kernel_rfl) (by kernel_rfl) (fun _ _ _ h => h) (by rfl) ?hy75 (by assumption) ?_
  case hy75 => ((intro w hSw; (try dsimp only at hSw); (try go_split_ands); go_simp); try with_reducible rfl)
  simp only [Act.put, List.setIfInBounds_toArray, List.set_cons_zero, List.set_cons_succ]
  refine takeH (i := 12) (d := (some 56)) (v := ?v76) rfl rfl (by kernel_rfl) (by kernel_rfl) (by kernel_rfl) (fun _ _ _ h => h) (by rfl) ?hy76 (by assumption) ?_
  case hy76 => ((intro w hSw; (try dsimp only at hSw); (try go_split_ands); go_simp); try with_reducible rfl)
  simp only [Act.put, List.setIfInBounds_toArray, List.set_cons_zero, List.set_cons_succ]
  refine takeH (i := 13) (d := (some 57)) (v := ?v77) rfl rfl (by kernel_rfl) (by kernel_rfl) (by kernel_rfl) (fun _ _ _ h => h) (by rfl) ?hy77 (by assumption) ?_
  case hy77 => ((intro w hSw; (try dsimp only at hSw); (try go_split_ands); go_simp); try with_reducible rfl)
  simp only [Act.put, List.setIfInBounds_toArray, List.set_cons_zero, List.set_cons_succ]
  refine takeH (i := 14) (d := (some 58)) (v := ?v78) rfl rfl (by kernel_rfl) (by kernel_rfl) (by kernel_rfl) (fun _ _ _ h => h) (by rfl) ?hy78 (by assumption) ?_
  case hy78 => ((intro w hSw; (try dsimp only at hSw); (try go_split_ands); go_simp); try with_reducible rfl)
  simp only [Act.put, List.setIfInBounds_toArray, List.set_cons_zero, List.set_cons_succ]
  refine takeH (i := 15) (d := (some 59)) (v := ?v79) rfl rfl (by kernel_rfl) (by kernel_rfl) (by kernel_rfl) (fun _ _ _ h => h) (by rfl) ?hy79 (by assumption) ?_
  case hy79 => ((intro w hSw; (try dsimp only at hSw); (try go_split_ands); go_simp); try with_reducible rfl)
  simp only [Act.put, List.setIfInBounds_toArray, List.set_cons_zero, List.set_cons_succ]
  refine takeH (i := 16) (d := (some 60)) (v := ?v80) rfl rfl (by kernel_rfl) (by kernel_rfl) (by kernel_rfl) (fun _ _ _ h => h) (by rfl) ?hy80 (by assumption) ?_
  case hy80 => ((intro w hSw; (try dsimp only at hSw); (try go_split_ands); go_simp); try with_reducible rfl)
  simp only [Act.put, List.setIfInBounds_toArray, List.set_cons_zero, List.set_cons_succ]
  refine takeH (i := 17) (d := (some 61)) (v := ?v81) rfl rfl (by kernel_rfl) (by kernel_rfl) (by kernel_rfl) (fun _ _ _ h => h) (by rfl) ?hy81 (by assumption) ?_
  case hy81 => ((intro w hSw; (try dsimp only at hSw); (try go_split_ands); go_simp); try with_reducible rfl)
  simp only [Act.put, List.setIfInBounds_toArray, List.set_cons_zero, List.set_cons_succ]
  refine takeH (i := 18) (d := (some 62)) (v := ?v82) rfl rfl (by kernel_rfl) (by kernel_rfl) (by kernel_rfl) (fun _ _ _ h => h) (by rfl) ?hy82 (by assumption) ?_
  case hy82 => ((intro w hSw; (try dsimp only at hSw); (try go_split_ands); go_simp); try with_reducible rfl)
  simp only [Act.put, List.setIfInBounds_toArray, List.set_cons_zero, List.set_cons_succ]
  refine takeH (i := 19) (d := (some 63)) (v := ?v83) rfl rfl (by kernel_rfl) (by kernel_rfl) (by kernel_rfl) (fun _ _ _ h => h) (by rfl) ?hy83 (by assumption) ?_
  case hy83 => ((intro w hSw; (try dsimp only at hSw); (try go_split_ands); go_simp); try with_reducible rfl)
  simp only [Act.put, List.setIfInBounds_toArray, List.set_cons_zero, List.set_cons_succ]
  refine wpAnyH_ready (rs := [20]) (by kernel_rfl) (by simp) ?_
  refine AllReadyH.cons rfl (fun K hK => ?_) AllReadyH.nil
  go_simp
  refine (B_To_any _ _ _).mono ?_
  rintro e w12 ⟨rfl, u12⟩
  go_wp2_with fail
  refine hK.out _ _ ⟨hHeld.1.trans u12, u12.blk hHeld.2.1, hHeld.2.2.up u12⟩ (fun hHeld => ?_)
  clear hK K u12
  refine takeH (i := 21) (d := (some 65)) (v := ?v85) rfl rfl (by kernel_rfl) (by kernel_rfl) (by kernel_rfl) (fun _ _ _ h => h) (by rfl) ?hy85 (by assumption) ?_
  case hy85 => ((intro w hSw; (try dsimp only at hSw); (try go_split_ands); go_simp); try with_reducible rfl)
  simp only [Act.put, List.setIfInBounds_toArray, List.set_cons_zero, List.set_cons_succ]
  refine takeH (i := 22) (d := (some 66)) (v := ?v86) rfl rfl (by kernel_rfl) (by kernel_rfl) (by kernel_rfl) (fun _ _ _ h => h) (by rfl) ?hy86 (by assumption) ?_
  case hy86 => ((intro w hSw; (try dsimp only at hSw); (try go_split_ands); go_simp); try with_reducible rfl)
  simp only [Act.put, List.setIfInBounds_toArray, List.set_cons_zero, List.set_cons_succ]
  refine takeH (i := 23) (d := (some 67)) (v := ?v87) rfl rfl (by kernel_rfl) (by kernel_rfl) (by kernel_rfl) (fun _ _ _ h => h) (by rfl) ?hy87 (by assumption) ?_
  case hy87 => ((intro w hSw; (try dsimp only at hSw); (try go_split_ands); go_simp); try with_reducible rfl)
  simp only [Act.put, List.setIfInBounds_toArray, List.set_cons_zero, List.set_cons_succ]
  refine takeH (i := 24) (d := (some 68)) (v := ?v88) rfl rfl (by kernel_rfl) (by kernel_rfl) (by kernel_rfl) (fun _ _ _ h => h) (by rfl) ?hy88 (by assumption) ?_
  case hy88 => ((intro w hSw; (try dsimp only at hSw); (try go_split_ands); go_simp); try with_reducible rfl)
  simp only [Act.put, List.setIfInBounds_toArray, List.set_cons_zero, List.set_cons_succ]
  refine takeH (i := 25) (d := (some 69)) (v := ?v89) rfl rfl (by kernel_rfl) (by kernel_rfl) (by kernel_rfl) (fun _ _ _ h => h) (by rfl) ?hy89 (by assumption) ?_
  case hy89 => ((intro w hSw; (try dsimp only at hSw); (try go_split_ands); go_simp); try with_reducible rfl)
  simp only [Act.put, List.setIfInBounds_toArray, List.set_cons_zero, List.set_cons_succ]
  refine takeH (i := 26) (d := (some 70)) (v := ?v90) rfl rfl (by kernel_rfl) (by kernel_rfl) (by kernel_rfl) (fun _ _ _ h => h) (by rfl) ?hy90 (by assumption) ?_
  case hy90 => ((intro w hSw; (try dsimp only at hSw); (try go_split_ands); go_simp); try with_reducible rfl)
  simp only [Act.put, List.setIfInBounds_toArray, List.set_cons_zero, List.set_cons_succ]
  refine takeH (i := 27) (d := (some 71)) (v := ?v91) rfl rfl (by kernel_rfl) (by kernel_rfl) (by kernel_rfl) (fun _ _ _ h => h) (by rfl) ?hy91 (by assumption) ?_
  case hy91 => ((intro w hSw; (try dsimp only at hSw); (try go_split_ands); go_simp); try with_reducible rfl)
  simp only [Act.put, List.setIfInBounds_toArray, List.set_cons_zero, List.set_cons_succ]
  refine takeH (i := 28) (d := (some 72)) (v := ?v92) rfl rfl (by kernel_rfl) (by kernel_rfl) (by kernel_rfl) (fun _ _ _ h => h) (by rfl) ?hy92 (by assumption) ?_
  case hy92 => ((intro w hSw; (try dsimp only at hSw); (try go_split_ands); go_simp); try with_reducible rfl)
  simp only [Act.put, List.setIfInBounds_toArray, List.set_cons_zero, List.set_cons_succ]
  refine takeH (i := 29) (d := (some 73)) (v := ?v93) rfl rfl (by kernel_rfl) (by kernel_rfl) (by kernel_rfl) (fun _ _ _ h => h) (by rfl) ?hy93 (by assumption) ?_
  case hy93 => ((intro w hSw; (try dsimp only at hSw); (try go_split_ands); go_simp); try with_reducible rfl)
  simp only [Act.put, List.setIfInBounds_toArray, List.set_cons_zero, List.set_cons_succ]
  refine takeH (i := 30) (d := (some 74)) (v := ?v94) rfl rfl (by kernel_rfl) (by kernel_rfl) (by kernel_rfl) (fun _ _ _ h => h) (by rfl) ?hy94 (by assumption) ?_
  case hy94 => ((intro w hSw; (try dsimp only at hSw); (try go_split_ands); go_simp); try with_reducible rfl)
  simp only [Act.put, List.setIfInBounds_toArray, List.set_cons_zero, List.set_cons_succ]
  refine takeH (i := 31) (d := (some 75)) (v := ?v95) rfl rfl (by kernel_rfl) (by kernel_rfl) (by kernel_rfl) (fun _ _ _ h => h) (by rfl) ?hy95 (by assumption) ?_
  case hy95 => ((intro w hSw; (try dsimp only at hSw); (try go_split_ands); go_simp); try with_reducible rfl)
  simp only [Act.put, List.setIfInBounds_toArray, List.set_cons_zero, List.set_cons_succ]
  refine takeH (i := 32) (d := (some 76)) (v := ?v96) rfl rfl (by kernel_rfl) (by kernel_rfl) (by kernel_rfl) (fun _ _ _ h => h) (by rfl) ?hy96 (by assumption) ?_
  case hy96 => ((intro w hSw; (try dsimp only at hSw); (try go_split_ands); go_simp); try with_reducible rfl)
  simp only [Act.put, List.setIfInBounds_toArray, List.set_cons_zero, List.set_cons_succ]
  refine takeH (i := 33) (d := (some 77)) (v := ?v97) rfl rfl (by kernel_rfl) (by kernel_rfl) (by kernel_rfl) (fun _ _ _ h => h) (by rfl) ?hy97 (by assumption) ?_
  case hy97 => ((intro w hSw; (try dsimp only at hSw); (try go_split_ands); go_simp); try with_reducible rfl)
  simp only [Act.put, List.setIfInBounds_toArray, List.set_cons_zero, List.set_cons_succ]
  refine takeH (i := 34) (d := (some 78)) (v := ?v98) rfl rfl (by kernel_rfl) (by kernel_rfl) (by kernel_rfl) (fun _ _ _ h => h) (by rfl) ?hy98 (by assumption) ?_
  case hy98 => ((intro w hSw; (try dsimp only at hSw); (try go_split_ands); go_simp); try with_reducible rfl)
  simp only [Act.put, List.setIfInBounds_toArray, List.set_cons_zero, List.set_cons_succ]
  refine takeH (i := 35) (d := (some 79)) (v := ?v99) rfl rfl (by kernel_rfl) (by kernel_rfl) (by kernel_rfl) (fun _ _ _ h => h) (by rfl) ?hy99 (by assumption) ?_
  case hy99 => ((intro w hSw; (try dsimp only at hSw); (try go_split_ands); go_simp); try with_reducible rfl)
  simp only [Act.put, List.setIfInBounds_toArray, List.set_cons_zero, List.set_cons_succ]
  refine takeH (i := 36) (d := (some 80)) (v := ?v100) rfl rfl (by kernel_rfl) (by kernel_rfl) (by kernel_rfl) (fun _ _ _ h => h) (by rfl) ?hy100 (by assumption) ?_
  case hy100 => ((intro w hSw; (try dsimp only at hSw); (try go_split_ands); go_simp); try with_reducible rfl)
  simp only [Act.put, List.setIfInBounds_toArray, List.set_cons_zero, List.set_cons_succ]
  refine takeH (i := 37) (d := (some 81)) (v := ?v101) rfl rfl (by kernel_rfl) (by kernel_rfl) (by kernel_rfl) (fun _ _ _ h => h) (by rfl) ?hy101 (by assumption) ?_
  case hy101 => ((intro w hSw; (try dsimp only at hSw); (try go_split_ands); go_simp); try with_reducible rfl)
  simp only [Act.put, List.setIfInBounds_toArray, List.set_cons_zero, List.set_cons_succ]
  refine wpAnyH_ready (rs := [38]) (by kernel_rfl) (by simp) ?_
  refine AllReadyH.cons rfl (fun K hK => ?_) AllReadyH.nil
  go_simp
  have SB := ints_lit (w := w12) (xs := [7000, 8004, 9012]) (cs := #[.int .i64 7000, .int .i64 8004, .int .i64 9012]) w12.heap.size rfl (by decide) (fun j hj => by
    have : j = 0 ∨ j = 1 ∨ j = 2 := by have : j < 3 := hj; omega
    rcases this with rfl | rfl | rfl <;> rfl)
  have SA := hHeld.2.2.up ((Up.refl w12).alloc (.cells #[.int .i64 7000, .int .i64 8004, .int .i64 9012] 3))
  refine hK.out _ _ ⟨hHeld.1.alloc _, blk_keep _ hHeld.2.1, SA⟩ (fun hHeld => ?_)
  clear hK K
  refine wpAnyH_ready (rs := [39]) (by kernel_rfl) (by simp) ?_
  refine AllReadyH.cons rfl (fun K hK => ?_) AllReadyH.nil
  go_simp
  refine (B_Alike_any SA SB).mono ?_
  rintro e w13 ⟨rfl, u13⟩
  go_wp2_with fail
  refine hK.out _ _ ⟨hHeld.1.trans u13, u13.blk hHeld.2.1, hHeld.2.2.up u13⟩ (fun hHeld => ?_)
  clear hK K SA SB
  refine takeH (i := 40) (d := (some 84)) (v := ?v104) rfl rfl (by kernel_rfl) (by kernel_rfl) (by kernel_rfl) (fun _ _ _ h => h) (by rfl) ?hy104 (by assumption) ?_
  case hy104 => ((intro w hSw; (try dsimp only at hSw); (try go_split_ands); go_simp); try with_reducible rfl)
  simp only [Act.put, List.setIfInBounds_toArray, List.set_cons_zero, List.set_cons_succ]
  refine takeH (i := 41) (d := (some 85)) (v := ?v105) rfl rfl (by kernel_rfl) (by kernel_rfl) (by kernel_rfl) (fun _ _ _ h => h) (by rfl) ?hy105 (by assumption) ?_
  case hy105 => ((intro w hSw; (try dsimp only at hSw); (try go_split_ands); go_simp); try with_reducible rfl)
  simp only [Act.put, List.setIfInBounds_toArray, List.set_cons_zero, List.set_cons_succ]
  refine wpAnyH_done (by kernel_rfl) ?_ _
  obtain ⟨U12, _⟩ := hHeld
  go_wp2_with fail
  refine (l_book_nil _).mono ?_
  rintro e v20 ⟨g20, h20, rfl, u20, I20, L20⟩
  go_wp2_with fail
  refine (exError I20 L20).mono ?_
  rintro e x20 ⟨rfl, y20⟩
  replace U12 := U12.trans (u20.trans y20)
  clear u20 y20 I20 L20
  go_wp2_with fail
  obtain ⟨W1, hW1⟩ : ∃ W1, x20.alloc (.cells #[.int .i64 2, .int .i64 7] 23) = W1 := ⟨_, rfl⟩
  have U20 : Up w W1 := by rw [← hW1]; exact U12.alloc _
  have k20 : mblk W1 x20.heap.size = some (.cells #[.int .i64 2, .int .i64 7] 23) := by rw [← hW1]; exact blk_new _ _ _ rfl
  rw [hW1]
  clear hW1
  obtain ⟨x, hx⟩ : ∃ x, x20.heap.size = x := ⟨_, rfl⟩
  rw [hx] at k20 ⊢
  clear hx U12
  have U12 := U20
  clear U20
  refine (l_book_nil _).mono ?_
  rintro e v21 ⟨g21, h21, rfl, u21, I21, L21⟩
  go_wp2_with fail
  refine (exStated I21 L21).mono ?_
  rintro e x21 ⟨rfl, y21⟩
  replace U12 := U12.trans (u21.trans y21)
  replace k20 := y21.blk (u21.blk k20)
  clear u21 y21 I21 L21
  go_wp2_with fail
  refine (l_book_nil _).mono ?_
  rintro e v22 ⟨g22, h22, rfl, u22, I22, L22⟩
  go_wp2_with fail
  refine (exWorst I22 L22).mono ?_
  rintro e x22 ⟨rfl, y22⟩
  replace U12 := U12.trans (u22.trans y22)
  replace k20 := y22.blk (u22.blk k20)
  clear u22 y22 I22 L22
  go_wp2_with fail
  refine (l_book_nil _).mono ?_
  rintro e v23 ⟨g23, h23, rfl, u23, I23, L23⟩
  go_wp2_with fail
  refine (exMeets I23 L23).mono ?_
  rintro e x23 ⟨rfl, y23⟩
  replace U12 := U12.trans (u23.trans y23)
  replace k20 := y23.blk (u23.blk k20)
  clear u23 y23 I23 L23
  go_wp2_with fail
  refine wp_region_held_drew (S := fun w' => Up w w' ∧ mblk w' x = some (.cells #[.int .i64 2, .int .i64 7] 23 (0, 0))) (by kernel_rfl) ⟨U12.drew, k20⟩ (fun hHeld => ?_)
  clear U12 k20
  refine takeH (i := 0) (d := (some 108)) (v := ?v106) rfl rfl (by kernel_rfl) (by kernel_rfl) (by kernel_rfl) (fun _ _ _ h => h) (by rfl) ?hy106 (by assumption) ?_
  case hy106 => ((intro w hSw; (try dsimp only at hSw); (try go_split_ands); go_simp); try with_reducible rfl)
  simp only [Act.put, List.setIfInBounds_toArray, List.set_cons_zero, List.set_cons_succ]
  refine takeH (i := 1) (d := (some 109)) (v := ?v107) rfl rfl (by kernel_rfl) (by kernel_rfl) (by kernel_rfl) (fun _ _ _ h => h) (by rfl) ?hy107 (by assumption) ?_
  case hy107 => ((intro w hSw; (try dsimp only at hSw); (try go_split_ands); go_simp); try with_reducible rfl)
  simp only [Act.put, List.setIfInBounds_toArray, List.set_cons_zero, List.set_cons_succ]
  refine takeH (i := 2) (d := (some 110)) (v := ?v108) rfl rfl (by kernel_rfl) (by kernel_rfl) (by kernel_rfl) (fun _ _ _ h => h) (by rfl) ?hy108 (by assumption) ?_
  case hy108 => ((intro w hSw; (try dsimp only at hSw); (try go_split_ands); go_simp); try with_reducible rfl)
  simp only [Act.put, List.setIfInBounds_toArray, List.set_cons_zero, List.set_cons_succ]
  refine takeH (i := 3) (d := (some 111)) (v := ?v109) rfl rfl (by kernel_rfl) (by kernel_rfl) (by kernel_rfl) (fun _ _ _ h => h) (by rfl) ?hy109 (by assumption) ?_
  case hy109 => ((intro w hSw; (try dsimp only at hSw); (try go_split_ands); go_simp); try with_reducible rfl)
  simp only [Act.put, List.setIfInBounds_toArray, List.set_cons_zero, List.set_cons_succ]
  refine takeH (i := 4) (d := (some 112)) (v := ?v110) rfl rfl (by kernel_rfl) (by kernel_rfl) (by kernel_rfl) (fun _ _ _ h => h) (by rfl) ?hy110 (by assumption) ?_
  case hy110 => ((intro w hSw; (try dsimp only at hSw); (try go_split_ands); go_simp); try with_reducible rfl)
  simp only [Act.put, List.setIfInBounds_toArray, List.set_cons_zero, List.set_cons_succ]
  refine takeH (i := 5) (d := (some 113)) (v := ?v111) rfl rfl (by kernel_rfl) (by kernel_rfl) (by kernel_rfl) (fun _ _ _ h => h) (by rfl) ?hy111 (by assumption) ?_
  case hy111 => ((intro w hSw; (try dsimp only at hSw); (try go_split_ands); go_simp); try with_reducible rfl)
  simp only [Act.put, List.setIfInBounds_toArray, List.set_cons_zero, List.set_cons_succ]
  refine takeH (i := 6) (d := (some 114)) (v := ?v112) rfl rfl (by kernel_rfl) (by kernel_rfl) (by kernel_rfl) (fun _ _ _ h => h) (by rfl) ?hy112 (by assumption) ?_
  case hy112 => ((intro w hSw; (try dsimp only at hSw); (try go_split_ands); go_simp); try with_reducible rfl)
  simp only [Act.put, List.setIfInBounds_toArray, List.set_cons_zero, List.set_cons_succ]
  refine takeH (i := 7) (d := (some 115)) (v := ?v113) rfl rfl (by kernel_rfl) (by kernel_rfl) (by kernel_rfl) (fun _ _ _ h => h) (by rfl) ?hy113 (by assumption) ?_
  case hy113 => ((intro w hSw; (try dsimp only at hSw); (try go_split_ands); go_simp); try with_reducible rfl)
  simp only [Act.put, List.setIfInBounds_toArray, List.set_cons_zero, List.set_cons_succ]
  refine takeH (i := 8) (d := (some 116)) (v := ?v114) rfl rfl (by kernel_rfl) (by kernel_rfl) (by kernel_rfl) (fun _ _ _ h => h) (by rfl) ?hy114 (by assumption) ?_
  case hy114 => ((intro w hSw; (try dsimp only at hSw); (try go_split_ands); go_simp); try with_reducible rfl)
  simp only [Act.put, List.setIfInBounds_toArray, List.set_cons_zero, List.set_cons_succ]
  refine takeH (i := 9) (d := (some 117)) (v := ?v115) rfl rfl (by kernel_rfl) (by kernel_rfl) (by kernel_rfl) (fun _ _ _ h => h) (by rfl) ?hy115 (by assumption) ?_
  case hy115 => ((intro w hSw; (try dsimp only at hSw); (try go_split_ands); go_simp); try with_reducible rfl)
  simp only [Act.put, List.setIfInBounds_toArray, List.set_cons_zero, List.set_cons_succ]
  refine takeH (i := 10) (d := (some 118)) (v := ?v116) rfl rfl (by kernel_rfl) (by kernel_rfl) (by kernel_rfl) (fun _ _ _ h => h) (by rfl) ?hy116 (by assumption) ?_
  case hy116 => ((intro w hSw; (try dsimp only at hSw); (try go_split_ands); go_simp); try with_reducible rfl)
  simp only [Act.put, List.setIfInBounds_toArray, List.set_cons_zero, List.set_cons_succ]
  refine takeH (i := 11) (d := (some 119)) (v := ?v117) rfl rfl (by kernel_rfl) (by kernel_rfl) (by kernel_rfl) (fun _ _ _ h => h) (by rfl) ?hy117 (by assumption) ?_
  case hy117 => ((intro w hSw; (try dsimp only at hSw); (try go_split_ands); go_simp); try with_reducible rfl)
  simp only [Act.put, List.setIfInBounds_toArray, List.set_cons_zero, List.set_cons_succ]
  refine takeH (i := 12) (d := (some 120)) (v := ?v118) rfl rfl (by kernel_rfl) (by kernel_rfl) (by kernel_rfl) (fun _ _ _ h => h) (by rfl) ?hy118 (by assumption) ?_
  case hy118 => ((intro w hSw; (try dsimp only at hSw); (try go_split_ands); go_simp); try with_reducible rfl)
  simp only [Act.put, List.setIfInBounds_toArray, List.set_cons_zero, List.set_cons_succ]
  refine takeH (i := 13) (d := (some 121)) (v := ?v119) rfl rfl (by kernel_rfl) (by kernel_rfl) (by kernel_rfl) (fun _ _ _ h => h) (by rfl) ?hy119 (by assumption) ?_
  case hy119 => ((intro w hSw; (try dsimp only at hSw); (try go_split_ands); go_simp); try with_reducible rfl)
  simp only [Act.put, List.setIfInBounds_toArray, List.set_cons_zero, List.set_cons_succ]
  refine takeH (i := 14) (d := (some 122)) (v := ?v120) rfl rfl (by kernel_rfl) (by kernel_rfl) (by kernel_rfl) (fun _ _ _ h => h) (by rfl) ?hy120 (by assumption) ?_
  case hy120 => ((intro w hSw; (try dsimp only at hSw); (try go_split_ands); go_simp); try with_reducible rfl)
  simp only [Act.put, List.setIfInBounds_toArray, List.set_cons_zero, List.set_cons_succ]
  refine takeH (i := 15) (d := (some 123)) (v := ?v121) rfl rfl (by kernel_rfl) (by kernel_rfl) (by kernel_rfl) (fun _ _ _ h => h) (by rfl) ?hy121 (by assumption) ?_
  case hy121 => ((intro w hSw; (try dsimp only at hSw); (try go_split_ands); go_simp); try with_reducible rfl)
  simp only [Act.put, List.setIfInBounds_toArray, List.set_cons_zero, List.set_cons_succ]
  refine wpAnyH_ready (rs := [16]) (by kernel_rfl) (by simp) ?_
  refine AllReadyH.cons rfl (fun K hK => ?_) AllReadyH.nil
  go_simp
  refine (B_To_any _ _ _).mono ?_
  rintro e w28 ⟨rfl, u28⟩
  go_wp2_with fail
  refine hK.out _ _ ⟨hHeld.1.trans u28, u28.blk hHeld.2⟩ (fun hHeld => ?_)
  clear hK K u28
  refine takeH (i := 17) (d := (some 125)) (v := ?v123) rfl rfl (by kernel_rfl) (by kernel_rfl) (by kernel_rfl) (fun _ _ _ h => h) (by rfl) ?hy123 (by assumption) ?_
  case hy123 => ((intro w hSw; (try dsimp only at hSw); (try go_split_ands); go_simp); try with_reducible rfl)
  simp only [Act.put, List.setIfInBounds_toArray, List.set_cons_zero, List.set_cons_succ]
  refine takeH (i := 18) (d := (some 126)) (v := ?v124) rfl rfl (by kernel_rfl) (by kernel_rfl) (by kernel_rfl) (fun _ _ _ h => h) (by rfl) ?hy124 (by assumption) ?_
  case hy124 => ((intro w hSw; (try dsimp only at hSw); (try go_split_ands); go_simp); try with_reducible rfl)
  simp only [Act.put, List.setIfInBounds_toArray, List.set_cons_zero, List.set_cons_succ]
  refine takeH (i := 19) (d := (some 127)) (v := ?v125) rfl rfl (by kernel_rfl) (by kernel_rfl) (by kernel_rfl) (fun _ _ _ h => h) (by rfl) ?hy125 (by assumption) ?_
  case hy125 => ((intro w hSw; (try dsimp only at hSw); (try go_split_ands); go_simp); try with_reducible rfl)
  simp only [Act.put, List.setIfInBounds_toArray, List.set_cons_zero, List.set_cons_succ]
  refine takeH (i := 20) (d := (some 128)) (v := ?v126) rfl rfl (by kernel_rfl) (by kernel_rfl) (by kernel_rfl) (fun _ _ _ h => h) (by rfl) ?hy126 (by assumption) ?_
  case hy126 => ((intro w hSw; (try dsimp only at hSw); (try go_split_ands); go_simp); try with_reducible rfl)
  simp only [Act.put, List.setIfInBounds_toArray, List.set_cons_zero, List.set_cons_succ]
  refine takeH (i := 21) (d := (some 129)) (v := ?v127) rfl rfl (by kernel_rfl) (by kernel_rfl) (by kernel_rfl) (fun _ _ _ h => h) (by rfl) ?hy127 (by assumption) ?_
  case hy127 => ((intro w hSw; (try dsimp only at hSw); (try go_split_ands); go_simp); try with_reducible rfl)
  simp only [Act.put, List.setIfInBounds_toArray, List.set_cons_zero, List.set_cons_succ]
  refine takeH (i := 22) (d := (some 130)) (v := ?v128) rfl rfl (by kernel_rfl) (by kernel_rfl) (by kernel_rfl) (fun _ _ _ h => h) (by rfl) ?hy128 (by assumption) ?_
  case hy128 => ((intro w hSw; (try dsimp only at hSw); (try go_split_ands); go_simp); try with_reducible rfl)
  simp only [Act.put, List.setIfInBounds_toArray, List.set_cons_zero, List.set_cons_succ]
  refine takeH (i := 23) (d := (some 131)) (v := ?v129) rfl rfl (by kernel_rfl) (by kernel_rfl) (by kernel_rfl) (fun _ _ _ h => h) (by rfl) ?hy129 (by assumption) ?_
  case hy129 => ((intro w hSw; (try dsimp only at hSw); (try go_split_ands); go_simp); try with_reducible rfl)
  simp only [Act.put, List.setIfInBounds_toArray, List.set_cons_zero, List.set_cons_succ]
  refine takeH (i := 24) (d := (some 132)) (v := ?v130) rfl rfl (by kernel_rfl) (by kernel_rfl) (by kernel_rfl) (fun _ _ _ h => h) (by rfl) ?hy130 (by assumption) ?_
  case hy130 => ((intro w hSw; (try dsimp only at hSw); (try go_split_ands); go_simp); try with_reducible rfl)
  simp only [Act.put, List.setIfInBounds_toArray, List.set_cons_zero, List.set_cons_succ]
  refine takeH (i := 25) (d := (some 133)) (v := ?v131) rfl rfl (by kernel_rfl) (by kernel_rfl) (by kernel_rfl) (fun _ _ _ h => h) (by rfl) ?hy131 (by assumption) ?_
  case hy131 => ((intro w hSw; (try dsimp only at hSw); (try go_split_ands); go_simp); try with_reducible rfl)
  simp only [Act.put, List.setIfInBounds_toArray, List.set_cons_zero, List.set_cons_succ]
  refine takeH (i := 26) (d := (some 134)) (v := ?v132) rfl rfl (by kernel_rfl) (by kernel_rfl) (by kernel_rfl) (fun _ _ _ h => h) (by rfl) ?hy132 (by assumption) ?_
  case hy132 => ((intro w hSw; (try dsimp only at hSw); (try go_split_ands); go_simp); try with_reducible rfl)
  simp only [Act.put, List.setIfInBounds_toArray, List.set_cons_zero, List.set_cons_succ]
  refine takeH (i := 27) (d := (some 135)) (v := ?v133) rfl rfl (by kernel_rfl) (by kernel_rfl) (by kernel_rfl) (fun _ _ _ h => h) (by rfl) ?hy133 (by assumption) ?_
  case hy133 => ((intro w hSw; (try dsimp only at hSw); (try go_split_ands); go_simp); try with_reducible rfl)
  simp only [Act.put, List.setIfInBounds_toArray, List.set_cons_zero, List.set_cons_succ]
  refine takeH (i := 28) (d := (some 136)) (v := ?v134) rfl rfl (by kernel_rfl) (by kernel_rfl) (by kernel_rfl) (fun _ _ _ h => h) (by rfl) ?hy134 (by assumption) ?_
  case hy134 => ((intro w hSw; (try dsimp only at hSw); (try go_split_ands); go_simp); try with_reducible rfl)
  simp only [Act.put, List.setIfInBounds_toArray, List.set_cons_zero, List.set_cons_succ]
  refine takeH (i := 29) (d := (some 137)) (v := ?v135) rfl rfl (by kernel_rfl) (by kernel_rfl) (by kernel_rfl) (fun _ _ _ h => h) (by rfl) ?hy135 (by assumption) ?_
  case hy135 => ((intro w hSw; (try dsimp only at hSw); (try go_split_ands); go_simp); try with_reducible rfl)
  simp only [Act.put, List.setIfInBounds_toArray, List.set_cons_zero, List.set_cons_succ]
  refine takeH (i := 30) (d := (some 138)) (v := ?v136) rfl rfl (by kernel_rfl) (by kernel_rfl) (by kernel_rfl) (fun _ _ _ h => h) (by rfl) ?hy136 (by assumption) ?_
  case hy136 => ((intro w hSw; (try dsimp only at hSw); (try go_split_ands); go_simp); try with_reducible rfl)
  simp only [Act.put, List.setIfInBounds_toArray, List.set_cons_zero, List.set_cons_succ]
  refine takeH (i := 31) (d := (some 139)) (v := ?v137) rfl rfl (by kernel_rfl) (by kernel_rfl) (by kernel_rfl) (fun _ _ _ h => h) (by rfl) ?hy137 (by assumption) ?_
  case hy137 => ((intro w hSw; (try dsimp only at hSw); (try go_split_ands); go_simp); try with_reducible rfl)
  simp only [Act.put, List.setIfInBounds_toArray, List.set_cons_zero, List.set_cons_succ]
  refine takeH (i := 32) (d := (some 140)) (v := ?v138) rfl rfl (by kernel_rfl) (by kernel_rfl) (by kernel_rfl) (fun _ _ _ h => h) (by rfl) ?hy138 (by assumption) ?_
  case hy138 => ((intro w hSw; (try dsimp only at hSw); (try go_split_ands); go_simp); try with_reducible rfl)
  simp only [Act.put, List.setIfInBounds_toArray, List.set_cons_zero, List.set_cons_succ]
  refine takeH (i := 33) (d := (some 141)) (v := ?v139) rfl rfl (by kernel_rfl) (by kernel_rfl) (by kernel_rfl) (fun _ _ _ h => h) (by rfl) ?hy139 (by assumption) ?_
  case hy139 => ((intro w hSw; (try dsimp only at hSw); (try go_split_ands); go_simp); try with_reducible rfl)
  simp only [Act.put, List.setIfInBounds_toArray, List.set_cons_zero, List.set_cons_succ]
  refine takeH (i := 34) (d := (some 142)) (v := ?v140) rfl rfl (by kernel_rfl) (by kernel_rfl) (by kernel_rfl) (fun _ _ _ h => h) (by rfl) ?hy140 (by assumption) ?_
  case hy140 => ((intro w hSw; (try dsimp only at hSw); (try go_split_ands); go_simp); try with_reducible rfl)
  simp only [Act.put, List.setIfInBounds_toArray, List.set_cons_zero, List.set_cons_succ]
  refine takeH (i := 35) (d := (some 143)) (v := ?v141) rfl rfl (by kernel_rfl) (by kernel_rfl) (by kernel_rfl) (fun _ _ _ h => h) (by rfl) ?hy141 (by assumption) ?_
  case hy141 => ((intro w hSw; (try dsimp only at hSw); (try go_split_ands); go_simp); try with_reducible rfl)
  simp only [Act.put, List.setIfInBounds_toArray, List.set_cons_zero, List.set_cons_succ]
  refine takeH (i := 36) (d := (some 144)) (v := ?v142) rfl rfl (by kernel_rfl) (by kernel_rfl) (by kernel_rfl) (fun _ _ _ h => h) (by rfl) ?hy142 (by assumption) ?_
  case hy142 => ((intro w hSw; (try dsimp only at hSw); (try go_split_ands); go_simp); try with_reducible rfl)
  simp only [Act.put, List.setIfInBounds_toArray, List.set_cons_zero, List.set_cons_succ]
  refine takeH (i := 37) (d := (some 145)) (v := ?v143) rfl rfl (by kernel_rfl) (by kernel_rfl) (by kernel_rfl) (fun _ _ _ h => h) (by rfl) ?hy143 (by assumption) ?_
  case hy143 => ((intro w hSw; (try dsimp only at hSw); (try go_split_ands); go_simp); try with_reducible rfl)
  simp only [Act.put, List.setIfInBounds_toArray, List.set_cons_zero, List.set_cons_succ]
  refine takeH (i := 38) (d := (some 146)) (v := ?v144) rfl rfl (by kernel_rfl) (by kernel_rfl) (by kernel_rfl) (fun _ _ _ h => h) (by rfl) ?hy144 (by assumption) ?_
  case hy144 => ((intro w hSw; (try dsimp only at hSw); (try go_split_ands); go_simp); try with_reducible rfl)
  simp only [Act.put, List.setIfInBounds_toArray, List.set_cons_zero, List.set_cons_succ]
  refine takeH (i := 39) (d := (some 147)) (v := ?v145) rfl rfl (by kernel_rfl) (by kernel_rfl) (by kernel_rfl) (fun _ _ _ h => h) (by rfl) ?hy145 (by assumption) ?_
  case hy145 => ((intro w hSw; (try dsimp only at hSw); (try go_split_ands); go_simp); try with_reducible rfl)
  simp only [Act.put, List.setIfInBounds_toArray, List.set_cons_zero, List.set_cons_succ]
  refine wpAnyH_ready (rs := [40]) (by kernel_rfl) (by simp) ?_
  refine AllReadyH.cons rfl (fun K hK => ?_) AllReadyH.nil
  go_simp
  refine (l_book_nil _).mono ?_
  rintro e w29 ⟨g29, h29, rfl, u29, I29, L29⟩
  go_wp2_with fail
  refine hK.out _ _ ⟨hHeld.1.trans u29, u29.blk hHeld.2⟩ (fun hHeld => ?_)
  clear hK K u29
  refine wpAnyH_ready (rs := [41]) (by kernel_rfl) (by simp) ?_
  refine AllReadyH.cons rfl (fun K hK => ?_) AllReadyH.nil
  go_simp
  refine (exCheck I29 L29).mono ?_
  rintro e w30 ⟨rfl, u30⟩
  go_wp2_with fail
  refine hK.out _ _ ⟨hHeld.1.trans u30, u30.blk hHeld.2⟩ (fun hHeld => ?_)
  clear hK K u30 I29 L29
  refine takeH (i := 42) (d := (some 150)) (v := ?v148) rfl rfl (by kernel_rfl) (by kernel_rfl) (by kernel_rfl) (fun _ _ _ h => h) (by rfl) ?hy148 (by assumption) ?_
  case hy148 => ((intro w hSw; (try dsimp only at hSw); (try go_split_ands); go_simp); try with_reducible rfl)
  simp only [Act.put, List.setIfInBounds_toArray, List.set_cons_zero, List.set_cons_succ]
  refine takeH (i := 43) (d := (some 151)) (v := ?v149) rfl rfl (by kernel_rfl) (by kernel_rfl) (by kernel_rfl) (fun _ _ _ h => h) (by rfl) ?hy149 (by assumption) ?_
  case hy149 => ((intro w hSw; (try dsimp only at hSw); (try go_split_ands); go_simp); try with_reducible rfl)
  simp only [Act.put, List.setIfInBounds_toArray, List.set_cons_zero, List.set_cons_succ]
  refine takeH (i := 44) (d := (some 0)) (v := ?v44) rfl rfl (by kernel_rfl) (by kernel_rfl) (by kernel_rfl) (fun _ _ _ h => h) (by rfl) ?hy44 (by assumption) ?_
  case hy44 => ((intro w hSw; (try dsimp only at hSw); (try go_split_ands); go_simp); try with_reducible rfl)
  simp only [Act.put, List.setIfInBounds_toArray, List.set_cons_zero]
  refine wpAnyH_done (by kernel_rfl) ?_ _
  go_wp2
  go_ret
  exact ⟨rfl, hHeld.1⟩

end Go.Proofs.Ytcadpdbadgejfaa
