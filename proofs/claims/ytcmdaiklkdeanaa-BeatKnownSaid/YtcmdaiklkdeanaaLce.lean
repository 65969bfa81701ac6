import Derived.Test.YtcmdaiklkdeanaaBsc
/- The contracts of the laws' cellar and torn. -/
namespace Go.Proofs.Ytcmdaiklkdeanaa
open Go.RowKit Go.Shelf
attribute [local go_sem] Oper.semAt_some

set_option maxRecDepth 100000 in
set_option maxHeartbeats 2000000 in
theorem l_torn_any (w : World) : Calls Try.prog 43 #[] w fun e w' => (∃ g, e = .returned (.slice (some ⟨g, 0, none⟩) 1 1) ∧ mblk w' g = some (.cells #[.int .i64 1, .int .i64 1, .int .i64 (-1), .int .i64 80, .int .i64 90] 61 (0, 0)) ∧ w.heap.size ≤ g) ∧ Up w w' := by
  have HT := Lib.hid (fun w => B_To_any 80 90 w)
  go_enter Try.func43, Try.ntmps43
  go_wp2_with fail
  refine (HT.out _).mono ?_
  rintro e w1 ⟨rfl, u1⟩
  have k1 := blk_new w1 (.cells #[.int .i64 1, .int .i64 1, .int .i64 (-1), .int .i64 80, .int .i64 90] 61) _ rfl
  have V1 := u1.alloc (.cells #[.int .i64 1, .int .i64 1, .int .i64 (-1), .int .i64 80, .int .i64 90] 61)
  have hs := u1.size
  have HK := Lib.hid k1
  clear HT u1 k1
  go_wp2
  go_ret
  exact ⟨⟨_, rfl, HK.out, hs⟩, V1⟩
set_option maxRecDepth 100000 in
set_option maxHeartbeats 4000000 in
theorem l_cellar_nil (w : World) : Calls Try.prog 42 #[.slice none 0 0] w fun e w' => (∃ g1 g2 g3, e = .returned (ClV 3 (.slice (some ⟨g1, 0, none⟩) 3 3) (.slice (some ⟨g2, 0, none⟩) 1 1) (.slice (some ⟨g3, 0, none⟩) 4 4)) ∧ Sps w' (.slice (some ⟨g1, 0, none⟩) 3 3) T.rs0 ∧ Ops w' (.slice (some ⟨g2, 0, none⟩) 1 1) T.os0 ∧ Prs w' (.slice (some ⟨g3, 0, none⟩) 4 4) T.ps0) ∧ Up w w' := by
  have HT0 := Lib.hid (fun w => B_To_any (-2) 3 w)
  have HT1 := Lib.hid (fun w => B_To_any 0 1 w)
  have HT2 := Lib.hid (fun w => B_To_any (-10) 10 w)
  have HT3 := Lib.hid (fun w => B_To_any (-50) 50 w)
  have HT4 := Lib.hid (fun w => B_To_any 100 104 w)
  have HT5 := Lib.hid (fun w => B_To_any 40 44 w)
  have HT6 := Lib.hid (fun w => B_To_any 60 61 w)
  have HT7 := Lib.hid (fun w => B_To_any 5 5 w)
  have U0 := (Up.refl w).alloc (.cells #[.int .i64 0, .slice none 0 0, .slice none 0 0, .slice none 0 0] 26)
  have k0 := blk_new w (.cells #[.int .i64 0, .slice none 0 0, .slice none 0 0, .slice none 0 0] 26) _ rfl
  go_enter Try.func42, Try.ntmps42
  go_wp2_with fail
  refine (HT0.out _).mono ?_
  rintro e w1 ⟨rfl, u1⟩
  replace k0 := u1.blk k0
  replace U0 := U0.trans u1
  clear u1 HT0
  go_wp2_with fail
  refine (HT1.out _).mono ?_
  rintro e w1 ⟨rfl, u1⟩
  replace k0 := u1.blk k0
  replace U0 := U0.trans u1
  clear u1 HT1
  go_wp2_with fail
  refine (HT2.out _).mono ?_
  rintro e w1 ⟨rfl, u1⟩
  replace k0 := u1.blk k0
  replace U0 := U0.trans u1
  clear u1 HT2
  go_wp2_with fail
  have g1 := blk_new w1 (.cells #[.int .i64 (-2), .int .i64 3, .int .i64 0, .int .i64 1, .int .i64 (-10), .int .i64 10] 34) _ rfl
  have k1 := blk_keep (.cells #[.int .i64 (-2), .int .i64 3, .int .i64 0, .int .i64 1, .int .i64 (-10), .int .i64 10] 34) k0
  have V1 := U0.alloc (.cells #[.int .i64 (-2), .int .i64 3, .int .i64 0, .int .i64 1, .int .i64 (-10), .int .i64 10] 34)
  obtain ⟨q1, hq1⟩ : ∃ x, w1.heap.size = x := ⟨_, rfl⟩
  obtain ⟨W1, hW1⟩ : ∃ x, w1.alloc (.cells #[.int .i64 (-2), .int .i64 3, .int .i64 0, .int .i64 1, .int .i64 (-10), .int .i64 10] 34) = x := ⟨_, rfl⟩
  rw [hq1, hW1]
  rw [hq1, hW1] at g1
  rw [hW1] at k1 V1
  have n1 : w.heap.size < q1 := by rw [← hq1]; exact blk_lt k0
  clear k0 U0 hq1 hW1
  refine (HT3.out _).mono ?_
  rintro e w1 ⟨rfl, u1⟩
  replace k1 := u1.blk k1
  replace g1 := u1.blk g1
  replace V1 := V1.trans u1
  clear u1 HT3
  go_wp2_with fail
  have g2 := blk_new w1 (.cells #[.int .i64 2, .int .i64 1, .int .i64 (-50), .int .i64 50] 63) _ rfl
  have k2 := blk_keep (.cells #[.int .i64 2, .int .i64 1, .int .i64 (-50), .int .i64 50] 63) k1
  have g12 := blk_keep (.cells #[.int .i64 2, .int .i64 1, .int .i64 (-50), .int .i64 50] 63) g1
  have V2 := V1.alloc (.cells #[.int .i64 2, .int .i64 1, .int .i64 (-50), .int .i64 50] 63)
  obtain ⟨q2, hq2⟩ : ∃ x, w1.heap.size = x := ⟨_, rfl⟩
  obtain ⟨W2, hW2⟩ : ∃ x, w1.alloc (.cells #[.int .i64 2, .int .i64 1, .int .i64 (-50), .int .i64 50] 63) = x := ⟨_, rfl⟩
  rw [hq2, hW2]
  rw [hq2, hW2] at g2
  rw [hW2] at k2 V2 g12
  have n2 : w.heap.size < q2 := by rw [← hq2]; exact blk_lt k1
  clear k1 g1 V1 hq2 hW2
  refine (HT4.out _).mono ?_
  rintro e w1 ⟨rfl, u1⟩
  replace k2 := u1.blk k2
  replace g12 := u1.blk g12
  replace g2 := u1.blk g2
  replace V2 := V2.trans u1
  clear u1 HT4
  go_wp2_with fail
  refine (HT5.out _).mono ?_
  rintro e w1 ⟨rfl, u1⟩
  replace k2 := u1.blk k2
  replace g12 := u1.blk g12
  replace g2 := u1.blk g2
  replace V2 := V2.trans u1
  clear u1 HT5
  go_wp2_with fail
  refine (HT6.out _).mono ?_
  rintro e w1 ⟨rfl, u1⟩
  replace k2 := u1.blk k2
  replace g12 := u1.blk g12
  replace g2 := u1.blk g2
  replace V2 := V2.trans u1
  clear u1 HT6
  go_wp2_with fail
  refine (HT7.out _).mono ?_
  rintro e w1 ⟨rfl, u1⟩
  replace k2 := u1.blk k2
  replace g12 := u1.blk g12
  replace g2 := u1.blk g2
  replace V2 := V2.trans u1
  clear u1 HT7
  have g3 := blk_keep (.cells #[.int .i64 3, .slice (some ⟨q1, 0, none⟩) 3 3, .slice (some ⟨q2, 0, none⟩) 1 1, .slice (some ⟨w1.heap.size, 0, none⟩) 4 4] 26) (blk_new w1 (.cells #[.int .i64 0, .int .i64 0, .int .i64 (-1), .int .i64 100, .int .i64 104, .int .i64 1, .int .i64 0, .int .i64 1, .int .i64 40, .int .i64 44, .int .i64 3, .int .i64 1, .int .i64 (-1), .int .i64 60, .int .i64 61, .int .i64 3, .int .i64 2, .int .i64 1, .int .i64 5, .int .i64 5] 61) _ rfl)
  have g13 := blk_keep (.cells #[.int .i64 3, .slice (some ⟨q1, 0, none⟩) 3 3, .slice (some ⟨q2, 0, none⟩) 1 1, .slice (some ⟨w1.heap.size, 0, none⟩) 4 4] 26) (blk_keep (.cells #[.int .i64 0, .int .i64 0, .int .i64 (-1), .int .i64 100, .int .i64 104, .int .i64 1, .int .i64 0, .int .i64 1, .int .i64 40, .int .i64 44, .int .i64 3, .int .i64 1, .int .i64 (-1), .int .i64 60, .int .i64 61, .int .i64 3, .int .i64 2, .int .i64 1, .int .i64 5, .int .i64 5] 61) g12)
  have g23 := blk_keep (.cells #[.int .i64 3, .slice (some ⟨q1, 0, none⟩) 3 3, .slice (some ⟨q2, 0, none⟩) 1 1, .slice (some ⟨w1.heap.size, 0, none⟩) 4 4] 26) (blk_keep (.cells #[.int .i64 0, .int .i64 0, .int .i64 (-1), .int .i64 100, .int .i64 104, .int .i64 1, .int .i64 0, .int .i64 1, .int .i64 40, .int .i64 44, .int .i64 3, .int .i64 1, .int .i64 (-1), .int .i64 60, .int .i64 61, .int .i64 3, .int .i64 2, .int .i64 1, .int .i64 5, .int .i64 5] 61) g2)
  have k3 := blk_keep (.cells #[.int .i64 3, .slice (some ⟨q1, 0, none⟩) 3 3, .slice (some ⟨q2, 0, none⟩) 1 1, .slice (some ⟨w1.heap.size, 0, none⟩) 4 4] 26) (blk_keep (.cells #[.int .i64 0, .int .i64 0, .int .i64 (-1), .int .i64 100, .int .i64 104, .int .i64 1, .int .i64 0, .int .i64 1, .int .i64 40, .int .i64 44, .int .i64 3, .int .i64 1, .int .i64 (-1), .int .i64 60, .int .i64 61, .int .i64 3, .int .i64 2, .int .i64 1, .int .i64 5, .int .i64 5] 61) k2)
  have V3 := (V2.alloc (.cells #[.int .i64 0, .int .i64 0, .int .i64 (-1), .int .i64 100, .int .i64 104, .int .i64 1, .int .i64 0, .int .i64 1, .int .i64 40, .int .i64 44, .int .i64 3, .int .i64 1, .int .i64 (-1), .int .i64 60, .int .i64 61, .int .i64 3, .int .i64 2, .int .i64 1, .int .i64 5, .int .i64 5] 61)).alloc (.cells #[.int .i64 3, .slice (some ⟨q1, 0, none⟩) 3 3, .slice (some ⟨q2, 0, none⟩) 1 1, .slice (some ⟨w1.heap.size, 0, none⟩) 4 4] 26)
  have n3 : w.heap.size < w1.heap.size := blk_lt k2
  have zz := frozB k3
  have lz := blk_lt k3
  have KZ := Lib.hid (show mblk ((((((w1.alloc (.cells #[.int .i64 0, .int .i64 0, .int .i64 (-1), .int .i64 100, .int .i64 104, .int .i64 1, .int .i64 0, .int .i64 1, .int .i64 40, .int .i64 44, .int .i64 3, .int .i64 1, .int .i64 (-1), .int .i64 60, .int .i64 61, .int .i64 3, .int .i64 2, .int .i64 1, .int .i64 5, .int .i64 5] 61)).alloc (.cells #[.int .i64 3, .slice (some ⟨q1, 0, none⟩) 3 3, .slice (some ⟨q2, 0, none⟩) 1 1, .slice (some ⟨w1.heap.size, 0, none⟩) 4 4] 26)).setCell ⟨w.heap.size, 0, none⟩ (.int .i64 3)).setCell ⟨w.heap.size, 1, none⟩ (.slice (some ⟨q1, 0, none⟩) 3 3)).setCell ⟨w.heap.size, 2, none⟩ (.slice (some ⟨q2, 0, none⟩) 1 1)).setCell ⟨w.heap.size, 3, none⟩ (.slice (some ⟨w1.heap.size, 0, none⟩) 4 4)) w.heap.size = some (.cells #[.int .i64 3, .slice (some ⟨q1, 0, none⟩) 3 3, .slice (some ⟨q2, 0, none⟩) 1 1, .slice (some ⟨w1.heap.size, 0, none⟩) 4 4] 26 (0, 0)) from (blk_put (blk_put (blk_put (blk_put k3 0 (.int .i64 3)) 1 (.slice (some ⟨q1, 0, none⟩) 3 3)) 2 (.slice (some ⟨q2, 0, none⟩) 1 1)) 3 (.slice (some ⟨w1.heap.size, 0, none⟩) 4 4)))
  have UZ := ((((V3.set (p := ⟨w.heap.size, 0, none⟩) (Nat.le_refl _) (.int .i64 3)).set (p := ⟨w.heap.size, 1, none⟩) (Nat.le_refl _) (.slice (some ⟨q1, 0, none⟩) 3 3)).set (p := ⟨w.heap.size, 2, none⟩) (Nat.le_refl _) (.slice (some ⟨q2, 0, none⟩) 1 1)).set (p := ⟨w.heap.size, 3, none⟩) (Nat.le_refl _) (.slice (some ⟨w1.heap.size, 0, none⟩) 4 4))
  have G1 := Lib.hid (show mblk ((((((w1.alloc (.cells #[.int .i64 0, .int .i64 0, .int .i64 (-1), .int .i64 100, .int .i64 104, .int .i64 1, .int .i64 0, .int .i64 1, .int .i64 40, .int .i64 44, .int .i64 3, .int .i64 1, .int .i64 (-1), .int .i64 60, .int .i64 61, .int .i64 3, .int .i64 2, .int .i64 1, .int .i64 5, .int .i64 5] 61)).alloc (.cells #[.int .i64 3, .slice (some ⟨q1, 0, none⟩) 3 3, .slice (some ⟨q2, 0, none⟩) 1 1, .slice (some ⟨w1.heap.size, 0, none⟩) 4 4] 26)).setCell ⟨w.heap.size, 0, none⟩ (.int .i64 3)).setCell ⟨w.heap.size, 1, none⟩ (.slice (some ⟨q1, 0, none⟩) 3 3)).setCell ⟨w.heap.size, 2, none⟩ (.slice (some ⟨q2, 0, none⟩) 1 1)).setCell ⟨w.heap.size, 3, none⟩ (.slice (some ⟨w1.heap.size, 0, none⟩) 4 4)) q1 = some (.cells #[.int .i64 (-2), .int .i64 3, .int .i64 0, .int .i64 1, .int .i64 (-10), .int .i64 10] 34 (0, 0)) from ((blk_set _ _ _ _ (by show q1 ≠ w.heap.size; omega)).trans ((blk_set _ _ _ _ (by show q1 ≠ w.heap.size; omega)).trans ((blk_set _ _ _ _ (by show q1 ≠ w.heap.size; omega)).trans ((blk_set _ _ _ _ (by show q1 ≠ w.heap.size; omega)).trans g13)))))
  have G2 := Lib.hid (show mblk ((((((w1.alloc (.cells #[.int .i64 0, .int .i64 0, .int .i64 (-1), .int .i64 100, .int .i64 104, .int .i64 1, .int .i64 0, .int .i64 1, .int .i64 40, .int .i64 44, .int .i64 3, .int .i64 1, .int .i64 (-1), .int .i64 60, .int .i64 61, .int .i64 3, .int .i64 2, .int .i64 1, .int .i64 5, .int .i64 5] 61)).alloc (.cells #[.int .i64 3, .slice (some ⟨q1, 0, none⟩) 3 3, .slice (some ⟨q2, 0, none⟩) 1 1, .slice (some ⟨w1.heap.size, 0, none⟩) 4 4] 26)).setCell ⟨w.heap.size, 0, none⟩ (.int .i64 3)).setCell ⟨w.heap.size, 1, none⟩ (.slice (some ⟨q1, 0, none⟩) 3 3)).setCell ⟨w.heap.size, 2, none⟩ (.slice (some ⟨q2, 0, none⟩) 1 1)).setCell ⟨w.heap.size, 3, none⟩ (.slice (some ⟨w1.heap.size, 0, none⟩) 4 4)) q2 = some (.cells #[.int .i64 2, .int .i64 1, .int .i64 (-50), .int .i64 50] 63 (0, 0)) from ((blk_set _ _ _ _ (by show q2 ≠ w.heap.size; omega)).trans ((blk_set _ _ _ _ (by show q2 ≠ w.heap.size; omega)).trans ((blk_set _ _ _ _ (by show q2 ≠ w.heap.size; omega)).trans ((blk_set _ _ _ _ (by show q2 ≠ w.heap.size; omega)).trans g23)))))
  have G3 := Lib.hid (show mblk ((((((w1.alloc (.cells #[.int .i64 0, .int .i64 0, .int .i64 (-1), .int .i64 100, .int .i64 104, .int .i64 1, .int .i64 0, .int .i64 1, .int .i64 40, .int .i64 44, .int .i64 3, .int .i64 1, .int .i64 (-1), .int .i64 60, .int .i64 61, .int .i64 3, .int .i64 2, .int .i64 1, .int .i64 5, .int .i64 5] 61)).alloc (.cells #[.int .i64 3, .slice (some ⟨q1, 0, none⟩) 3 3, .slice (some ⟨q2, 0, none⟩) 1 1, .slice (some ⟨w1.heap.size, 0, none⟩) 4 4] 26)).setCell ⟨w.heap.size, 0, none⟩ (.int .i64 3)).setCell ⟨w.heap.size, 1, none⟩ (.slice (some ⟨q1, 0, none⟩) 3 3)).setCell ⟨w.heap.size, 2, none⟩ (.slice (some ⟨q2, 0, none⟩) 1 1)).setCell ⟨w.heap.size, 3, none⟩ (.slice (some ⟨w1.heap.size, 0, none⟩) 4 4)) w1.heap.size = some (.cells #[.int .i64 0, .int .i64 0, .int .i64 (-1), .int .i64 100, .int .i64 104, .int .i64 1, .int .i64 0, .int .i64 1, .int .i64 40, .int .i64 44, .int .i64 3, .int .i64 1, .int .i64 (-1), .int .i64 60, .int .i64 61, .int .i64 3, .int .i64 2, .int .i64 1, .int .i64 5, .int .i64 5] 61 (0, 0)) from ((blk_set _ _ _ _ (by show w1.heap.size ≠ w.heap.size; omega)).trans ((blk_set _ _ _ _ (by show w1.heap.size ≠ w.heap.size; omega)).trans ((blk_set _ _ _ _ (by show w1.heap.size ≠ w.heap.size; omega)).trans ((blk_set _ _ _ _ (by show w1.heap.size ≠ w.heap.size; omega)).trans g3)))))
  clear g3 g13 g23 g12 g2 k2 V3 V2 n1 n2 n3
  go_wp2_with fail
  have cc := cellB KZ.out
  refine bodyPost_ret (v := ClV 3 (.slice (some ⟨q1, 0, none⟩) 3 3) (.slice (some ⟨q2, 0, none⟩) 1 1) (.slice (some ⟨w1.heap.size, 0, none⟩) 4 4)) (by simp [results, Try.results42, go_sem, cc]) rfl ⟨⟨q1, q2, w1.heap.size, rfl, ?_, ?_, ?_⟩, UZ⟩
  · refine ⟨⟨_, _, rfl, Nat.le_refl _, by decide, fun _ => ⟨_, 0, rfl, blk_lt G1.out, fun j hj i hi => ?_⟩⟩⟩
    rw [cellB G1.out]
    have a : j = 0 ∨ j = 1 ∨ j = 2 := by have : j < 3 := hj; omega
    have b : i = 0 ∨ i = 1 := by omega
    rcases a with rfl | rfl | rfl <;> rcases b with rfl | rfl <;> rfl
  · refine ⟨⟨_, _, rfl, Nat.le_refl _, by decide, fun _ => ⟨_, 0, rfl, blk_lt G2.out, fun j hj i hi => ?_⟩⟩⟩
    rw [cellB G2.out]
    have a : j = 0 := by have : j < 1 := hj; omega
    have b : i = 0 ∨ i = 1 ∨ i = 2 ∨ i = 3 := by omega
    subst a
    rcases b with rfl | rfl | rfl | rfl <;> rfl
  · refine ⟨⟨_, _, rfl, Nat.le_refl _, by decide, fun _ => ⟨_, 0, rfl, blk_lt G3.out, fun j hj i hi => ?_⟩⟩⟩
    rw [cellB G3.out]
    have a : j = 0 ∨ j = 1 ∨ j = 2 ∨ j = 3 := by have : j < 4 := hj; omega
    have b : i = 0 ∨ i = 1 ∨ i = 2 ∨ i = 3 ∨ i = 4 := by omega
    rcases a with rfl | rfl | rfl | rfl <;> rcases b with rfl | rfl | rfl | rfl | rfl <;> rfl

theorem infoPair : (Try.prog.info? 61).map (fun i => (i.zero, i.size, i.bytes)) = some (some (.agg #[.int .i64 0, .int .i64 0, .int .i64 0, .int .i64 0, .int .i64 0]), 5, 40) := by kernel_rfl
set_option maxRecDepth 100000 in
set_option maxHeartbeats 4000000 in
theorem l_cellar_torn {w : World} {gm : Nat} (hM : mblk w gm = some (.cells #[.int .i64 1, .int .i64 1, .int .i64 (-1), .int .i64 80, .int .i64 90] 61 (0, 0))) : Calls Try.prog 42 #[.slice (some ⟨gm, 0, none⟩) 1 1] w fun e w' => (∃ g1 g2 v, e = .returned (ClV 3 (.slice (some ⟨g1, 0, none⟩) 3 3) (.slice (some ⟨g2, 0, none⟩) 1 1) v) ∧ Sps w' (.slice (some ⟨g1, 0, none⟩) 3 3) T.rs0 ∧ Ops w' (.slice (some ⟨g2, 0, none⟩) 1 1) T.os0 ∧ Prs w' v T.ps1) ∧ Up w w' := by
  have HT0 := Lib.hid (fun w => B_To_any (-2) 3 w)
  have HT1 := Lib.hid (fun w => B_To_any 0 1 w)
  have HT2 := Lib.hid (fun w => B_To_any (-10) 10 w)
  have HT3 := Lib.hid (fun w => B_To_any (-50) 50 w)
  have HT4 := Lib.hid (fun w => B_To_any 100 104 w)
  have HT5 := Lib.hid (fun w => B_To_any 40 44 w)
  have HT6 := Lib.hid (fun w => B_To_any 60 61 w)
  have HT7 := Lib.hid (fun w => B_To_any 5 5 w)
  have l0 := blk_lt hM
  have HM := Lib.hid hM
  clear hM
  have U0 := (Up.refl w).alloc (.cells #[.int .i64 0, .slice none 0 0, .slice none 0 0, .slice none 0 0] 26)
  have k0 := blk_new w (.cells #[.int .i64 0, .slice none 0 0, .slice none 0 0, .slice none 0 0] 26) _ rfl
  go_enter Try.func42, Try.ntmps42
  go_wp2_with fail
  refine (HT0.out _).mono ?_
  rintro e w1 ⟨rfl, u1⟩
  replace k0 := u1.blk k0
  replace U0 := U0.trans u1
  clear u1 HT0
  go_wp2_with fail
  refine (HT1.out _).mono ?_
  rintro e w1 ⟨rfl, u1⟩
  replace k0 := u1.blk k0
  replace U0 := U0.trans u1
  clear u1 HT1
  go_wp2_with fail
  refine (HT2.out _).mono ?_
  rintro e w1 ⟨rfl, u1⟩
  replace k0 := u1.blk k0
  replace U0 := U0.trans u1
  clear u1 HT2
  go_wp2_with fail
  have g1 := blk_new w1 (.cells #[.int .i64 (-2), .int .i64 3, .int .i64 0, .int .i64 1, .int .i64 (-10), .int .i64 10] 34) _ rfl
  have k1 := blk_keep (.cells #[.int .i64 (-2), .int .i64 3, .int .i64 0, .int .i64 1, .int .i64 (-10), .int .i64 10] 34) k0
  have V1 := U0.alloc (.cells #[.int .i64 (-2), .int .i64 3, .int .i64 0, .int .i64 1, .int .i64 (-10), .int .i64 10] 34)
  obtain ⟨q1, hq1⟩ : ∃ x, w1.heap.size = x := ⟨_, rfl⟩
  obtain ⟨W1, hW1⟩ : ∃ x, w1.alloc (.cells #[.int .i64 (-2), .int .i64 3, .int .i64 0, .int .i64 1, .int .i64 (-10), .int .i64 10] 34) = x := ⟨_, rfl⟩
  rw [hq1, hW1]
  rw [hq1, hW1] at g1
  rw [hW1] at k1 V1
  have n1 : w.heap.size < q1 := by rw [← hq1]; exact blk_lt k0
  clear k0 U0 hq1 hW1
  refine (HT3.out _).mono ?_
  rintro e w1 ⟨rfl, u1⟩
  replace k1 := u1.blk k1
  replace g1 := u1.blk g1
  replace V1 := V1.trans u1
  clear u1 HT3
  go_wp2_with fail
  have g2 := blk_new w1 (.cells #[.int .i64 2, .int .i64 1, .int .i64 (-50), .int .i64 50] 63) _ rfl
  have k2 := blk_keep (.cells #[.int .i64 2, .int .i64 1, .int .i64 (-50), .int .i64 50] 63) k1
  have g12 := blk_keep (.cells #[.int .i64 2, .int .i64 1, .int .i64 (-50), .int .i64 50] 63) g1
  have V2 := V1.alloc (.cells #[.int .i64 2, .int .i64 1, .int .i64 (-50), .int .i64 50] 63)
  obtain ⟨q2, hq2⟩ : ∃ x, w1.heap.size = x := ⟨_, rfl⟩
  obtain ⟨W2, hW2⟩ : ∃ x, w1.alloc (.cells #[.int .i64 2, .int .i64 1, .int .i64 (-50), .int .i64 50] 63) = x := ⟨_, rfl⟩
  rw [hq2, hW2]
  rw [hq2, hW2] at g2
  rw [hW2] at k2 V2 g12
  have n2 : w.heap.size < q2 := by rw [← hq2]; exact blk_lt k1
  clear k1 g1 V1 hq2 hW2
  refine (HT4.out _).mono ?_
  rintro e w1 ⟨rfl, u1⟩
  replace k2 := u1.blk k2
  replace g12 := u1.blk g12
  replace g2 := u1.blk g2
  replace V2 := V2.trans u1
  clear u1 HT4
  go_wp2_with fail
  refine (HT5.out _).mono ?_
  rintro e w1 ⟨rfl, u1⟩
  replace k2 := u1.blk k2
  replace g12 := u1.blk g12
  replace g2 := u1.blk g2
  replace V2 := V2.trans u1
  clear u1 HT5
  go_wp2_with fail
  refine (HT6.out _).mono ?_
  rintro e w1 ⟨rfl, u1⟩
  replace k2 := u1.blk k2
  replace g12 := u1.blk g12
  replace g2 := u1.blk g2
  replace V2 := V2.trans u1
  clear u1 HT6
  go_wp2_with fail
  refine (HT7.out _).mono ?_
  rintro e w1 ⟨rfl, u1⟩
  replace k2 := u1.blk k2
  replace g12 := u1.blk g12
  replace g2 := u1.blk g2
  replace V2 := V2.trans u1
  clear u1 HT7
  have km := blk_keep (.cells #[.int .i64 3, .slice (some ⟨q1, 0, none⟩) 3 3, .slice (some ⟨q2, 0, none⟩) 1 1, .slice (some ⟨w1.heap.size, 0, none⟩) 4 4] 26) (blk_keep (.cells #[.int .i64 0, .int .i64 0, .int .i64 (-1), .int .i64 100, .int .i64 104, .int .i64 1, .int .i64 0, .int .i64 1, .int .i64 40, .int .i64 44, .int .i64 3, .int .i64 1, .int .i64 (-1), .int .i64 60, .int .i64 61, .int .i64 3, .int .i64 2, .int .i64 1, .int .i64 5, .int .i64 5] 61) (V2.blk HM.out))
  have hnews : ∀ j u, ([.int .i64 1, .int .i64 1, .int .i64 (-1), .int .i64 80, .int .i64 90] : List Value)[j]? = some u → ((w1.alloc (.cells #[.int .i64 0, .int .i64 0, .int .i64 (-1), .int .i64 100, .int .i64 104, .int .i64 1, .int .i64 0, .int .i64 1, .int .i64 40, .int .i64 44, .int .i64 3, .int .i64 1, .int .i64 (-1), .int .i64 60, .int .i64 61, .int .i64 3, .int .i64 2, .int .i64 1, .int .i64 5, .int .i64 5] 61)).alloc (.cells #[.int .i64 3, .slice (some ⟨q1, 0, none⟩) 3 3, .slice (some ⟨q2, 0, none⟩) 1 1, .slice (some ⟨w1.heap.size, 0, none⟩) 4 4] 26)).cell? ((⟨gm, 0, none⟩ : Addr).add j) = some u := fun j u h => by
    rw [D.add_at, Nat.zero_add, cellB km, ← Array.getElem?_toList]; exact h
  have own := (World.ownsRow_lit (base := w1.heap.size) (e := 61) (size := 5) w1 #[.int .i64 0, .int .i64 0, .int .i64 (-1), .int .i64 100, .int .i64 104, .int .i64 1, .int .i64 0, .int .i64 1, .int .i64 40, .int .i64 44, .int .i64 3, .int .i64 1, .int .i64 (-1), .int .i64 60, .int .i64 61, .int .i64 3, .int .i64 2, .int .i64 1, .int .i64 5, .int .i64 5] 4 (Nat.le_refl _) (by unfold maxLen; omega) rfl).alloc (.cells #[.int .i64 3, .slice (some ⟨q1, 0, none⟩) 3 3, .slice (some ⟨q2, 0, none⟩) 1 1, .slice (some ⟨w1.heap.size, 0, none⟩) 4 4] 26)
  obtain ⟨i0, hi, hz0, hz1, hz2⟩ := info_parts infoPair
  have hU := Try.underlying24
  have g13 := blk_keep (.cells #[.int .i64 3, .slice (some ⟨q1, 0, none⟩) 3 3, .slice (some ⟨q2, 0, none⟩) 1 1, .slice (some ⟨w1.heap.size, 0, none⟩) 4 4] 26) (blk_keep (.cells #[.int .i64 0, .int .i64 0, .int .i64 (-1), .int .i64 100, .int .i64 104, .int .i64 1, .int .i64 0, .int .i64 1, .int .i64 40, .int .i64 44, .int .i64 3, .int .i64 1, .int .i64 (-1), .int .i64 60, .int .i64 61, .int .i64 3, .int .i64 2, .int .i64 1, .int .i64 5, .int .i64 5] 61) g12)
  have g23 := blk_keep (.cells #[.int .i64 3, .slice (some ⟨q1, 0, none⟩) 3 3, .slice (some ⟨q2, 0, none⟩) 1 1, .slice (some ⟨w1.heap.size, 0, none⟩) 4 4] 26) (blk_keep (.cells #[.int .i64 0, .int .i64 0, .int .i64 (-1), .int .i64 100, .int .i64 104, .int .i64 1, .int .i64 0, .int .i64 1, .int .i64 40, .int .i64 44, .int .i64 3, .int .i64 1, .int .i64 (-1), .int .i64 60, .int .i64 61, .int .i64 3, .int .i64 2, .int .i64 1, .int .i64 5, .int .i64 5] 61) g2)
  have k3 := blk_keep (.cells #[.int .i64 3, .slice (some ⟨q1, 0, none⟩) 3 3, .slice (some ⟨q2, 0, none⟩) 1 1, .slice (some ⟨w1.heap.size, 0, none⟩) 4 4] 26) (blk_keep (.cells #[.int .i64 0, .int .i64 0, .int .i64 (-1), .int .i64 100, .int .i64 104, .int .i64 1, .int .i64 0, .int .i64 1, .int .i64 40, .int .i64 44, .int .i64 3, .int .i64 1, .int .i64 (-1), .int .i64 60, .int .i64 61, .int .i64 3, .int .i64 2, .int .i64 1, .int .i64 5, .int .i64 5] 61) k2)
  have k4 := blk_new (w1.alloc (.cells #[.int .i64 0, .int .i64 0, .int .i64 (-1), .int .i64 100, .int .i64 104, .int .i64 1, .int .i64 0, .int .i64 1, .int .i64 40, .int .i64 44, .int .i64 3, .int .i64 1, .int .i64 (-1), .int .i64 60, .int .i64 61, .int .i64 3, .int .i64 2, .int .i64 1, .int .i64 5, .int .i64 5] 61)) (.cells #[.int .i64 3, .slice (some ⟨q1, 0, none⟩) 3 3, .slice (some ⟨q2, 0, none⟩) 1 1, .slice (some ⟨w1.heap.size, 0, none⟩) 4 4] 26) (w1.heap.size + 1) (by rw [sz1])
  have V3 := (V2.alloc (.cells #[.int .i64 0, .int .i64 0, .int .i64 (-1), .int .i64 100, .int .i64 104, .int .i64 1, .int .i64 0, .int .i64 1, .int .i64 40, .int .i64 44, .int .i64 3, .int .i64 1, .int .i64 (-1), .int .i64 60, .int .i64 61, .int .i64 3, .int .i64 2, .int .i64 1, .int .i64 5, .int .i64 5] 61)).alloc (.cells #[.int .i64 3, .slice (some ⟨q1, 0, none⟩) 3 3, .slice (some ⟨q2, 0, none⟩) 1 1, .slice (some ⟨w1.heap.size, 0, none⟩) 4 4] 26)
  have n3 : w.heap.size < w1.heap.size := blk_lt k2
  have m1 : q1 < w1.heap.size := blk_lt g12
  have m2 : q2 < w1.heap.size := blk_lt g2
  have HG1 := Lib.hid g13
  have HG2 := Lib.hid g23
  have HK3 := Lib.hid k3
  have HK4 := Lib.hid k4
  have HV3 := Lib.hid V3
  clear g13 g23 k3 k4 V3 km HM g12 g2 k2 V2
  go_wp2_with (at_builtin; refine wpList_append_own _ rfl (.tmp 22) (.tmp 23) 24 rfl w1.heap.size 61 i0 (.agg #[.int .i64 0, .int .i64 0, .int .i64 0, .int .i64 0, .int .i64 0]) 5 40 hU hi hz0 hz1 hz2 rfl (by decide) _ 4 _ rfl own ⟨gm, 0, none⟩ 1 1 [.int .i64 1, .int .i64 1, .int .i64 (-1), .int .i64 80, .int .i64 90] rfl rfl hnews (by simp [Value.oneCell']) (by unfold maxLen; omega) (by omega) (by rw [sz1, sz1]; omega) ?_; intro v' w6 hown6 hgrow6 hv6; obtain ⟨g6, cap6, rfl, hg6⟩ := row_slice hown6; have k4 := grown_blk hgrow6 HK4.out (show some (w1.heap.size + 1) ≠ some w1.heap.size by simp); have k6 := grown_blk hgrow6 HK3.out (show some w.heap.size ≠ some w1.heap.size by simp; omega); have z4 := frozB k4; have k5 := blk_put k4 3 (.slice (some ⟨g6, 0, none⟩) (4 + 1) cap6); have k7 := (blk_set w6 ⟨w1.heap.size + 1, 3, none⟩ (.slice (some ⟨g6, 0, none⟩) (4 + 1) cap6) w.heap.size (by show w.heap.size ≠ w1.heap.size + 1; omega)).trans k6; have z7 := frozB k7; have l4 := blk_lt k4)
  have n7 : some (w1.heap.size + 1) ≠ some g6 := row_ne hown6 k4 (fun cs e => by cases e)
  have e7 : g6 ≠ w1.heap.size + 1 := fun e => n7 (by rw [e])
  have V7 := (HV3.out.grown hgrow6 (fun k e => by have := row_base own k e; omega)).set (p := ⟨w1.heap.size + 1, 3, none⟩) (by show w.heap.size ≤ w1.heap.size + 1; omega) (.slice (some ⟨g6, 0, none⟩) (4 + 1) cap6)
  have cc := cellB (show mblk (((((w6.setCell ⟨w1.heap.size + 1, 3, none⟩ (.slice (some ⟨g6, 0, none⟩) (4 + 1) cap6)).setCell ⟨w.heap.size, 0, none⟩ (.int .i64 3)).setCell ⟨w.heap.size, 1, none⟩ (.slice (some ⟨q1, 0, none⟩) 3 3)).setCell ⟨w.heap.size, 2, none⟩ (.slice (some ⟨q2, 0, none⟩) 1 1)).setCell ⟨w.heap.size, 3, none⟩ (.slice (some ⟨g6, 0, none⟩) (4 + 1) cap6)) w.heap.size = some (.cells #[.int .i64 3, .slice (some ⟨q1, 0, none⟩) 3 3, .slice (some ⟨q2, 0, none⟩) 1 1, .slice (some ⟨g6, 0, none⟩) (4 + 1) cap6] 26 (0, 0)) from (blk_put (blk_put (blk_put (blk_put k7 0 (.int .i64 3)) 1 (.slice (some ⟨q1, 0, none⟩) 3 3)) 2 (.slice (some ⟨q2, 0, none⟩) 1 1)) 3 (.slice (some ⟨g6, 0, none⟩) (4 + 1) cap6)))
  have UZ := ((((V7.set (p := ⟨w.heap.size, 0, none⟩) (Nat.le_refl _) (.int .i64 3)).set (p := ⟨w.heap.size, 1, none⟩) (Nat.le_refl _) (.slice (some ⟨q1, 0, none⟩) 3 3)).set (p := ⟨w.heap.size, 2, none⟩) (Nat.le_refl _) (.slice (some ⟨q2, 0, none⟩) 1 1)).set (p := ⟨w.heap.size, 3, none⟩) (Nat.le_refl _) (.slice (some ⟨g6, 0, none⟩) (4 + 1) cap6))
  have G1 := show mblk (((((w6.setCell ⟨w1.heap.size + 1, 3, none⟩ (.slice (some ⟨g6, 0, none⟩) (4 + 1) cap6)).setCell ⟨w.heap.size, 0, none⟩ (.int .i64 3)).setCell ⟨w.heap.size, 1, none⟩ (.slice (some ⟨q1, 0, none⟩) 3 3)).setCell ⟨w.heap.size, 2, none⟩ (.slice (some ⟨q2, 0, none⟩) 1 1)).setCell ⟨w.heap.size, 3, none⟩ (.slice (some ⟨g6, 0, none⟩) (4 + 1) cap6)) q1 = some (.cells #[.int .i64 (-2), .int .i64 3, .int .i64 0, .int .i64 1, .int .i64 (-10), .int .i64 10] 34 (0, 0)) from ((blk_set _ _ _ _ (by show q1 ≠ w.heap.size; omega)).trans ((blk_set _ _ _ _ (by show q1 ≠ w.heap.size; omega)).trans ((blk_set _ _ _ _ (by show q1 ≠ w.heap.size; omega)).trans ((blk_set _ _ _ _ (by show q1 ≠ w.heap.size; omega)).trans ((blk_set _ _ _ _ (by show q1 ≠ w1.heap.size + 1; omega)).trans (grown_blk hgrow6 HG1.out (show some q1 ≠ some w1.heap.size by simp; omega)))))))
  have G2 := show mblk (((((w6.setCell ⟨w1.heap.size + 1, 3, none⟩ (.slice (some ⟨g6, 0, none⟩) (4 + 1) cap6)).setCell ⟨w.heap.size, 0, none⟩ (.int .i64 3)).setCell ⟨w.heap.size, 1, none⟩ (.slice (some ⟨q1, 0, none⟩) 3 3)).setCell ⟨w.heap.size, 2, none⟩ (.slice (some ⟨q2, 0, none⟩) 1 1)).setCell ⟨w.heap.size, 3, none⟩ (.slice (some ⟨g6, 0, none⟩) (4 + 1) cap6)) q2 = some (.cells #[.int .i64 2, .int .i64 1, .int .i64 (-50), .int .i64 50] 63 (0, 0)) from ((blk_set _ _ _ _ (by show q2 ≠ w.heap.size; omega)).trans ((blk_set _ _ _ _ (by show q2 ≠ w.heap.size; omega)).trans ((blk_set _ _ _ _ (by show q2 ≠ w.heap.size; omega)).trans ((blk_set _ _ _ _ (by show q2 ≠ w.heap.size; omega)).trans ((blk_set _ _ _ _ (by show q2 ≠ w1.heap.size + 1; omega)).trans (grown_blk hgrow6 HG2.out (show some q2 ≠ some w1.heap.size by simp; omega)))))))
  have O0 := ownsRow_setCell_other hown6 (a := ⟨w1.heap.size + 1, 3, none⟩) (by show some g6 ≠ some (w1.heap.size + 1); exact fun e => n7 e.symm) (.slice (some ⟨g6, 0, none⟩) (4 + 1) cap6)
  have O1 := ownsRow_setCell_other O0 (a := ⟨w.heap.size, 0, none⟩) (by show some g6 ≠ some w.heap.size; intro e; have := Option.some.inj e; omega) (.int .i64 3)
  have O2 := ownsRow_setCell_other O1 (a := ⟨w.heap.size, 1, none⟩) (by show some g6 ≠ some w.heap.size; intro e; have := Option.some.inj e; omega) (.slice (some ⟨q1, 0, none⟩) 3 3)
  have O3 := ownsRow_setCell_other O2 (a := ⟨w.heap.size, 2, none⟩) (by show some g6 ≠ some w.heap.size; intro e; have := Option.some.inj e; omega) (.slice (some ⟨q2, 0, none⟩) 1 1)
  have O4 := ownsRow_setCell_other O3 (a := ⟨w.heap.size, 3, none⟩) (by show some g6 ≠ some w.heap.size; intro e; have := Option.some.inj e; omega) (.slice (some ⟨g6, 0, none⟩) (4 + 1) cap6)
  refine bodyPost_ret (v := ClV 3 (.slice (some ⟨q1, 0, none⟩) 3 3) (.slice (some ⟨q2, 0, none⟩) 1 1) (.slice (some ⟨g6, 0, none⟩) (4 + 1) cap6)) (by simp [results, Try.results42, go_sem, cc]) rfl ⟨⟨q1, q2, _, rfl, ?_, ?_, ?_⟩, UZ⟩
  · refine ⟨⟨_, _, rfl, Nat.le_refl _, by decide, fun _ => ⟨_, 0, rfl, blk_lt G1, fun j hj i hi => ?_⟩⟩⟩
    rw [cellB G1]
    have a : j = 0 ∨ j = 1 ∨ j = 2 := by have : j < 3 := hj; omega
    have b : i = 0 ∨ i = 1 := by omega
    rcases a with rfl | rfl | rfl <;> rcases b with rfl | rfl <;> rfl
  · refine ⟨⟨_, _, rfl, Nat.le_refl _, by decide, fun _ => ⟨_, 0, rfl, blk_lt G2, fun j hj i hi => ?_⟩⟩⟩
    rw [cellB G2]
    have a : j = 0 := by have : j < 1 := hj; omega
    have b : i = 0 ∨ i = 1 ∨ i = 2 ∨ i = 3 := by omega
    subst a
    rcases b with rfl | rfl | rfl | rfl <;> rfl
  · exact Tab.of_row (n := 5) (base := w1.heap.size) (e := 61) (k := 5) (enc := T.encP) (xs := T.ps1) O4 (by omega) (by omega)

end Go.Proofs.Ytcmdaiklkdeanaa
