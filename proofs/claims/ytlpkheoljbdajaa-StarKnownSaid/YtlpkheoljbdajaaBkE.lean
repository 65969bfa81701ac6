import Derived.Test.YtlpkheoljbdajaaLwa
import Derived.Test.YtlpkheoljbdajaaWks
import Derived.Test.YtlpkheoljbdajaaIst
import Derived.Test.YtlpkheoljbdajaaIde
/- The contract of the laws' book. -/
namespace Go.Proofs.Ytlpkheoljbdajaa
open Go.RowKit Go.Shelf
attribute [local go_sem] Oper.semAt_some

theorem T.elL : T.El 63 25 5 := T.el_of (z := .agg #[.int .i64 0, .int .i64 0, .int .i64 0, .int .i64 0, .int .i64 0]) (b := 40) Try.underlying25 (by kernel_rfl) rfl (by decide) (by decide)
theorem row_slice' {W : World} {base size n : Nat} {e : TypeId} {v : Value} {xs : List Value} (ho : W.ownsRow base e size v n xs) (h : 0 < n) : ∃ g cap, v = .slice (some ⟨g, 0, none⟩) n cap ∧ base ≤ g := by
  obtain ⟨m, rfl⟩ : ∃ m, n = m + 1 := ⟨n - 1, by omega⟩
  exact row_slice ho
theorem T.elS : T.El 23 24 2 := T.el_of (z := .agg #[.int .i64 0, .int .i64 0]) (b := 16) Try.underlying24 (by kernel_rfl) rfl (by decide) (by decide)
set_option maxRecDepth 100000 in
set_option maxHeartbeats 4000000 in
theorem l_book_any {w : World} {r : Int} {vm : Value} {ms : List T.T5} (IM : Lks w vm ms) (hms : ms.length ≤ 10) : Calls Try.prog 52 #[.int .i64 r, vm] w fun e w' => (∃ g1 g2 aL cL, e = .returned (BoV 3 0 100 (-10) 20 (.slice (some ⟨g1, 0, none⟩) 2 2) (.slice (some ⟨g2, 0, none⟩) 1 1) (.slice aL (4 + ms.length) cL)) ∧ Sps w' (.slice (some ⟨g1, 0, none⟩) 2 2) T.ps0 ∧ Sps w' (.slice (some ⟨g2, 0, none⟩) 1 1) T.qs0 ∧ Lks w' (.slice aL (4 + ms.length) cL) (T.lsR r ++ ms)) ∧ Up w w' := by
  have HT0 := Lib.hid (fun w => B_To_any 0 100 w)
  have HT1 := Lib.hid (fun w => B_To_any (-10) 20 w)
  have HT2 := Lib.hid (fun w => B_To_any (-50) 50 w)
  have HT3 := Lib.hid (fun w => B_To_any (-20) 20 w)
  have HT4 := Lib.hid (fun w => B_To_any 30 60 w)
  have HT5 := Lib.hid (fun w => l_look_any 0 0 0 40 5 w)
  have HT6 := Lib.hid (fun w => l_look_any 0 0 1 60 10 w)
  have HT7 := Lib.hid (fun w => l_look_any 1 1 0 20 5 w)
  have HT8 := Lib.hid (fun w => l_look_any 2 0 0 r 5 w)
  have HM := Lib.hid IM
  clear IM
  have U0 := (Up.refl w).alloc (.cells #[.int .i64 0, .int .i64 0, .int .i64 0, .int .i64 0, .int .i64 0, .slice none 0 0, .slice none 0 0, .slice none 0 0] 27)
  have k0 := blk_new w (.cells #[.int .i64 0, .int .i64 0, .int .i64 0, .int .i64 0, .int .i64 0, .slice none 0 0, .slice none 0 0, .slice none 0 0] 27) _ rfl
  go_enter Try.func52, Try.ntmps52
  go_wp2_with fail
  refine (HT0.out _).mono ?_
  rintro e w1 ⟨rfl, u1⟩
  replace k0 := u1.blk k0
  replace U0 := U0.trans u1
  clear u1 HT0
  go_wp2_with fail
  refine (HT1.out _).mono ?_
  rintro e w1 ⟨rfl, u1⟩
  replace k0 := u1.blk k0
  replace U0 := U0.trans u1
  clear u1 HT1
  go_wp2_with fail
  refine (HT2.out _).mono ?_
  rintro e w1 ⟨rfl, u1⟩
  replace k0 := u1.blk k0
  replace U0 := U0.trans u1
  clear u1 HT2
  go_wp2_with fail
  refine (HT3.out _).mono ?_
  rintro e w1 ⟨rfl, u1⟩
  replace k0 := u1.blk k0
  replace U0 := U0.trans u1
  clear u1 HT3
  go_wp2_with fail
  have ln := blk_lt k0
  have g1 := blk_new w1 (.cells #[.int .i64 (-50), .int .i64 50, .int .i64 (-20), .int .i64 20] 23) _ rfl
  replace k0 := blk_keep (.cells #[.int .i64 (-50), .int .i64 50, .int .i64 (-20), .int .i64 20] 23) k0
  replace U0 := U0.alloc (.cells #[.int .i64 (-50), .int .i64 50, .int .i64 (-20), .int .i64 20] 23)
  obtain ⟨q1, hq1⟩ : ∃ x, w1.heap.size = x := ⟨_, rfl⟩
  obtain ⟨W1, hW1⟩ : ∃ x, w1.alloc (.cells #[.int .i64 (-50), .int .i64 50, .int .i64 (-20), .int .i64 20] 23) = x := ⟨_, rfl⟩
  rw [hq1, hW1]
  rw [hq1, hW1] at g1
  rw [hW1] at k0 U0
  have n1 : w.heap.size < q1 := by rw [← hq1]; exact ln
  clear hq1 hW1
  clear ln
  refine (HT4.out _).mono ?_
  rintro e w1 ⟨rfl, u1⟩
  replace k0 := u1.blk k0
  replace g1 := u1.blk g1
  replace U0 := U0.trans u1
  clear u1 HT4
  go_wp2_with fail
  have ln := blk_lt k0
  have g2 := blk_new w1 (.cells #[.int .i64 30, .int .i64 60] 23) _ rfl
  replace k0 := blk_keep (.cells #[.int .i64 30, .int .i64 60] 23) k0
  replace g1 := blk_keep (.cells #[.int .i64 30, .int .i64 60] 23) g1
  replace U0 := U0.alloc (.cells #[.int .i64 30, .int .i64 60] 23)
  obtain ⟨q2, hq2⟩ : ∃ x, w1.heap.size = x := ⟨_, rfl⟩
  obtain ⟨W2, hW2⟩ : ∃ x, w1.alloc (.cells #[.int .i64 30, .int .i64 60] 23) = x := ⟨_, rfl⟩
  rw [hq2, hW2]
  rw [hq2, hW2] at g2
  rw [hW2] at k0 g1 U0
  have n2 : w.heap.size < q2 := by rw [← hq2]; exact ln
  clear hq2 hW2
  clear ln
  refine (HT5.out _).mono ?_
  rintro e w1 ⟨rfl, u1⟩
  replace k0 := u1.blk k0
  replace g1 := u1.blk g1
  replace g2 := u1.blk g2
  replace U0 := U0.trans u1
  clear u1 HT5
  go_wp2_with fail
  refine (HT6.out _).mono ?_
  rintro e w1 ⟨rfl, u1⟩
  replace k0 := u1.blk k0
  replace g1 := u1.blk g1
  replace g2 := u1.blk g2
  replace U0 := U0.trans u1
  clear u1 HT6
  go_wp2_with fail
  refine (HT7.out _).mono ?_
  rintro e w1 ⟨rfl, u1⟩
  replace k0 := u1.blk k0
  replace g1 := u1.blk g1
  replace g2 := u1.blk g2
  replace U0 := U0.trans u1
  clear u1 HT7
  go_wp2_with fail
  refine (HT8.out _).mono ?_
  rintro e w1 ⟨rfl, u1⟩
  replace k0 := u1.blk k0
  replace g1 := u1.blk g1
  replace g2 := u1.blk g2
  replace U0 := U0.trans u1
  clear u1 HT8
  have m1 : q1 < w1.heap.size := blk_lt g1
  have m2 : q2 < w1.heap.size := blk_lt g2
  have k4 := blk_new (w1.alloc (.cells #[.int .i64 0, .int .i64 0, .int .i64 0, .int .i64 40, .int .i64 5, .int .i64 0, .int .i64 0, .int .i64 1, .int .i64 60, .int .i64 10, .int .i64 1, .int .i64 1, .int .i64 0, .int .i64 20, .int .i64 5, .int .i64 2, .int .i64 0, .int .i64 0, .int .i64 r, .int .i64 5] 63)) (.cells #[.int .i64 3, .int .i64 0, .int .i64 100, .int .i64 (-10), .int .i64 20, .slice (some ⟨q1, 0, none⟩) 2 2, .slice (some ⟨q2, 0, none⟩) 1 1, .slice (some ⟨w1.heap.size, 0, none⟩) 4 4] 27) (w1.heap.size + 1) (by rw [sz1])
  have g1 := blk_keep (.cells #[.int .i64 3, .int .i64 0, .int .i64 100, .int .i64 (-10), .int .i64 20, .slice (some ⟨q1, 0, none⟩) 2 2, .slice (some ⟨q2, 0, none⟩) 1 1, .slice (some ⟨w1.heap.size, 0, none⟩) 4 4] 27) (blk_keep (.cells #[.int .i64 0, .int .i64 0, .int .i64 0, .int .i64 40, .int .i64 5, .int .i64 0, .int .i64 0, .int .i64 1, .int .i64 60, .int .i64 10, .int .i64 1, .int .i64 1, .int .i64 0, .int .i64 20, .int .i64 5, .int .i64 2, .int .i64 0, .int .i64 0, .int .i64 r, .int .i64 5] 63) g1)
  have g2 := blk_keep (.cells #[.int .i64 3, .int .i64 0, .int .i64 100, .int .i64 (-10), .int .i64 20, .slice (some ⟨q1, 0, none⟩) 2 2, .slice (some ⟨q2, 0, none⟩) 1 1, .slice (some ⟨w1.heap.size, 0, none⟩) 4 4] 27) (blk_keep (.cells #[.int .i64 0, .int .i64 0, .int .i64 0, .int .i64 40, .int .i64 5, .int .i64 0, .int .i64 0, .int .i64 1, .int .i64 60, .int .i64 10, .int .i64 1, .int .i64 1, .int .i64 0, .int .i64 20, .int .i64 5, .int .i64 2, .int .i64 0, .int .i64 0, .int .i64 r, .int .i64 5] 63) g2)
  have k3 := blk_keep (.cells #[.int .i64 3, .int .i64 0, .int .i64 100, .int .i64 (-10), .int .i64 20, .slice (some ⟨q1, 0, none⟩) 2 2, .slice (some ⟨q2, 0, none⟩) 1 1, .slice (some ⟨w1.heap.size, 0, none⟩) 4 4] 27) (blk_keep (.cells #[.int .i64 0, .int .i64 0, .int .i64 0, .int .i64 40, .int .i64 5, .int .i64 0, .int .i64 0, .int .i64 1, .int .i64 60, .int .i64 10, .int .i64 1, .int .i64 1, .int .i64 0, .int .i64 20, .int .i64 5, .int .i64 2, .int .i64 0, .int .i64 0, .int .i64 r, .int .i64 5] 63) k0)
  have own := (World.ownsRow_lit (base := w1.heap.size) (e := 63) (size := 5) w1 #[.int .i64 0, .int .i64 0, .int .i64 0, .int .i64 40, .int .i64 5, .int .i64 0, .int .i64 0, .int .i64 1, .int .i64 60, .int .i64 10, .int .i64 1, .int .i64 1, .int .i64 0, .int .i64 20, .int .i64 5, .int .i64 2, .int .i64 0, .int .i64 0, .int .i64 r, .int .i64 5] 4 (Nat.le_refl _) (by unfold maxLen; omega) rfl).alloc (.cells #[.int .i64 3, .int .i64 0, .int .i64 100, .int .i64 (-10), .int .i64 20, .slice (some ⟨q1, 0, none⟩) 2 2, .slice (some ⟨q2, 0, none⟩) 1 1, .slice (some ⟨w1.heap.size, 0, none⟩) 4 4] 27)
  have n3 : w.heap.size < w1.heap.size := blk_lt k0
  have l0 := blk_lt k0
  have IM := HM.out.up ((U0.alloc (.cells #[.int .i64 0, .int .i64 0, .int .i64 0, .int .i64 40, .int .i64 5, .int .i64 0, .int .i64 0, .int .i64 1, .int .i64 60, .int .i64 10, .int .i64 1, .int .i64 1, .int .i64 0, .int .i64 20, .int .i64 5, .int .i64 2, .int .i64 0, .int .i64 0, .int .i64 r, .int .i64 5] 63)).alloc (.cells #[.int .i64 3, .int .i64 0, .int .i64 100, .int .i64 (-10), .int .i64 20, .slice (some ⟨q1, 0, none⟩) 2 2, .slice (some ⟨q2, 0, none⟩) 1 1, .slice (some ⟨w1.heap.size, 0, none⟩) 4 4] 27))
  have HG1 := Lib.hid g1
  have HG2 := Lib.hid g2
  have HK3 := Lib.hid k3
  have HK4 := Lib.hid k4
  have HV3 := Lib.hid ((U0.alloc (.cells #[.int .i64 0, .int .i64 0, .int .i64 0, .int .i64 40, .int .i64 5, .int .i64 0, .int .i64 0, .int .i64 1, .int .i64 60, .int .i64 10, .int .i64 1, .int .i64 1, .int .i64 0, .int .i64 20, .int .i64 5, .int .i64 2, .int .i64 0, .int .i64 0, .int .i64 r, .int .i64 5] 63)).alloc (.cells #[.int .i64 3, .int .i64 0, .int .i64 100, .int .i64 (-10), .int .i64 20, .slice (some ⟨q1, 0, none⟩) 2 2, .slice (some ⟨q2, 0, none⟩) 1 1, .slice (some ⟨w1.heap.size, 0, none⟩) 4 4] 27))
  have hms' := Lib.hid hms
  clear g1 g2 k3 k4 k0 U0 HM hms
  obtain ⟨m4, hm4⟩ : ∃ x, 4 + ms.length = x := ⟨_, rfl⟩
  have h4 : 0 < m4 := by omega
  have HM4 := Lib.hid hm4
  clear hm4
  go_wp2_with (at_builtin; refine T.wpList_app (ys := T.lsR r) (base := w1.heap.size) T.elL rfl (.tmp 21) (.tmp 22) rfl IM rfl _ 4 rfl own (by omega) (by have := hms'.out; omega) (by rw [sz1, sz1]; omega) ?_; intro V6 w6 hown6 hgrow6; rw [HM4.out] at hown6; obtain ⟨g6, cap6, rfl, hg6⟩ := row_slice' hown6 h4; have k4 := grown_blk hgrow6 HK4.out (show some (w1.heap.size + 1) ≠ some w1.heap.size by simp); have k6 := grown_blk hgrow6 HK3.out (show some w.heap.size ≠ some w1.heap.size by simp; omega); have z4 := frozB k4; have k5 := blk_put k4 7 (.slice (some ⟨g6, 0, none⟩) m4 cap6); have k7 := (blk_set w6 ⟨w1.heap.size + 1, 7, none⟩ (.slice (some ⟨g6, 0, none⟩) m4 cap6) w.heap.size (by show w.heap.size ≠ w1.heap.size + 1; omega)).trans k6; have z7 := frozB k7; have l4 := blk_lt k4)
  have n7 : some (w1.heap.size + 1) ≠ some g6 := row_ne hown6 k4 (fun cs e => by cases e)
  have e7 : g6 ≠ w1.heap.size + 1 := fun e => n7 (by rw [e])
  have V7 := (HV3.out.grown hgrow6 (fun k e => by have := row_base own k e; omega)).set (p := ⟨w1.heap.size + 1, 7, none⟩) (by show w.heap.size ≤ w1.heap.size + 1; omega) (.slice (some ⟨g6, 0, none⟩) m4 cap6)
  have cc := cellB (show mblk (((((((((w6.setCell ⟨w1.heap.size + 1, 7, none⟩ (.slice (some ⟨g6, 0, none⟩) m4 cap6)).setCell ⟨w.heap.size, 0, none⟩ (.int .i64 3)).setCell ⟨w.heap.size, 1, none⟩ (.int .i64 0)).setCell ⟨w.heap.size, 2, none⟩ (.int .i64 100)).setCell ⟨w.heap.size, 3, none⟩ (.int .i64 (-10))).setCell ⟨w.heap.size, 4, none⟩ (.int .i64 20)).setCell ⟨w.heap.size, 5, none⟩ (.slice (some ⟨q1, 0, none⟩) 2 2)).setCell ⟨w.heap.size, 6, none⟩ (.slice (some ⟨q2, 0, none⟩) 1 1)).setCell ⟨w.heap.size, 7, none⟩ (.slice (some ⟨g6, 0, none⟩) m4 cap6)) w.heap.size = some (.cells #[.int .i64 3, .int .i64 0, .int .i64 100, .int .i64 (-10), .int .i64 20, .slice (some ⟨q1, 0, none⟩) 2 2, .slice (some ⟨q2, 0, none⟩) 1 1, .slice (some ⟨g6, 0, none⟩) m4 cap6] 27 (0, 0)) from (blk_put (blk_put (blk_put (blk_put (blk_put (blk_put (blk_put (blk_put k7 0 (.int .i64 3)) 1 (.int .i64 0)) 2 (.int .i64 100)) 3 (.int .i64 (-10))) 4 (.int .i64 20)) 5 (.slice (some ⟨q1, 0, none⟩) 2 2)) 6 (.slice (some ⟨q2, 0, none⟩) 1 1)) 7 (.slice (some ⟨g6, 0, none⟩) m4 cap6)))
  have UZ := ((((((((V7.set (p := ⟨w.heap.size, 0, none⟩) (Nat.le_refl _) (.int .i64 3)).set (p := ⟨w.heap.size, 1, none⟩) (Nat.le_refl _) (.int .i64 0)).set (p := ⟨w.heap.size, 2, none⟩) (Nat.le_refl _) (.int .i64 100)).set (p := ⟨w.heap.size, 3, none⟩) (Nat.le_refl _) (.int .i64 (-10))).set (p := ⟨w.heap.size, 4, none⟩) (Nat.le_refl _) (.int .i64 20)).set (p := ⟨w.heap.size, 5, none⟩) (Nat.le_refl _) (.slice (some ⟨q1, 0, none⟩) 2 2)).set (p := ⟨w.heap.size, 6, none⟩) (Nat.le_refl _) (.slice (some ⟨q2, 0, none⟩) 1 1)).set (p := ⟨w.heap.size, 7, none⟩) (Nat.le_refl _) (.slice (some ⟨g6, 0, none⟩) m4 cap6))
  have G1 := show mblk (((((((((w6.setCell ⟨w1.heap.size + 1, 7, none⟩ (.slice (some ⟨g6, 0, none⟩) m4 cap6)).setCell ⟨w.heap.size, 0, none⟩ (.int .i64 3)).setCell ⟨w.heap.size, 1, none⟩ (.int .i64 0)).setCell ⟨w.heap.size, 2, none⟩ (.int .i64 100)).setCell ⟨w.heap.size, 3, none⟩ (.int .i64 (-10))).setCell ⟨w.heap.size, 4, none⟩ (.int .i64 20)).setCell ⟨w.heap.size, 5, none⟩ (.slice (some ⟨q1, 0, none⟩) 2 2)).setCell ⟨w.heap.size, 6, none⟩ (.slice (some ⟨q2, 0, none⟩) 1 1)).setCell ⟨w.heap.size, 7, none⟩ (.slice (some ⟨g6, 0, none⟩) m4 cap6)) q1 = some (.cells #[.int .i64 (-50), .int .i64 50, .int .i64 (-20), .int .i64 20] 23 (0, 0)) from ((blk_set _ _ _ _ (by show q1 ≠ w.heap.size; omega)).trans ((blk_set _ _ _ _ (by show q1 ≠ w.heap.size; omega)).trans ((blk_set _ _ _ _ (by show q1 ≠ w.heap.size; omega)).trans ((blk_set _ _ _ _ (by show q1 ≠ w.heap.size; omega)).trans ((blk_set _ _ _ _ (by show q1 ≠ w.heap.size; omega)).trans ((blk_set _ _ _ _ (by show q1 ≠ w.heap.size; omega)).trans ((blk_set _ _ _ _ (by show q1 ≠ w.heap.size; omega)).trans ((blk_set _ _ _ _ (by show q1 ≠ w.heap.size; omega)).trans ((blk_set _ _ _ _ (by show q1 ≠ w1.heap.size + 1; omega)).trans (grown_blk hgrow6 HG1.out (show some q1 ≠ some w1.heap.size by simp; omega)))))))))))
  have G2 := show mblk (((((((((w6.setCell ⟨w1.heap.size + 1, 7, none⟩ (.slice (some ⟨g6, 0, none⟩) m4 cap6)).setCell ⟨w.heap.size, 0, none⟩ (.int .i64 3)).setCell ⟨w.heap.size, 1, none⟩ (.int .i64 0)).setCell ⟨w.heap.size, 2, none⟩ (.int .i64 100)).setCell ⟨w.heap.size, 3, none⟩ (.int .i64 (-10))).setCell ⟨w.heap.size, 4, none⟩ (.int .i64 20)).setCell ⟨w.heap.size, 5, none⟩ (.slice (some ⟨q1, 0, none⟩) 2 2)).setCell ⟨w.heap.size, 6, none⟩ (.slice (some ⟨q2, 0, none⟩) 1 1)).setCell ⟨w.heap.size, 7, none⟩ (.slice (some ⟨g6, 0, none⟩) m4 cap6)) q2 = some (.cells #[.int .i64 30, .int .i64 60] 23 (0, 0)) from ((blk_set _ _ _ _ (by show q2 ≠ w.heap.size; omega)).trans ((blk_set _ _ _ _ (by show q2 ≠ w.heap.size; omega)).trans ((blk_set _ _ _ _ (by show q2 ≠ w.heap.size; omega)).trans ((blk_set _ _ _ _ (by show q2 ≠ w.heap.size; omega)).trans ((blk_set _ _ _ _ (by show q2 ≠ w.heap.size; omega)).trans ((blk_set _ _ _ _ (by show q2 ≠ w.heap.size; omega)).trans ((blk_set _ _ _ _ (by show q2 ≠ w.heap.size; omega)).trans ((blk_set _ _ _ _ (by show q2 ≠ w.heap.size; omega)).trans ((blk_set _ _ _ _ (by show q2 ≠ w1.heap.size + 1; omega)).trans (grown_blk hgrow6 HG2.out (show some q2 ≠ some w1.heap.size by simp; omega)))))))))))
  have O0 := ownsRow_setCell_other hown6 (a := ⟨w1.heap.size + 1, 7, none⟩) (by show some g6 ≠ some (w1.heap.size + 1); exact fun e => n7 e.symm) (.slice (some ⟨g6, 0, none⟩) m4 cap6)
  have O1 := ownsRow_setCell_other O0 (a := ⟨w.heap.size, 0, none⟩) (by show some g6 ≠ some w.heap.size; intro e; have := Option.some.inj e; omega) (.int .i64 3)
  have O2 := ownsRow_setCell_other O1 (a := ⟨w.heap.size, 1, none⟩) (by show some g6 ≠ some w.heap.size; intro e; have := Option.some.inj e; omega) (.int .i64 0)
  have O3 := ownsRow_setCell_other O2 (a := ⟨w.heap.size, 2, none⟩) (by show some g6 ≠ some w.heap.size; intro e; have := Option.some.inj e; omega) (.int .i64 100)
  have O4 := ownsRow_setCell_other O3 (a := ⟨w.heap.size, 3, none⟩) (by show some g6 ≠ some w.heap.size; intro e; have := Option.some.inj e; omega) (.int .i64 (-10))
  have O5 := ownsRow_setCell_other O4 (a := ⟨w.heap.size, 4, none⟩) (by show some g6 ≠ some w.heap.size; intro e; have := Option.some.inj e; omega) (.int .i64 20)
  have O6 := ownsRow_setCell_other O5 (a := ⟨w.heap.size, 5, none⟩) (by show some g6 ≠ some w.heap.size; intro e; have := Option.some.inj e; omega) (.slice (some ⟨q1, 0, none⟩) 2 2)
  have O7 := ownsRow_setCell_other O6 (a := ⟨w.heap.size, 6, none⟩) (by show some g6 ≠ some w.heap.size; intro e; have := Option.some.inj e; omega) (.slice (some ⟨q2, 0, none⟩) 1 1)
  have O8 := ownsRow_setCell_other O7 (a := ⟨w.heap.size, 7, none⟩) (by show some g6 ≠ some w.heap.size; intro e; have := Option.some.inj e; omega) (.slice (some ⟨g6, 0, none⟩) m4 cap6)
  obtain rfl := HM4.out
  refine bodyPost_ret (v := BoV 3 0 100 (-10) 20 (.slice (some ⟨q1, 0, none⟩) 2 2) (.slice (some ⟨q2, 0, none⟩) 1 1) (.slice (some ⟨g6, 0, none⟩) (4 + ms.length) cap6)) (by simp [results, Try.results52, go_sem, cc]) rfl ⟨⟨q1, q2, _, _, rfl, ?_, ?_, ?_⟩, UZ⟩
  · refine ⟨⟨_, _, rfl, Nat.le_refl _, by decide, fun _ => ⟨_, 0, rfl, blk_lt G1, fun j hj i hi => ?_⟩⟩⟩
    rw [cellB G1]
    have a : j = 0 ∨ j = 1 := by have : j < 2 := hj; omega
    have b : i = 0 ∨ i = 1 := by omega
    rcases a with rfl | rfl <;> rcases b with rfl | rfl <;> rfl
  · refine ⟨⟨_, _, rfl, Nat.le_refl _, by decide, fun _ => ⟨_, 0, rfl, blk_lt G2, fun j hj i hi => ?_⟩⟩⟩
    rw [cellB G2]
    have a : j = 0 := by have : j < 1 := hj; omega
    have b : i = 0 ∨ i = 1 := by omega
    subst a
    rcases b with rfl | rfl <;> rfl
  · exact Tab.of_row (n := 4 + ms.length) (base := w1.heap.size) (e := 63) (k := 5) (enc := T.encL) (xs := T.lsR r ++ ms) O8 (by omega) (by have := hms'.out; omega)

end Go.Proofs.Ytlpkheoljbdajaa

/- The program's answers at the laws' example. -/
namespace Go.Proofs.Ytlpkheoljbdajaa
open Go.RowKit

theorem l_book_nil {r : Int} (w : World) : Calls Try.prog 52 #[.int .i64 r, .slice none 0 0] w fun e w' => (∃ g1 g2 aL cL, e = .returned (BoV 3 0 100 (-10) 20 (.slice (some ⟨g1, 0, none⟩) 2 2) (.slice (some ⟨g2, 0, none⟩) 1 1) (.slice aL 4 cL)) ∧ Sps w' (.slice (some ⟨g1, 0, none⟩) 2 2) T.ps0 ∧ Sps w' (.slice (some ⟨g2, 0, none⟩) 1 1) T.qs0 ∧ Lks w' (.slice aL 4 cL) (T.lsR r)) ∧ Up w w' :=
  (l_book_any (ms := []) (Tab.nil w) (by decide)).mono fun e w' ⟨⟨g1, g2, aL, cL, h1, h2, h3, h4⟩, u⟩ => ⟨⟨g1, g2, aL, cL, h1, h2, h3, h4⟩, u⟩
theorem l_book_one {w : World} {q : Nat} (h : mblk w q = some (.cells (LkC 0 0 1 60 30) 63 (0, 0))) : Calls Try.prog 52 #[.int .i64 70, .slice (some ⟨q, 0, none⟩) 1 1] w fun e w' => (∃ g1 g2 aL cL, e = .returned (BoV 3 0 100 (-10) 20 (.slice (some ⟨g1, 0, none⟩) 2 2) (.slice (some ⟨g2, 0, none⟩) 1 1) (.slice aL 5 cL)) ∧ Sps w' (.slice (some ⟨g1, 0, none⟩) 2 2) T.ps0 ∧ Sps w' (.slice (some ⟨g2, 0, none⟩) 1 1) T.qs0 ∧ Lks w' (.slice aL 5 cL) T.ls5) ∧ Up w w' :=
  (l_book_any (ms := [(0, 0, 1, 60, 30)]) (Tab.new (cap := 1) (xs := [(0, 0, 1, 60, 30)]) h (Nat.le_refl _) (by simp) (fun j hj i hi => by
    obtain rfl : j = 0 := by simpa using hj
    match i, hi with
    | 0, _ => rfl
    | 1, _ => rfl
    | 2, _ => rfl
    | 3, _ => rfl
    | 4, _ => rfl)) (by decide)).mono fun e w' ⟨⟨g1, g2, aL, cL, h1, h2, h3, h4⟩, u⟩ => ⟨⟨g1, g2, aL, cL, h1, h2, h3, h4⟩, u⟩
section
variable {aP aQ aL aO aE aA : Option Addr} {cP cQ cL cO cE cA : Nat} {w : World}
abbrev T.BV0 (aP aQ aL : Option Addr) (cP cQ cL : Nat) : Value := BoV 3 0 100 (-10) 20 (.slice aP 2 cP) (.slice aQ 1 cQ) (.slice aL 4 cL)
theorem ex_Offset (I : Sps w (.slice aP 2 cP) T.ps0) (J : Sps w (.slice aQ 1 cQ) T.qs0) (K : Lks w (.slice aL 4 cL) T.ls0) : Calls Try.prog 24 #[T.BV0 aP aQ aL cP cQ cL, .int .i64 2] w fun e w' => e = .returned (.tuple #[SpV 50 105, .int .i64 0]) ∧ Up w w' :=
  Offset_tells (N := 3) T.ok0 (by omega) T.ex_o2 I J K
theorem ex_Between (I : Sps w (.slice aP 2 cP) T.ps0) (J : Sps w (.slice aQ 1 cQ) T.qs0) (K : Lks w (.slice aL 4 cL) T.ls0) : Calls Try.prog 21 #[T.BV0 aP aQ aL cP cQ cL, .int .i64 2, .int .i64 0] w fun e w' => e = .returned (.tuple #[SpV (-40) (-20), .int .i64 0]) ∧ Up w w' :=
  Between_tells (N := 3) T.ok0 (by omega) (by omega) T.ex_b20 I J K
theorem ex_Person (I : Sps w (.slice aP 2 cP) T.ps0) (J : Sps w (.slice aQ 1 cQ) T.qs0) (K : Lks w (.slice aL 4 cL) T.ls0) : Calls Try.prog 26 #[T.BV0 aP aQ aL cP cQ cL, .int .i64 0] w fun e w' => e = .returned (.tuple #[SpV (-40) 15, .int .i64 0]) ∧ Up w w' :=
  Person_tells (N := 3) T.ok0 (by decide) T.ex_p0 I J K
theorem ex_Path (I : Sps w (.slice aP 2 cP) T.ps0) (J : Sps w (.slice aQ 1 cQ) T.qs0) (K : Lks w (.slice aL 4 cL) T.ls0) : Calls Try.prog 28 #[T.BV0 aP aQ aL cP cQ cL, .int .i64 0] w fun e w' => e = .returned (.tuple #[SpV 30 60, .int .i64 0]) ∧ Up w w' :=
  Path_tells (N := 3) T.ok0 (by decide) T.ex_q0 I J K
set_option maxRecDepth 100000 in
theorem ex_IsTruth (I : Sps w (.slice aP 2 cP) T.ps0) (J : Sps w (.slice aQ 1 cQ) T.qs0) (K : Lks w (.slice aL 4 cL) T.ls0) (IO : Ints w (.slice aO 3 cO) [50, 60, 75]) (IE : Ints w (.slice aE 2 cE) [-5, 10]) (IA : Ints w (.slice aA 1 cA) [40]) : Calls Try.prog 17 #[T.BV0 aP aQ aL cP cQ cL, .agg #[.slice aO 3 cO, .slice aE 2 cE, .slice aA 1 cA]] w fun e w' => e = .returned (.tuple #[.bool true, .int .i64 0]) ∧ Up w w' :=
by
  refine (IsTruth_ok (N := 3) (os := [50, 60, 75]) (pe := [-5, 10]) (pa := [40]) I J K IO IE IA (fun x hx => ?_) (fun x hx => ?_) T.ok0).mono ?_
  · simp only [List.mem_cons, List.not_mem_nil, or_false] at hx
    unfold D.in64
    omega
  · simp only [List.mem_cons, List.not_mem_nil, or_false] at hx
    unfold D.in64
    omega
  · rintro e w' ⟨⟨r, h1, h2⟩, u⟩
    have q : T.Sat true (T.web 3 0 100 (-10) 20 T.ps0 T.qs0 T.ls0 T.o0) (T.nto [50, 60, 75] [-5, 10] [40] 3) := (T.sat_tru (T.valid_bok T.ok0)).2 (T.tchk_tru (by kernel_rfl))
    have f : T.fit (3 : Nat) T.ps0.length T.qs0.length [50, 60, 75] [-5, 10] [40] = true := by kernel_rfl
    have : r = true := h2.2 ⟨f, q⟩
    subst this
    exact ⟨h1, u⟩
set_option maxRecDepth 100000 in
theorem ex_Wrong (I : Sps w (.slice aP 2 cP) T.ps0) (J : Sps w (.slice aQ 1 cQ) T.qs0) (K : Lks w (.slice aL 4 cL) (T.lsR 200)) : Calls Try.prog 31 #[T.BV0 aP aQ aL cP cQ cL] w fun e w' => (∃ v, e = .returned (.tuple #[v, .int .i64 0]) ∧ Ints w' v [3]) ∧ Up w w' :=
  (Wrong_ok (N := 3) I J K T.ok2).mono fun e w' ⟨⟨v, h1, h2⟩, u⟩ => ⟨⟨v, h1, by
    have q := T.ex_wrong
    have h3 : Ints w' v (T.lst (T.fewS (T.canP 3 0 100 (-10) 20 T.ps0 T.qs0 (T.lsR 200)) 4) 10) := h2
    rw [q] at h3
    exact h3⟩, u⟩
set_option maxRecDepth 100000 in
theorem ex_Idle (I : Sps w (.slice aP 2 cP) T.ps0) (J : Sps w (.slice aQ 1 cQ) T.qs0) (K : Lks w (.slice aL 5 cL) T.ls5) : Calls Try.prog 34 #[BoV 3 0 100 (-10) 20 (.slice aP 2 cP) (.slice aQ 1 cQ) (.slice aL 5 cL)] w fun e w' => (∃ v, e = .returned (.tuple #[v, .int .i64 0]) ∧ Ints w' v [4]) ∧ Up w w' :=
  (Idle_ok (N := 3) I J K T.ok5).mono fun e w' ⟨h, u⟩ => ⟨by
    rcases h with ⟨_, hno⟩ | ⟨_, v, s, h1, h2, h3⟩
    · exact absurd ((T.sat_tru (T.valid_bok T.ok5)).2 T.i_lo) (hno _)
    · have q := T.ex_idle (s := s) h3
      rw [q] at h2
      exact ⟨v, h1, h2⟩, u⟩
set_option maxRecDepth 100000 in
theorem ex_Worst (I : Sps w (.slice aP 2 cP) T.ps0) (J : Sps w (.slice aQ 1 cQ) T.qs0) (K : Lks w (.slice aL 4 cL) T.ls0) : Calls Try.prog 36 #[T.BV0 aP aQ aL cP cQ cL] w fun e w' => e = .returned (.tuple #[.int .i64 0, .int .i64 55, .int .i64 0]) ∧ Up w w' :=
  (Worst_ok (N := 3) I J K T.ok0).mono fun e w' ⟨⟨a, b, c, h1, h2⟩, u⟩ => by
    obtain ⟨rfl, rfl, rfl⟩ := T.ex_worst h2
    exact ⟨h1, u⟩
set_option maxRecDepth 100000 in
theorem ex_Case (I : Sps w (.slice aP 2 cP) T.ps0) (J : Sps w (.slice aQ 1 cQ) T.qs0) (K : Lks w (.slice aL 4 cL) T.ls0) : Calls Try.prog 30 #[T.BV0 aP aQ aL cP cQ cL, .int .i64 0, .bool true] w fun e w' => (∃ g off cO aE nE cE aA nA cA, e = .returned (.tuple #[.agg #[.slice (some ⟨g, off, none⟩) 3 cO, .slice aE nE cE, .slice aA nA cA], .int .i64 0]) ∧ g < w'.heap.size ∧ w'.cell? ⟨g, off, none⟩ = some (.int .i64 85)) ∧ Up w w' :=
  (Case_hi (N := 3) I J K (T.qErr_yes T.ok0 (T.askd1 (k := 2) (by decide)))).mono fun e w' ⟨h, u⟩ => ⟨by
    have B := T.valid_bok T.ok0
    rcases h with ⟨_, hno⟩ | ⟨y, vO, vE, vA, h1, ⟨⟨hO, _, aO, nO, cO, rfl⟩, ⟨_, _, aE, nE, cE, rfl⟩, _, _, aA, nA, cA, rfl⟩, hy, y0, hz⟩
    · exact absurd ((T.sat_tru B).2 T.e_lo) (hno _)
    · obtain ⟨a', c', e', hc, hl, hm⟩ := hO.is
      injection e' with e1 e2 e3
      subst e1 e2 e3
      obtain ⟨g, off, rfl, gl, hx⟩ := hm (by rw [T.out_len]; decide)
      have q := hx 0 (by rw [T.out_len]; decide)
      have hv : (T.out false y 1 3).getD 0 0 = 85 := by
        show y (1 + 0) = 85
        have a1 := T.ex_o0.yes.1 y ((T.sat_tru B).1 hy)
        have a2 := hz T.eHi ((T.sat_tru B).2 T.e_hi) 1 (.inr (.inl ⟨by decide, by decide⟩))
        rw [if_pos rfl] at a2
        have a3 : T.eHi 1 - T.eHi 0 = 85 := by kernel_rfl
        have a4 : (1 : Int) + 0 = 1 := rfl
        rw [a4] at a1 ⊢
        omega
      rw [hv, Nat.add_zero] at q
      have hlen : (T.out false y 1 3).length = 3 := T.out_len _ _ _ _
      exact ⟨g, off, _, _, _, _, _, _, _, by rw [h1, hlen], gl, q⟩, u⟩
end

end Go.Proofs.Ytlpkheoljbdajaa
