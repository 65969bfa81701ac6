import Derived.Deep.Cut
import Derived.Test.YtcmdaiklkdeanaaKnc
/- The law BeatKnown: its head, and all joined. -/
namespace Go.Proofs.Ytcmdaiklkdeanaa
open Go.RowKit Go.Shelf
attribute [local go_sem] Oper.semAt_some
set_option maxRecDepth 100000 in
set_option maxHeartbeats 4000000 in
theorem kn_cellarB (w : World) : Calls Try.prog 42 #[.slice none 0 0] w fun e w' => (∃ g1 g2 g3, e = .returned (ClV 3 (.slice (some ⟨g1, 0, none⟩) 3 3) (.slice (some ⟨g2, 0, none⟩) 1 1) (.slice (some ⟨g3, 0, none⟩) 4 4)) ∧ w.heap.size < g1 ∧ g1 < g2 ∧ g2 < g3 ∧ mblk w' g1 = some (.cells #[.int .i64 (-2), .int .i64 3, .int .i64 0, .int .i64 1, .int .i64 (-10), .int .i64 10] 34 (0, 0)) ∧ mblk w' g2 = some (.cells #[.int .i64 2, .int .i64 1, .int .i64 (-50), .int .i64 50] 63 (0, 0)) ∧ mblk w' g3 = some (.cells #[.int .i64 0, .int .i64 0, .int .i64 (-1), .int .i64 100, .int .i64 104, .int .i64 1, .int .i64 0, .int .i64 1, .int .i64 40, .int .i64 44, .int .i64 3, .int .i64 1, .int .i64 (-1), .int .i64 60, .int .i64 61, .int .i64 3, .int .i64 2, .int .i64 1, .int .i64 5, .int .i64 5] 61 (0, 0))) ∧ Up w w' := by
  have HT0 := Lib.hid (fun w => B_To_any (-2) 3 w)
  have HT1 := Lib.hid (fun w => B_To_any 0 1 w)
  have HT2 := Lib.hid (fun w => B_To_any (-10) 10 w)
  have HT3 := Lib.hid (fun w => B_To_any (-50) 50 w)
  have HT4 := Lib.hid (fun w => B_To_any 100 104 w)
  have HT5 := Lib.hid (fun w => B_To_any 40 44 w)
  have HT6 := Lib.hid (fun w => B_To_any 60 61 w)
  have HT7 := Lib.hid (fun w => B_To_any 5 5 w)
  have U0 := (Up.refl w).alloc (.cells #[.int .i64 0, .slice none 0 0, .slice none 0 0, .slice none 0 0] 26)
  have k0 := blk_new w (.cells #[.int .i64 0, .slice none 0 0, .slice none 0 0, .slice none 0 0] 26) _ rfl
  go_enter Try.func42, Try.ntmps42
  go_wp2_with fail
  refine (HT0.out _).mono ?_
  rintro e w1 ⟨rfl, u1⟩
  replace k0 := u1.blk k0
  replace U0 := U0.trans u1
  clear u1 HT0
  go_wp2_with fail
  refine (HT1.out _).mono ?_
  rintro e w1 ⟨rfl, u1⟩
  replace k0 := u1.blk k0
  replace U0 := U0.trans u1
  clear u1 HT1
  go_wp2_with fail
  refine (HT2.out _).mono ?_
  rintro e w1 ⟨rfl, u1⟩
  replace k0 := u1.blk k0
  replace U0 := U0.trans u1
  clear u1 HT2
  go_wp2_with fail
  have g1 := blk_new w1 (.cells #[.int .i64 (-2), .int .i64 3, .int .i64 0, .int .i64 1, .int .i64 (-10), .int .i64 10] 34) _ rfl
  have k1 := blk_keep (.cells #[.int .i64 (-2), .int .i64 3, .int .i64 0, .int .i64 1, .int .i64 (-10), .int .i64 10] 34) k0
  have V1 := U0.alloc (.cells #[.int .i64 (-2), .int .i64 3, .int .i64 0, .int .i64 1, .int .i64 (-10), .int .i64 10] 34)
  obtain ⟨q1, hq1⟩ : ∃ x, w1.heap.size = x := ⟨_, rfl⟩
  obtain ⟨W1, hW1⟩ : ∃ x, w1.alloc (.cells #[.int .i64 (-2), .int .i64 3, .int .i64 0, .int .i64 1, .int .i64 (-10), .int .i64 10] 34) = x := ⟨_, rfl⟩
  rw [hq1, hW1]
  rw [hq1, hW1] at g1
  rw [hW1] at k1 V1
  have n1 : w.heap.size < q1 := by rw [← hq1]; exact blk_lt k0
  clear k0 U0 hq1 hW1
  refine (HT3.out _).mono ?_
  rintro e w1 ⟨rfl, u1⟩
  replace k1 := u1.blk k1
  replace g1 := u1.blk g1
  replace V1 := V1.trans u1
  clear u1 HT3
  go_wp2_with fail
  have g2 := blk_new w1 (.cells #[.int .i64 2, .int .i64 1, .int .i64 (-50), .int .i64 50] 63) _ rfl
  have k2 := blk_keep (.cells #[.int .i64 2, .int .i64 1, .int .i64 (-50), .int .i64 50] 63) k1
  have g12 := blk_keep (.cells #[.int .i64 2, .int .i64 1, .int .i64 (-50), .int .i64 50] 63) g1
  have V2 := V1.alloc (.cells #[.int .i64 2, .int .i64 1, .int .i64 (-50), .int .i64 50] 63)
  obtain ⟨q2, hq2⟩ : ∃ x, w1.heap.size = x := ⟨_, rfl⟩
  obtain ⟨W2, hW2⟩ : ∃ x, w1.alloc (.cells #[.int .i64 2, .int .i64 1, .int .i64 (-50), .int .i64 50] 63) = x := ⟨_, rfl⟩
  rw [hq2, hW2]
  rw [hq2, hW2] at g2
  rw [hW2] at k2 V2 g12
  have m12 : q1 < q2 := by rw [← hq2]; exact blk_lt g1
  have n2 : w.heap.size < q2 := by rw [← hq2]; exact blk_lt k1
  clear k1 g1 V1 hq2 hW2
  refine (HT4.out _).mono ?_
  rintro e w1 ⟨rfl, u1⟩
  replace k2 := u1.blk k2
  replace g12 := u1.blk g12
  replace g2 := u1.blk g2
  replace V2 := V2.trans u1
  clear u1 HT4
  go_wp2_with fail
  refine (HT5.out _).mono ?_
  rintro e w1 ⟨rfl, u1⟩
  replace k2 := u1.blk k2
  replace g12 := u1.blk g12
  replace g2 := u1.blk g2
  replace V2 := V2.trans u1
  clear u1 HT5
  go_wp2_with fail
  refine (HT6.out _).mono ?_
  rintro e w1 ⟨rfl, u1⟩
  replace k2 := u1.blk k2
  replace g12 := u1.blk g12
  replace g2 := u1.blk g2
  replace V2 := V2.trans u1
  clear u1 HT6
  go_wp2_with fail
  refine (HT7.out _).mono ?_
  rintro e w1 ⟨rfl, u1⟩
  replace k2 := u1.blk k2
  replace g12 := u1.blk g12
  replace g2 := u1.blk g2
  replace V2 := V2.trans u1
  clear u1 HT7
  have g3 := blk_keep (.cells #[.int .i64 3, .slice (some ⟨q1, 0, none⟩) 3 3, .slice (some ⟨q2, 0, none⟩) 1 1, .slice (some ⟨w1.heap.size, 0, none⟩) 4 4] 26) (blk_new w1 (.cells #[.int .i64 0, .int .i64 0, .int .i64 (-1), .int .i64 100, .int .i64 104, .int .i64 1, .int .i64 0, .int .i64 1, .int .i64 40, .int .i64 44, .int .i64 3, .int .i64 1, .int .i64 (-1), .int .i64 60, .int .i64 61, .int .i64 3, .int .i64 2, .int .i64 1, .int .i64 5, .int .i64 5] 61) _ rfl)
  have g13 := blk_keep (.cells #[.int .i64 3, .slice (some ⟨q1, 0, none⟩) 3 3, .slice (some ⟨q2, 0, none⟩) 1 1, .slice (some ⟨w1.heap.size, 0, none⟩) 4 4] 26) (blk_keep (.cells #[.int .i64 0, .int .i64 0, .int .i64 (-1), .int .i64 100, .int .i64 104, .int .i64 1, .int .i64 0, .int .i64 1, .int .i64 40, .int .i64 44, .int .i64 3, .int .i64 1, .int .i64 (-1), .int .i64 60, .int .i64 61, .int .i64 3, .int .i64 2, .int .i64 1, .int .i64 5, .int .i64 5] 61) g12)
  have g23 := blk_keep (.cells #[.int .i64 3, .slice (some ⟨q1, 0, none⟩) 3 3, .slice (some ⟨q2, 0, none⟩) 1 1, .slice (some ⟨w1.heap.size, 0, none⟩) 4 4] 26) (blk_keep (.cells #[.int .i64 0, .int .i64 0, .int .i64 (-1), .int .i64 100, .int .i64 104, .int .i64 1, .int .i64 0, .int .i64 1, .int .i64 40, .int .i64 44, .int .i64 3, .int .i64 1, .int .i64 (-1), .int .i64 60, .int .i64 61, .int .i64 3, .int .i64 2, .int .i64 1, .int .i64 5, .int .i64 5] 61) g2)
  have k3 := blk_keep (.cells #[.int .i64 3, .slice (some ⟨q1, 0, none⟩) 3 3, .slice (some ⟨q2, 0, none⟩) 1 1, .slice (some ⟨w1.heap.size, 0, none⟩) 4 4] 26) (blk_keep (.cells #[.int .i64 0, .int .i64 0, .int .i64 (-1), .int .i64 100, .int .i64 104, .int .i64 1, .int .i64 0, .int .i64 1, .int .i64 40, .int .i64 44, .int .i64 3, .int .i64 1, .int .i64 (-1), .int .i64 60, .int .i64 61, .int .i64 3, .int .i64 2, .int .i64 1, .int .i64 5, .int .i64 5] 61) k2)
  have V3 := (V2.alloc (.cells #[.int .i64 0, .int .i64 0, .int .i64 (-1), .int .i64 100, .int .i64 104, .int .i64 1, .int .i64 0, .int .i64 1, .int .i64 40, .int .i64 44, .int .i64 3, .int .i64 1, .int .i64 (-1), .int .i64 60, .int .i64 61, .int .i64 3, .int .i64 2, .int .i64 1, .int .i64 5, .int .i64 5] 61)).alloc (.cells #[.int .i64 3, .slice (some ⟨q1, 0, none⟩) 3 3, .slice (some ⟨q2, 0, none⟩) 1 1, .slice (some ⟨w1.heap.size, 0, none⟩) 4 4] 26)
  have n3 : w.heap.size < w1.heap.size := blk_lt k2
  have m23 : q2 < w1.heap.size := blk_lt g2
  have HN := Lib.hid (show w.heap.size < q1 ∧ q1 < q2 ∧ q2 < w1.heap.size from ⟨n1, m12, m23⟩)
  have zz := frozB k3
  have lz := blk_lt k3
  have KZ := Lib.hid (show mblk ((((((w1.alloc (.cells #[.int .i64 0, .int .i64 0, .int .i64 (-1), .int .i64 100, .int .i64 104, .int .i64 1, .int .i64 0, .int .i64 1, .int .i64 40, .int .i64 44, .int .i64 3, .int .i64 1, .int .i64 (-1), .int .i64 60, .int .i64 61, .int .i64 3, .int .i64 2, .int .i64 1, .int .i64 5, .int .i64 5] 61)).alloc (.cells #[.int .i64 3, .slice (some ⟨q1, 0, none⟩) 3 3, .slice (some ⟨q2, 0, none⟩) 1 1, .slice (some ⟨w1.heap.size, 0, none⟩) 4 4] 26)).setCell ⟨w.heap.size, 0, none⟩ (.int .i64 3)).setCell ⟨w.heap.size, 1, none⟩ (.slice (some ⟨q1, 0, none⟩) 3 3)).setCell ⟨w.heap.size, 2, none⟩ (.slice (some ⟨q2, 0, none⟩) 1 1)).setCell ⟨w.heap.size, 3, none⟩ (.slice (some ⟨w1.heap.size, 0, none⟩) 4 4)) w.heap.size = some (.cells #[.int .i64 3, .slice (some ⟨q1, 0, none⟩) 3 3, .slice (some ⟨q2, 0, none⟩) 1 1, .slice (some ⟨w1.heap.size, 0, none⟩) 4 4] 26 (0, 0)) from (blk_put (blk_put (blk_put (blk_put k3 0 (.int .i64 3)) 1 (.slice (some ⟨q1, 0, none⟩) 3 3)) 2 (.slice (some ⟨q2, 0, none⟩) 1 1)) 3 (.slice (some ⟨w1.heap.size, 0, none⟩) 4 4)))
  have UZ := ((((V3.set (p := ⟨w.heap.size, 0, none⟩) (Nat.le_refl _) (.int .i64 3)).set (p := ⟨w.heap.size, 1, none⟩) (Nat.le_refl _) (.slice (some ⟨q1, 0, none⟩) 3 3)).set (p := ⟨w.heap.size, 2, none⟩) (Nat.le_refl _) (.slice (some ⟨q2, 0, none⟩) 1 1)).set (p := ⟨w.heap.size, 3, none⟩) (Nat.le_refl _) (.slice (some ⟨w1.heap.size, 0, none⟩) 4 4))
  have G1 := Lib.hid (show mblk ((((((w1.alloc (.cells #[.int .i64 0, .int .i64 0, .int .i64 (-1), .int .i64 100, .int .i64 104, .int .i64 1, .int .i64 0, .int .i64 1, .int .i64 40, .int .i64 44, .int .i64 3, .int .i64 1, .int .i64 (-1), .int .i64 60, .int .i64 61, .int .i64 3, .int .i64 2, .int .i64 1, .int .i64 5, .int .i64 5] 61)).alloc (.cells #[.int .i64 3, .slice (some ⟨q1, 0, none⟩) 3 3, .slice (some ⟨q2, 0, none⟩) 1 1, .slice (some ⟨w1.heap.size, 0, none⟩) 4 4] 26)).setCell ⟨w.heap.size, 0, none⟩ (.int .i64 3)).setCell ⟨w.heap.size, 1, none⟩ (.slice (some ⟨q1, 0, none⟩) 3 3)).setCell ⟨w.heap.size, 2, none⟩ (.slice (some ⟨q2, 0, none⟩) 1 1)).setCell ⟨w.heap.size, 3, none⟩ (.slice (some ⟨w1.heap.size, 0, none⟩) 4 4)) q1 = some (.cells #[.int .i64 (-2), .int .i64 3, .int .i64 0, .int .i64 1, .int .i64 (-10), .int .i64 10] 34 (0, 0)) from ((blk_set _ _ _ _ (by show q1 ≠ w.heap.size; omega)).trans ((blk_set _ _ _ _ (by show q1 ≠ w.heap.size; omega)).trans ((blk_set _ _ _ _ (by show q1 ≠ w.heap.size; omega)).trans ((blk_set _ _ _ _ (by show q1 ≠ w.heap.size; omega)).trans g13)))))
  have G2 := Lib.hid (show mblk ((((((w1.alloc (.cells #[.int .i64 0, .int .i64 0, .int .i64 (-1), .int .i64 100, .int .i64 104, .int .i64 1, .int .i64 0, .int .i64 1, .int .i64 40, .int .i64 44, .int .i64 3, .int .i64 1, .int .i64 (-1), .int .i64 60, .int .i64 61, .int .i64 3, .int .i64 2, .int .i64 1, .int .i64 5, .int .i64 5] 61)).alloc (.cells #[.int .i64 3, .slice (some ⟨q1, 0, none⟩) 3 3, .slice (some ⟨q2, 0, none⟩) 1 1, .slice (some ⟨w1.heap.size, 0, none⟩) 4 4] 26)).setCell ⟨w.heap.size, 0, none⟩ (.int .i64 3)).setCell ⟨w.heap.size, 1, none⟩ (.slice (some ⟨q1, 0, none⟩) 3 3)).setCell ⟨w.heap.size, 2, none⟩ (.slice (some ⟨q2, 0, none⟩) 1 1)).setCell ⟨w.heap.size, 3, none⟩ (.slice (some ⟨w1.heap.size, 0, none⟩) 4 4)) q2 = some (.cells #[.int .i64 2, .int .i64 1, .int .i64 (-50), .int .i64 50] 63 (0, 0)) from ((blk_set _ _ _ _ (by show q2 ≠ w.heap.size; omega)).trans ((blk_set _ _ _ _ (by show q2 ≠ w.heap.size; omega)).trans ((blk_set _ _ _ _ (by show q2 ≠ w.heap.size; omega)).trans ((blk_set _ _ _ _ (by show q2 ≠ w.heap.size; omega)).trans g23)))))
  have G3 := Lib.hid (show mblk ((((((w1.alloc (.cells #[.int .i64 0, .int .i64 0, .int .i64 (-1), .int .i64 100, .int .i64 104, .int .i64 1, .int .i64 0, .int .i64 1, .int .i64 40, .int .i64 44, .int .i64 3, .int .i64 1, .int .i64 (-1), .int .i64 60, .int .i64 61, .int .i64 3, .int .i64 2, .int .i64 1, .int .i64 5, .int .i64 5] 61)).alloc (.cells #[.int .i64 3, .slice (some ⟨q1, 0, none⟩) 3 3, .slice (some ⟨q2, 0, none⟩) 1 1, .slice (some ⟨w1.heap.size, 0, none⟩) 4 4] 26)).setCell ⟨w.heap.size, 0, none⟩ (.int .i64 3)).setCell ⟨w.heap.size, 1, none⟩ (.slice (some ⟨q1, 0, none⟩) 3 3)).setCell ⟨w.heap.size, 2, none⟩ (.slice (some ⟨q2, 0, none⟩) 1 1)).setCell ⟨w.heap.size, 3, none⟩ (.slice (some ⟨w1.heap.size, 0, none⟩) 4 4)) w1.heap.size = some (.cells #[.int .i64 0, .int .i64 0, .int .i64 (-1), .int .i64 100, .int .i64 104, .int .i64 1, .int .i64 0, .int .i64 1, .int .i64 40, .int .i64 44, .int .i64 3, .int .i64 1, .int .i64 (-1), .int .i64 60, .int .i64 61, .int .i64 3, .int .i64 2, .int .i64 1, .int .i64 5, .int .i64 5] 61 (0, 0)) from ((blk_set _ _ _ _ (by show w1.heap.size ≠ w.heap.size; omega)).trans ((blk_set _ _ _ _ (by show w1.heap.size ≠ w.heap.size; omega)).trans ((blk_set _ _ _ _ (by show w1.heap.size ≠ w.heap.size; omega)).trans ((blk_set _ _ _ _ (by show w1.heap.size ≠ w.heap.size; omega)).trans g3)))))
  clear g3 g13 g23 g12 g2 k2 V3 V2 n1 n2 n3 m12 m23
  go_wp2_with fail
  have cc := cellB KZ.out
  refine bodyPost_ret (v := ClV 3 (.slice (some ⟨q1, 0, none⟩) 3 3) (.slice (some ⟨q2, 0, none⟩) 1 1) (.slice (some ⟨w1.heap.size, 0, none⟩) 4 4)) (by simp [results, Try.results42, go_sem, cc]) rfl ⟨⟨q1, q2, w1.heap.size, rfl, HN.out.1, HN.out.2.1, HN.out.2.2, G1.out, G2.out, G3.out⟩, UZ⟩
set_option maxRecDepth 1000000 in
set_option maxHeartbeats 8000000 in
set_option linter.unusedSimpArgs false in
theorem beatKnown_any (w0 : World) : Calls Try.prog 14 #[] w0 fun e w' => e = .returned (.bool true) ∧ Up w0 w' := by
  have hmx : Try.prog.follows .mixedOrders = true := by kernel_rfl
  have U := Up.refl w0
  go_enter Try.func14, Try.ntmps14
  have z1 := U.size
  go_wp2_with fail
  refine (kn_cellarB _).mono ?_
  rintro e x1 ⟨⟨r1, s1, t1, rfl, nr1, ns1, nt1, kr1, ks1, kt1⟩, u2⟩
  replace U := U.trans u2
  clear u2 
  have z2 := U.size
  have yr1_2 := blk_lt kr1
  have ys1_2 := blk_lt ks1
  have yt1_2 := blk_lt kt1
  go_wp2_with fail
  refine (kn_cellarB _).mono ?_
  rintro e x3 ⟨⟨r2, s2, t2, rfl, nr2, ns2, nt2, kr2, ks2, kt2⟩, u4⟩
  replace U := U.trans u4
  replace kr1 := u4.blk kr1
  replace ks1 := u4.blk ks1
  replace kt1 := u4.blk kt1
  clear u4 
  have z3 := U.size
  have yr2_3 := blk_lt kr2
  have ys2_3 := blk_lt ks2
  have yt2_3 := blk_lt kt2
  go_wp2_with fail
  refine (kn_cellarB _).mono ?_
  rintro e x5 ⟨⟨r3, s3, t3, rfl, nr3, ns3, nt3, kr3, ks3, kt3⟩, u6⟩
  replace U := U.trans u6
  replace kr1 := u6.blk kr1
  replace ks1 := u6.blk ks1
  replace kt1 := u6.blk kt1
  replace kr2 := u6.blk kr2
  replace ks2 := u6.blk ks2
  replace kt2 := u6.blk kt2
  clear u6 
  have z4 := U.size
  have yr3_4 := blk_lt kr3
  have ys3_4 := blk_lt ks3
  have yt3_4 := blk_lt kt3
  go_wp2_with fail
  refine (kn_cellarB _).mono ?_
  rintro e x7 ⟨⟨r4, s4, t4, rfl, nr4, ns4, nt4, kr4, ks4, kt4⟩, u8⟩
  replace U := U.trans u8
  replace kr1 := u8.blk kr1
  replace ks1 := u8.blk ks1
  replace kt1 := u8.blk kt1
  replace kr2 := u8.blk kr2
  replace ks2 := u8.blk ks2
  replace kt2 := u8.blk kt2
  replace kr3 := u8.blk kr3
  replace ks3 := u8.blk ks3
  replace kt3 := u8.blk kt3
  clear u8 
  have z5 := U.size
  have yr4_5 := blk_lt kr4
  have ys4_5 := blk_lt ks4
  have yt4_5 := blk_lt kt4
  go_wp2_with fail
  refine (kn_cellarB _).mono ?_
  rintro e x9 ⟨⟨r5, s5, t5, rfl, nr5, ns5, nt5, kr5, ks5, kt5⟩, u10⟩
  replace U := U.trans u10
  replace kr1 := u10.blk kr1
  replace ks1 := u10.blk ks1
  replace kt1 := u10.blk kt1
  replace kr2 := u10.blk kr2
  replace ks2 := u10.blk ks2
  replace kt2 := u10.blk kt2
  replace kr3 := u10.blk kr3
  replace ks3 := u10.blk ks3
  replace kt3 := u10.blk kt3
  replace kr4 := u10.blk kr4
  replace ks4 := u10.blk ks4
  replace kt4 := u10.blk kt4
  clear u10 
  have z6 := U.size
  have yr5_6 := blk_lt kr5
  have ys5_6 := blk_lt ks5
  have yt5_6 := blk_lt kt5
  go_wp2_with fail
  refine (kn_cellarB _).mono ?_
  rintro e x11 ⟨⟨r6, s6, t6, rfl, nr6, ns6, nt6, kr6, ks6, kt6⟩, u12⟩
  replace U := U.trans u12
  replace kr1 := u12.blk kr1
  replace ks1 := u12.blk ks1
  replace kt1 := u12.blk kt1
  replace kr2 := u12.blk kr2
  replace ks2 := u12.blk ks2
  replace kt2 := u12.blk kt2
  replace kr3 := u12.blk kr3
  replace ks3 := u12.blk ks3
  replace kt3 := u12.blk kt3
  replace kr4 := u12.blk kr4
  replace ks4 := u12.blk ks4
  replace kt4 := u12.blk kt4
  replace kr5 := u12.blk kr5
  replace ks5 := u12.blk ks5
  replace kt5 := u12.blk kt5
  clear u12 
  have z7 := U.size
  have yr6_7 := blk_lt kr6
  have ys6_7 := blk_lt ks6
  have yt6_7 := blk_lt kt6
  go_wp2_with fail
  refine (kn_cellarB _).mono ?_
  rintro e x13 ⟨⟨r7, s7, t7, rfl, nr7, ns7, nt7, kr7, ks7, kt7⟩, u14⟩
  replace U := U.trans u14
  replace kr1 := u14.blk kr1
  replace ks1 := u14.blk ks1
  replace kt1 := u14.blk kt1
  replace kr2 := u14.blk kr2
  replace ks2 := u14.blk ks2
  replace kt2 := u14.blk kt2
  replace kr3 := u14.blk kr3
  replace ks3 := u14.blk ks3
  replace kt3 := u14.blk kt3
  replace kr4 := u14.blk kr4
  replace ks4 := u14.blk ks4
  replace kt4 := u14.blk kt4
  replace kr5 := u14.blk kr5
  replace ks5 := u14.blk ks5
  replace kt5 := u14.blk kt5
  replace kr6 := u14.blk kr6
  replace ks6 := u14.blk ks6
  replace kt6 := u14.blk kt6
  clear u14 
  have z8 := U.size
  have yr7_8 := blk_lt kr7
  have ys7_8 := blk_lt ks7
  have yt7_8 := blk_lt kt7
  go_wp2_with fail
  refine (kn_cellarB _).mono ?_
  rintro e x15 ⟨⟨r8, s8, t8, rfl, nr8, ns8, nt8, kr8, ks8, kt8⟩, u16⟩
  replace U := U.trans u16
  replace kr1 := u16.blk kr1
  replace ks1 := u16.blk ks1
  replace kt1 := u16.blk kt1
  replace kr2 := u16.blk kr2
  replace ks2 := u16.blk ks2
  replace kt2 := u16.blk kt2
  replace kr3 := u16.blk kr3
  replace ks3 := u16.blk ks3
  replace kt3 := u16.blk kt3
  replace kr4 := u16.blk kr4
  replace ks4 := u16.blk ks4
  replace kt4 := u16.blk kt4
  replace kr5 := u16.blk kr5
  replace ks5 := u16.blk ks5
  replace kt5 := u16.blk kt5
  replace kr6 := u16.blk kr6
  replace ks6 := u16.blk ks6
  replace kt6 := u16.blk kt6
  replace kr7 := u16.blk kr7
  replace ks7 := u16.blk ks7
  replace kt7 := u16.blk kt7
  clear u16 
  have z9 := U.size
  have yr8_9 := blk_lt kr8
  have ys8_9 := blk_lt ks8
  have yt8_9 := blk_lt kt8
  go_wp2_with fail
  refine (kn_cellarB _).mono ?_
  rintro e x17 ⟨⟨r9, s9, t9, rfl, nr9, ns9, nt9, kr9, ks9, kt9⟩, u18⟩
  replace U := U.trans u18
  replace kr1 := u18.blk kr1
  replace ks1 := u18.blk ks1
  replace kt1 := u18.blk kt1
  replace kr2 := u18.blk kr2
  replace ks2 := u18.blk ks2
  replace kt2 := u18.blk kt2
  replace kr3 := u18.blk kr3
  replace ks3 := u18.blk ks3
  replace kt3 := u18.blk kt3
  replace kr4 := u18.blk kr4
  replace ks4 := u18.blk ks4
  replace kt4 := u18.blk kt4
  replace kr5 := u18.blk kr5
  replace ks5 := u18.blk ks5
  replace kt5 := u18.blk kt5
  replace kr6 := u18.blk kr6
  replace ks6 := u18.blk ks6
  replace kt6 := u18.blk kt6
  replace kr7 := u18.blk kr7
  replace ks7 := u18.blk ks7
  replace kt7 := u18.blk kt7
  replace kr8 := u18.blk kr8
  replace ks8 := u18.blk ks8
  replace kt8 := u18.blk kt8
  clear u18 
  have z10 := U.size
  have yr9_10 := blk_lt kr9
  have ys9_10 := blk_lt ks9
  have yt9_10 := blk_lt kt9
  have kq := blk_new x17 (.cells #[.int .i64 0, .slice none 0 0, .slice none 0 0, .slice none 0 0, .int .i64 3, .slice (some ⟨r1, 0, none⟩) 3 3, .slice (some ⟨s1, 0, none⟩) 1 1, .slice (some ⟨t1, 0, none⟩) 4 4, .int .i64 3, .slice (some ⟨r2, 0, none⟩) 3 3, .slice (some ⟨s2, 0, none⟩) 1 1, .slice (some ⟨t2, 0, none⟩) 4 4, .int .i64 3, .slice (some ⟨r3, 0, none⟩) 3 3, .slice (some ⟨s3, 0, none⟩) 1 1, .slice (some ⟨t3, 0, none⟩) 4 4, .int .i64 3, .slice (some ⟨r4, 0, none⟩) 3 3, .slice (some ⟨s4, 0, none⟩) 1 1, .slice (some ⟨t4, 0, none⟩) 4 4, .int .i64 3, .slice (some ⟨r5, 0, none⟩) 3 3, .slice (some ⟨s5, 0, none⟩) 1 1, .slice (some ⟨t5, 0, none⟩) 4 4, .int .i64 3, .slice (some ⟨r6, 0, none⟩) 3 3, .slice (some ⟨s6, 0, none⟩) 1 1, .slice (some ⟨t6, 0, none⟩) 4 4, .int .i64 3, .slice (some ⟨r7, 0, none⟩) 3 3, .slice (some ⟨s7, 0, none⟩) 1 1, .slice (some ⟨t7, 0, none⟩) 4 4, .int .i64 3, .slice (some ⟨r8, 0, none⟩) 3 3, .slice (some ⟨s8, 0, none⟩) 1 1, .slice (some ⟨t8, 0, none⟩) 4 4, .int .i64 3, .slice (some ⟨r9, 0, none⟩) 3 3, .slice (some ⟨s9, 0, none⟩) 1 1, .slice (some ⟨t9, 0, none⟩) 4 4] 26) _ rfl
  replace kr1 := blk_keep (.cells #[.int .i64 0, .slice none 0 0, .slice none 0 0, .slice none 0 0, .int .i64 3, .slice (some ⟨r1, 0, none⟩) 3 3, .slice (some ⟨s1, 0, none⟩) 1 1, .slice (some ⟨t1, 0, none⟩) 4 4, .int .i64 3, .slice (some ⟨r2, 0, none⟩) 3 3, .slice (some ⟨s2, 0, none⟩) 1 1, .slice (some ⟨t2, 0, none⟩) 4 4, .int .i64 3, .slice (some ⟨r3, 0, none⟩) 3 3, .slice (some ⟨s3, 0, none⟩) 1 1, .slice (some ⟨t3, 0, none⟩) 4 4, .int .i64 3, .slice (some ⟨r4, 0, none⟩) 3 3, .slice (some ⟨s4, 0, none⟩) 1 1, .slice (some ⟨t4, 0, none⟩) 4 4, .int .i64 3, .slice (some ⟨r5, 0, none⟩) 3 3, .slice (some ⟨s5, 0, none⟩) 1 1, .slice (some ⟨t5, 0, none⟩) 4 4, .int .i64 3, .slice (some ⟨r6, 0, none⟩) 3 3, .slice (some ⟨s6, 0, none⟩) 1 1, .slice (some ⟨t6, 0, none⟩) 4 4, .int .i64 3, .slice (some ⟨r7, 0, none⟩) 3 3, .slice (some ⟨s7, 0, none⟩) 1 1, .slice (some ⟨t7, 0, none⟩) 4 4, .int .i64 3, .slice (some ⟨r8, 0, none⟩) 3 3, .slice (some ⟨s8, 0, none⟩) 1 1, .slice (some ⟨t8, 0, none⟩) 4 4, .int .i64 3, .slice (some ⟨r9, 0, none⟩) 3 3, .slice (some ⟨s9, 0, none⟩) 1 1, .slice (some ⟨t9, 0, none⟩) 4 4] 26) kr1
  replace ks1 := blk_keep (.cells #[.int .i64 0, .slice none 0 0, .slice none 0 0, .slice none 0 0, .int .i64 3, .slice (some ⟨r1, 0, none⟩) 3 3, .slice (some ⟨s1, 0, none⟩) 1 1, .slice (some ⟨t1, 0, none⟩) 4 4, .int .i64 3, .slice (some ⟨r2, 0, none⟩) 3 3, .slice (some ⟨s2, 0, none⟩) 1 1, .slice (some ⟨t2, 0, none⟩) 4 4, .int .i64 3, .slice (some ⟨r3, 0, none⟩) 3 3, .slice (some ⟨s3, 0, none⟩) 1 1, .slice (some ⟨t3, 0, none⟩) 4 4, .int .i64 3, .slice (some ⟨r4, 0, none⟩) 3 3, .slice (some ⟨s4, 0, none⟩) 1 1, .slice (some ⟨t4, 0, none⟩) 4 4, .int .i64 3, .slice (some ⟨r5, 0, none⟩) 3 3, .slice (some ⟨s5, 0, none⟩) 1 1, .slice (some ⟨t5, 0, none⟩) 4 4, .int .i64 3, .slice (some ⟨r6, 0, none⟩) 3 3, .slice (some ⟨s6, 0, none⟩) 1 1, .slice (some ⟨t6, 0, none⟩) 4 4, .int .i64 3, .slice (some ⟨r7, 0, none⟩) 3 3, .slice (some ⟨s7, 0, none⟩) 1 1, .slice (some ⟨t7, 0, none⟩) 4 4, .int .i64 3, .slice (some ⟨r8, 0, none⟩) 3 3, .slice (some ⟨s8, 0, none⟩) 1 1, .slice (some ⟨t8, 0, none⟩) 4 4, .int .i64 3, .slice (some ⟨r9, 0, none⟩) 3 3, .slice (some ⟨s9, 0, none⟩) 1 1, .slice (some ⟨t9, 0, none⟩) 4 4] 26) ks1
  replace kt1 := blk_keep (.cells #[.int .i64 0, .slice none 0 0, .slice none 0 0, .slice none 0 0, .int .i64 3, .slice (some ⟨r1, 0, none⟩) 3 3, .slice (some ⟨s1, 0, none⟩) 1 1, .slice (some ⟨t1, 0, none⟩) 4 4, .int .i64 3, .slice (some ⟨r2, 0, none⟩) 3 3, .slice (some ⟨s2, 0, none⟩) 1 1, .slice (some ⟨t2, 0, none⟩) 4 4, .int .i64 3, .slice (some ⟨r3, 0, none⟩) 3 3, .slice (some ⟨s3, 0, none⟩) 1 1, .slice (some ⟨t3, 0, none⟩) 4 4, .int .i64 3, .slice (some ⟨r4, 0, none⟩) 3 3, .slice (some ⟨s4, 0, none⟩) 1 1, .slice (some ⟨t4, 0, none⟩) 4 4, .int .i64 3, .slice (some ⟨r5, 0, none⟩) 3 3, .slice (some ⟨s5, 0, none⟩) 1 1, .slice (some ⟨t5, 0, none⟩) 4 4, .int .i64 3, .slice (some ⟨r6, 0, none⟩) 3 3, .slice (some ⟨s6, 0, none⟩) 1 1, .slice (some ⟨t6, 0, none⟩) 4 4, .int .i64 3, .slice (some ⟨r7, 0, none⟩) 3 3, .slice (some ⟨s7, 0, none⟩) 1 1, .slice (some ⟨t7, 0, none⟩) 4 4, .int .i64 3, .slice (some ⟨r8, 0, none⟩) 3 3, .slice (some ⟨s8, 0, none⟩) 1 1, .slice (some ⟨t8, 0, none⟩) 4 4, .int .i64 3, .slice (some ⟨r9, 0, none⟩) 3 3, .slice (some ⟨s9, 0, none⟩) 1 1, .slice (some ⟨t9, 0, none⟩) 4 4] 26) kt1
  replace kr2 := blk_keep (.cells #[.int .i64 0, .slice none 0 0, .slice none 0 0, .slice none 0 0, .int .i64 3, .slice (some ⟨r1, 0, none⟩) 3 3, .slice (some ⟨s1, 0, none⟩) 1 1, .slice (some ⟨t1, 0, none⟩) 4 4, .int .i64 3, .slice (some ⟨r2, 0, none⟩) 3 3, .slice (some ⟨s2, 0, none⟩) 1 1, .slice (some ⟨t2, 0, none⟩) 4 4, .int .i64 3, .slice (some ⟨r3, 0, none⟩) 3 3, .slice (some ⟨s3, 0, none⟩) 1 1, .slice (some ⟨t3, 0, none⟩) 4 4, .int .i64 3, .slice (some ⟨r4, 0, none⟩) 3 3, .slice (some ⟨s4, 0, none⟩) 1 1, .slice (some ⟨t4, 0, none⟩) 4 4, .int .i64 3, .slice (some ⟨r5, 0, none⟩) 3 3, .slice (some ⟨s5, 0, none⟩) 1 1, .slice (some ⟨t5, 0, none⟩) 4 4, .int .i64 3, .slice (some ⟨r6, 0, none⟩) 3 3, .slice (some ⟨s6, 0, none⟩) 1 1, .slice (some ⟨t6, 0, none⟩) 4 4, .int .i64 3, .slice (some ⟨r7, 0, none⟩) 3 3, .slice (some ⟨s7, 0, none⟩) 1 1, .slice (some ⟨t7, 0, none⟩) 4 4, .int .i64 3, .slice (some ⟨r8, 0, none⟩) 3 3, .slice (some ⟨s8, 0, none⟩) 1 1, .slice (some ⟨t8, 0, none⟩) 4 4, .int .i64 3, .slice (some ⟨r9, 0, none⟩) 3 3, .slice (some ⟨s9, 0, none⟩) 1 1, .slice (some ⟨t9, 0, none⟩) 4 4] 26) kr2
  replace ks2 := blk_keep (.cells #[.int .i64 0, .slice none 0 0, .slice none 0 0, .slice none 0 0, .int .i64 3, .slice (some ⟨r1, 0, none⟩) 3 3, .slice (some ⟨s1, 0, none⟩) 1 1, .slice (some ⟨t1, 0, none⟩) 4 4, .int .i64 3, .slice (some ⟨r2, 0, none⟩) 3 3, .slice (some ⟨s2, 0, none⟩) 1 1, .slice (some ⟨t2, 0, none⟩) 4 4, .int .i64 3, .slice (some ⟨r3, 0, none⟩) 3 3, .slice (some ⟨s3, 0, none⟩) 1 1, .slice (some ⟨t3, 0, none⟩) 4 4, .int .i64 3, .slice (some ⟨r4, 0, none⟩) 3 3, .slice (some ⟨s4, 0, none⟩) 1 1, .slice (some ⟨t4, 0, none⟩) 4 4, .int .i64 3, .slice (some ⟨r5, 0, none⟩) 3 3, .slice (some ⟨s5, 0, none⟩) 1 1, .slice (some ⟨t5, 0, none⟩) 4 4, .int .i64 3, .slice (some ⟨r6, 0, none⟩) 3 3, .slice (some ⟨s6, 0, none⟩) 1 1, .slice (some ⟨t6, 0, none⟩) 4 4, .int .i64 3, .slice (some ⟨r7, 0, none⟩) 3 3, .slice (some ⟨s7, 0, none⟩) 1 1, .slice (some ⟨t7, 0, none⟩) 4 4, .int .i64 3, .slice (some ⟨r8, 0, none⟩) 3 3, .slice (some ⟨s8, 0, none⟩) 1 1, .slice (some ⟨t8, 0, none⟩) 4 4, .int .i64 3, .slice (some ⟨r9, 0, none⟩) 3 3, .slice (some ⟨s9, 0, none⟩) 1 1, .slice (some ⟨t9, 0, none⟩) 4 4] 26) ks2
  replace kt2 := blk_keep (.cells #[.int .i64 0, .slice none 0 0, .slice none 0 0, .slice none 0 0, .int .i64 3, .slice (some ⟨r1, 0, none⟩) 3 3, .slice (some ⟨s1, 0, none⟩) 1 1, .slice (some ⟨t1, 0, none⟩) 4 4, .int .i64 3, .slice (some ⟨r2, 0, none⟩) 3 3, .slice (some ⟨s2, 0, none⟩) 1 1, .slice (some ⟨t2, 0, none⟩) 4 4, .int .i64 3, .slice (some ⟨r3, 0, none⟩) 3 3, .slice (some ⟨s3, 0, none⟩) 1 1, .slice (some ⟨t3, 0, none⟩) 4 4, .int .i64 3, .slice (some ⟨r4, 0, none⟩) 3 3, .slice (some ⟨s4, 0, none⟩) 1 1, .slice (some ⟨t4, 0, none⟩) 4 4, .int .i64 3, .slice (some ⟨r5, 0, none⟩) 3 3, .slice (some ⟨s5, 0, none⟩) 1 1, .slice (some ⟨t5, 0, none⟩) 4 4, .int .i64 3, .slice (some ⟨r6, 0, none⟩) 3 3, .slice (some ⟨s6, 0, none⟩) 1 1, .slice (some ⟨t6, 0, none⟩) 4 4, .int .i64 3, .slice (some ⟨r7, 0, none⟩) 3 3, .slice (some ⟨s7, 0, none⟩) 1 1, .slice (some ⟨t7, 0, none⟩) 4 4, .int .i64 3, .slice (some ⟨r8, 0, none⟩) 3 3, .slice (some ⟨s8, 0, none⟩) 1 1, .slice (some ⟨t8, 0, none⟩) 4 4, .int .i64 3, .slice (some ⟨r9, 0, none⟩) 3 3, .slice (some ⟨s9, 0, none⟩) 1 1, .slice (some ⟨t9, 0, none⟩) 4 4] 26) kt2
  replace kr3 := blk_keep (.cells #[.int .i64 0, .slice none 0 0, .slice none 0 0, .slice none 0 0, .int .i64 3, .slice (some ⟨r1, 0, none⟩) 3 3, .slice (some ⟨s1, 0, none⟩) 1 1, .slice (some ⟨t1, 0, none⟩) 4 4, .int .i64 3, .slice (some ⟨r2, 0, none⟩) 3 3, .slice (some ⟨s2, 0, none⟩) 1 1, .slice (some ⟨t2, 0, none⟩) 4 4, .int .i64 3, .slice (some ⟨r3, 0, none⟩) 3 3, .slice (some ⟨s3, 0, none⟩) 1 1, .slice (some ⟨t3, 0, none⟩) 4 4, .int .i64 3, .slice (some ⟨r4, 0, none⟩) 3 3, .slice (some ⟨s4, 0, none⟩) 1 1, .slice (some ⟨t4, 0, none⟩) 4 4, .int .i64 3, .slice (some ⟨r5, 0, none⟩) 3 3, .slice (some ⟨s5, 0, none⟩) 1 1, .slice (some ⟨t5, 0, none⟩) 4 4, .int .i64 3, .slice (some ⟨r6, 0, none⟩) 3 3, .slice (some ⟨s6, 0, none⟩) 1 1, .slice (some ⟨t6, 0, none⟩) 4 4, .int .i64 3, .slice (some ⟨r7, 0, none⟩) 3 3, .slice (some ⟨s7, 0, none⟩) 1 1, .slice (some ⟨t7, 0, none⟩) 4 4, .int .i64 3, .slice (some ⟨r8, 0, none⟩) 3 3, .slice (some ⟨s8, 0, none⟩) 1 1, .slice (some ⟨t8, 0, none⟩) 4 4, .int .i64 3, .slice (some ⟨r9, 0, none⟩) 3 3, .slice (some ⟨s9, 0, none⟩) 1 1, .slice (some ⟨t9, 0, none⟩) 4 4] 26) kr3
  replace ks3 := blk_keep (.cells #[.int .i64 0, .slice none 0 0, .slice none 0 0, .slice none 0 0, .int .i64 3, .slice (some ⟨r1, 0, none⟩) 3 3, .slice (some ⟨s1, 0, none⟩) 1 1, .slice (some ⟨t1, 0, none⟩) 4 4, .int .i64 3, .slice (some ⟨r2, 0, none⟩) 3 3, .slice (some ⟨s2, 0, none⟩) 1 1, .slice (some ⟨t2, 0, none⟩) 4 4, .int .i64 3, .slice (some ⟨r3, 0, none⟩) 3 3, .slice (some ⟨s3, 0, none⟩) 1 1, .slice (some ⟨t3, 0, none⟩) 4 4, .int .i64 3, .slice (some ⟨r4, 0, none⟩) 3 3, .slice (some ⟨s4, 0, none⟩) 1 1, .slice (some ⟨t4, 0, none⟩) 4 4, .int .i64 3, .slice (some ⟨r5, 0, none⟩) 3 3, .slice (some ⟨s5, 0, none⟩) 1 1, .slice (some ⟨t5, 0, none⟩) 4 4, .int .i64 3, .slice (some ⟨r6, 0, none⟩) 3 3, .slice (some ⟨s6, 0, none⟩) 1 1, .slice (some ⟨t6, 0, none⟩) 4 4, .int .i64 3, .slice (some ⟨r7, 0, none⟩) 3 3, .slice (some ⟨s7, 0, none⟩) 1 1, .slice (some ⟨t7, 0, none⟩) 4 4, .int .i64 3, .slice (some ⟨r8, 0, none⟩) 3 3, .slice (some ⟨s8, 0, none⟩) 1 1, .slice (some ⟨t8, 0, none⟩) 4 4, .int .i64 3, .slice (some ⟨r9, 0, none⟩) 3 3, .slice (some ⟨s9, 0, none⟩) 1 1, .slice (some ⟨t9, 0, none⟩) 4 4] 26) ks3
  replace kt3 := blk_keep (.cells #[.int .i64 0, .slice none 0 0, .slice none 0 0, .slice none 0 0, .int .i64 3, .slice (some ⟨r1, 0, none⟩) 3 3, .slice (some ⟨s1, 0, none⟩) 1 1, .slice (some ⟨t1, 0, none⟩) 4 4, .int .i64 3, .slice (some ⟨r2, 0, none⟩) 3 3, .slice (some ⟨s2, 0, none⟩) 1 1, .slice (some ⟨t2, 0, none⟩) 4 4, .int .i64 3, .slice (some ⟨r3, 0, none⟩) 3 3, .slice (some ⟨s3, 0, none⟩) 1 1, .slice (some ⟨t3, 0, none⟩) 4 4, .int .i64 3, .slice (some ⟨r4, 0, none⟩) 3 3, .slice (some ⟨s4, 0, none⟩) 1 1, .slice (some ⟨t4, 0, none⟩) 4 4, .int .i64 3, .slice (some ⟨r5, 0, none⟩) 3 3, .slice (some ⟨s5, 0, none⟩) 1 1, .slice (some ⟨t5, 0, none⟩) 4 4, .int .i64 3, .slice (some ⟨r6, 0, none⟩) 3 3, .slice (some ⟨s6, 0, none⟩) 1 1, .slice (some ⟨t6, 0, none⟩) 4 4, .int .i64 3, .slice (some ⟨r7, 0, none⟩) 3 3, .slice (some ⟨s7, 0, none⟩) 1 1, .slice (some ⟨t7, 0, none⟩) 4 4, .int .i64 3, .slice (some ⟨r8, 0, none⟩) 3 3, .slice (some ⟨s8, 0, none⟩) 1 1, .slice (some ⟨t8, 0, none⟩) 4 4, .int .i64 3, .slice (some ⟨r9, 0, none⟩) 3 3, .slice (some ⟨s9, 0, none⟩) 1 1, .slice (some ⟨t9, 0, none⟩) 4 4] 26) kt3
  replace kr4 := blk_keep (.cells #[.int .i64 0, .slice none 0 0, .slice none 0 0, .slice none 0 0, .int .i64 3, .slice (some ⟨r1, 0, none⟩) 3 3, .slice (some ⟨s1, 0, none⟩) 1 1, .slice (some ⟨t1, 0, none⟩) 4 4, .int .i64 3, .slice (some ⟨r2, 0, none⟩) 3 3, .slice (some ⟨s2, 0, none⟩) 1 1, .slice (some ⟨t2, 0, none⟩) 4 4, .int .i64 3, .slice (some ⟨r3, 0, none⟩) 3 3, .slice (some ⟨s3, 0, none⟩) 1 1, .slice (some ⟨t3, 0, none⟩) 4 4, .int .i64 3, .slice (some ⟨r4, 0, none⟩) 3 3, .slice (some ⟨s4, 0, none⟩) 1 1, .slice (some ⟨t4, 0, none⟩) 4 4, .int .i64 3, .slice (some ⟨r5, 0, none⟩) 3 3, .slice (some ⟨s5, 0, none⟩) 1 1, .slice (some ⟨t5, 0, none⟩) 4 4, .int .i64 3, .slice (some ⟨r6, 0, none⟩) 3 3, .slice (some ⟨s6, 0, none⟩) 1 1, .slice (some ⟨t6, 0, none⟩) 4 4, .int .i64 3, .slice (some ⟨r7, 0, none⟩) 3 3, .slice (some ⟨s7, 0, none⟩) 1 1, .slice (some ⟨t7, 0, none⟩) 4 4, .int .i64 3, .slice (some ⟨r8, 0, none⟩) 3 3, .slice (some ⟨s8, 0, none⟩) 1 1, .slice (some ⟨t8, 0, none⟩) 4 4, .int .i64 3, .slice (some ⟨r9, 0, none⟩) 3 3, .slice (some ⟨s9, 0, none⟩) 1 1, .slice (some ⟨t9, 0, none⟩) 4 4] 26) kr4
  replace ks4 := blk_keep (.cells #[.int .i64 0, .slice none 0 0, .slice none 0 0, .slice none 0 0, .int .i64 3, .slice (some ⟨r1, 0, none⟩) 3 3, .slice (some ⟨s1, 0, none⟩) 1 1, .slice (some ⟨t1, 0, none⟩) 4 4, .int .i64 3, .slice (some ⟨r2, 0, none⟩) 3 3, .slice (some ⟨s2, 0, none⟩) 1 1, .slice (some ⟨t2, 0, none⟩) 4 4, .int .i64 3, .slice (some ⟨r3, 0, none⟩) 3 3, .slice (some ⟨s3, 0, none⟩) 1 1, .slice (some ⟨t3, 0, none⟩) 4 4, .int .i64 3, .slice (some ⟨r4, 0, none⟩) 3 3, .slice (some ⟨s4, 0, none⟩) 1 1, .slice (some ⟨t4, 0, none⟩) 4 4, .int .i64 3, .slice (some ⟨r5, 0, none⟩) 3 3, .slice (some ⟨s5, 0, none⟩) 1 1, .slice (some ⟨t5, 0, none⟩) 4 4, .int .i64 3, .slice (some ⟨r6, 0, none⟩) 3 3, .slice (some ⟨s6, 0, none⟩) 1 1, .slice (some ⟨t6, 0, none⟩) 4 4, .int .i64 3, .slice (some ⟨r7, 0, none⟩) 3 3, .slice (some ⟨s7, 0, none⟩) 1 1, .slice (some ⟨t7, 0, none⟩) 4 4, .int .i64 3, .slice (some ⟨r8, 0, none⟩) 3 3, .slice (some ⟨s8, 0, none⟩) 1 1, .slice (some ⟨t8, 0, none⟩) 4 4, .int .i64 3, .slice (some ⟨r9, 0, none⟩) 3 3, .slice (some ⟨s9, 0, none⟩) 1 1, .slice (some ⟨t9, 0, none⟩) 4 4] 26) ks4
  replace kt4 := blk_keep (.cells #[.int .i64 0, .slice none 0 0, .slice none 0 0, .slice none 0 0, .int .i64 3, .slice (some ⟨r1, 0, none⟩) 3 3, .slice (some ⟨s1, 0, none⟩) 1 1, .slice (some ⟨t1, 0, none⟩) 4 4, .int .i64 3, .slice (some ⟨r2, 0, none⟩) 3 3, .slice (some ⟨s2, 0, none⟩) 1 1, .slice (some ⟨t2, 0, none⟩) 4 4, .int .i64 3, .slice (some ⟨r3, 0, none⟩) 3 3, .slice (some ⟨s3, 0, none⟩) 1 1, .slice (some ⟨t3, 0, none⟩) 4 4, .int .i64 3, .slice (some ⟨r4, 0, none⟩) 3 3, .slice (some ⟨s4, 0, none⟩) 1 1, .slice (some ⟨t4, 0, none⟩) 4 4, .int .i64 3, .slice (some ⟨r5, 0, none⟩) 3 3, .slice (some ⟨s5, 0, none⟩) 1 1, .slice (some ⟨t5, 0, none⟩) 4 4, .int .i64 3, .slice (some ⟨r6, 0, none⟩) 3 3, .slice (some ⟨s6, 0, none⟩) 1 1, .slice (some ⟨t6, 0, none⟩) 4 4, .int .i64 3, .slice (some ⟨r7, 0, none⟩) 3 3, .slice (some ⟨s7, 0, none⟩) 1 1, .slice (some ⟨t7, 0, none⟩) 4 4, .int .i64 3, .slice (some ⟨r8, 0, none⟩) 3 3, .slice (some ⟨s8, 0, none⟩) 1 1, .slice (some ⟨t8, 0, none⟩) 4 4, .int .i64 3, .slice (some ⟨r9, 0, none⟩) 3 3, .slice (some ⟨s9, 0, none⟩) 1 1, .slice (some ⟨t9, 0, none⟩) 4 4] 26) kt4
  replace kr5 := blk_keep (.cells #[.int .i64 0, .slice none 0 0, .slice none 0 0, .slice none 0 0, .int .i64 3, .slice (some ⟨r1, 0, none⟩) 3 3, .slice (some ⟨s1, 0, none⟩) 1 1, .slice (some ⟨t1, 0, none⟩) 4 4, .int .i64 3, .slice (some ⟨r2, 0, none⟩) 3 3, .slice (some ⟨s2, 0, none⟩) 1 1, .slice (some ⟨t2, 0, none⟩) 4 4, .int .i64 3, .slice (some ⟨r3, 0, none⟩) 3 3, .slice (some ⟨s3, 0, none⟩) 1 1, .slice (some ⟨t3, 0, none⟩) 4 4, .int .i64 3, .slice (some ⟨r4, 0, none⟩) 3 3, .slice (some ⟨s4, 0, none⟩) 1 1, .slice (some ⟨t4, 0, none⟩) 4 4, .int .i64 3, .slice (some ⟨r5, 0, none⟩) 3 3, .slice (some ⟨s5, 0, none⟩) 1 1, .slice (some ⟨t5, 0, none⟩) 4 4, .int .i64 3, .slice (some ⟨r6, 0, none⟩) 3 3, .slice (some ⟨s6, 0, none⟩) 1 1, .slice (some ⟨t6, 0, none⟩) 4 4, .int .i64 3, .slice (some ⟨r7, 0, none⟩) 3 3, .slice (some ⟨s7, 0, none⟩) 1 1, .slice (some ⟨t7, 0, none⟩) 4 4, .int .i64 3, .slice (some ⟨r8, 0, none⟩) 3 3, .slice (some ⟨s8, 0, none⟩) 1 1, .slice (some ⟨t8, 0, none⟩) 4 4, .int .i64 3, .slice (some ⟨r9, 0, none⟩) 3 3, .slice (some ⟨s9, 0, none⟩) 1 1, .slice (some ⟨t9, 0, none⟩) 4 4] 26) kr5
  replace ks5 := blk_keep (.cells #[.int .i64 0, .slice none 0 0, .slice none 0 0, .slice none 0 0, .int .i64 3, .slice (some ⟨r1, 0, none⟩) 3 3, .slice (some ⟨s1, 0, none⟩) 1 1, .slice (some ⟨t1, 0, none⟩) 4 4, .int .i64 3, .slice (some ⟨r2, 0, none⟩) 3 3, .slice (some ⟨s2, 0, none⟩) 1 1, .slice (some ⟨t2, 0, none⟩) 4 4, .int .i64 3, .slice (some ⟨r3, 0, none⟩) 3 3, .slice (some ⟨s3, 0, none⟩) 1 1, .slice (some ⟨t3, 0, none⟩) 4 4, .int .i64 3, .slice (some ⟨r4, 0, none⟩) 3 3, .slice (some ⟨s4, 0, none⟩) 1 1, .slice (some ⟨t4, 0, none⟩) 4 4, .int .i64 3, .slice (some ⟨r5, 0, none⟩) 3 3, .slice (some ⟨s5, 0, none⟩) 1 1, .slice (some ⟨t5, 0, none⟩) 4 4, .int .i64 3, .slice (some ⟨r6, 0, none⟩) 3 3, .slice (some ⟨s6, 0, none⟩) 1 1, .slice (some ⟨t6, 0, none⟩) 4 4, .int .i64 3, .slice (some ⟨r7, 0, none⟩) 3 3, .slice (some ⟨s7, 0, none⟩) 1 1, .slice (some ⟨t7, 0, none⟩) 4 4, .int .i64 3, .slice (some ⟨r8, 0, none⟩) 3 3, .slice (some ⟨s8, 0, none⟩) 1 1, .slice (some ⟨t8, 0, none⟩) 4 4, .int .i64 3, .slice (some ⟨r9, 0, none⟩) 3 3, .slice (some ⟨s9, 0, none⟩) 1 1, .slice (some ⟨t9, 0, none⟩) 4 4] 26) ks5
  replace kt5 := blk_keep (.cells #[.int .i64 0, .slice none 0 0, .slice none 0 0, .slice none 0 0, .int .i64 3, .slice (some ⟨r1, 0, none⟩) 3 3, .slice (some ⟨s1, 0, none⟩) 1 1, .slice (some ⟨t1, 0, none⟩) 4 4, .int .i64 3, .slice (some ⟨r2, 0, none⟩) 3 3, .slice (some ⟨s2, 0, none⟩) 1 1, .slice (some ⟨t2, 0, none⟩) 4 4, .int .i64 3, .slice (some ⟨r3, 0, none⟩) 3 3, .slice (some ⟨s3, 0, none⟩) 1 1, .slice (some ⟨t3, 0, none⟩) 4 4, .int .i64 3, .slice (some ⟨r4, 0, none⟩) 3 3, .slice (some ⟨s4, 0, none⟩) 1 1, .slice (some ⟨t4, 0, none⟩) 4 4, .int .i64 3, .slice (some ⟨r5, 0, none⟩) 3 3, .slice (some ⟨s5, 0, none⟩) 1 1, .slice (some ⟨t5, 0, none⟩) 4 4, .int .i64 3, .slice (some ⟨r6, 0, none⟩) 3 3, .slice (some ⟨s6, 0, none⟩) 1 1, .slice (some ⟨t6, 0, none⟩) 4 4, .int .i64 3, .slice (some ⟨r7, 0, none⟩) 3 3, .slice (some ⟨s7, 0, none⟩) 1 1, .slice (some ⟨t7, 0, none⟩) 4 4, .int .i64 3, .slice (some ⟨r8, 0, none⟩) 3 3, .slice (some ⟨s8, 0, none⟩) 1 1, .slice (some ⟨t8, 0, none⟩) 4 4, .int .i64 3, .slice (some ⟨r9, 0, none⟩) 3 3, .slice (some ⟨s9, 0, none⟩) 1 1, .slice (some ⟨t9, 0, none⟩) 4 4] 26) kt5
  replace kr6 := blk_keep (.cells #[.int .i64 0, .slice none 0 0, .slice none 0 0, .slice none 0 0, .int .i64 3, .slice (some ⟨r1, 0, none⟩) 3 3, .slice (some ⟨s1, 0, none⟩) 1 1, .slice (some ⟨t1, 0, none⟩) 4 4, .int .i64 3, .slice (some ⟨r2, 0, none⟩) 3 3, .slice (some ⟨s2, 0, none⟩) 1 1, .slice (some ⟨t2, 0, none⟩) 4 4, .int .i64 3, .slice (some ⟨r3, 0, none⟩) 3 3, .slice (some ⟨s3, 0, none⟩) 1 1, .slice (some ⟨t3, 0, none⟩) 4 4, .int .i64 3, .slice (some ⟨r4, 0, none⟩) 3 3, .slice (some ⟨s4, 0, none⟩) 1 1, .slice (some ⟨t4, 0, none⟩) 4 4, .int .i64 3, .slice (some ⟨r5, 0, none⟩) 3 3, .slice (some ⟨s5, 0, none⟩) 1 1, .slice (some ⟨t5, 0, none⟩) 4 4, .int .i64 3, .slice (some ⟨r6, 0, none⟩) 3 3, .slice (some ⟨s6, 0, none⟩) 1 1, .slice (some ⟨t6, 0, none⟩) 4 4, .int .i64 3, .slice (some ⟨r7, 0, none⟩) 3 3, .slice (some ⟨s7, 0, none⟩) 1 1, .slice (some ⟨t7, 0, none⟩) 4 4, .int .i64 3, .slice (some ⟨r8, 0, none⟩) 3 3, .slice (some ⟨s8, 0, none⟩) 1 1, .slice (some ⟨t8, 0, none⟩) 4 4, .int .i64 3, .slice (some ⟨r9, 0, none⟩) 3 3, .slice (some ⟨s9, 0, none⟩) 1 1, .slice (some ⟨t9, 0, none⟩) 4 4] 26) kr6
  replace ks6 := blk_keep (.cells #[.int .i64 0, .slice none 0 0, .slice none 0 0, .slice none 0 0, .int .i64 3, .slice (some ⟨r1, 0, none⟩) 3 3, .slice (some ⟨s1, 0, none⟩) 1 1, .slice (some ⟨t1, 0, none⟩) 4 4, .int .i64 3, .slice (some ⟨r2, 0, none⟩) 3 3, .slice (some ⟨s2, 0, none⟩) 1 1, .slice (some ⟨t2, 0, none⟩) 4 4, .int .i64 3, .slice (some ⟨r3, 0, none⟩) 3 3, .slice (some ⟨s3, 0, none⟩) 1 1, .slice (some ⟨t3, 0, none⟩) 4 4, .int .i64 3, .slice (some ⟨r4, 0, none⟩) 3 3, .slice (some ⟨s4, 0, none⟩) 1 1, .slice (some ⟨t4, 0, none⟩) 4 4, .int .i64 3, .slice (some ⟨r5, 0, none⟩) 3 3, .slice (some ⟨s5, 0, none⟩) 1 1, .slice (some ⟨t5, 0, none⟩) 4 4, .int .i64 3, .slice (some ⟨r6, 0, none⟩) 3 3, .slice (some ⟨s6, 0, none⟩) 1 1, .slice (some ⟨t6, 0, none⟩) 4 4, .int .i64 3, .slice (some ⟨r7, 0, none⟩) 3 3, .slice (some ⟨s7, 0, none⟩) 1 1, .slice (some ⟨t7, 0, none⟩) 4 4, .int .i64 3, .slice (some ⟨r8, 0, none⟩) 3 3, .slice (some ⟨s8, 0, none⟩) 1 1, .slice (some ⟨t8, 0, none⟩) 4 4, .int .i64 3, .slice (some ⟨r9, 0, none⟩) 3 3, .slice (some ⟨s9, 0, none⟩) 1 1, .slice (some ⟨t9, 0, none⟩) 4 4] 26) ks6
  replace kt6 := blk_keep (.cells #[.int .i64 0, .slice none 0 0, .slice none 0 0, .slice none 0 0, .int .i64 3, .slice (some ⟨r1, 0, none⟩) 3 3, .slice (some ⟨s1, 0, none⟩) 1 1, .slice (some ⟨t1, 0, none⟩) 4 4, .int .i64 3, .slice (some ⟨r2, 0, none⟩) 3 3, .slice (some ⟨s2, 0, none⟩) 1 1, .slice (some ⟨t2, 0, none⟩) 4 4, .int .i64 3, .slice (some ⟨r3, 0, none⟩) 3 3, .slice (some ⟨s3, 0, none⟩) 1 1, .slice (some ⟨t3, 0, none⟩) 4 4, .int .i64 3, .slice (some ⟨r4, 0, none⟩) 3 3, .slice (some ⟨s4, 0, none⟩) 1 1, .slice (some ⟨t4, 0, none⟩) 4 4, .int .i64 3, .slice (some ⟨r5, 0, none⟩) 3 3, .slice (some ⟨s5, 0, none⟩) 1 1, .slice (some ⟨t5, 0, none⟩) 4 4, .int .i64 3, .slice (some ⟨r6, 0, none⟩) 3 3, .slice (some ⟨s6, 0, none⟩) 1 1, .slice (some ⟨t6, 0, none⟩) 4 4, .int .i64 3, .slice (some ⟨r7, 0, none⟩) 3 3, .slice (some ⟨s7, 0, none⟩) 1 1, .slice (some ⟨t7, 0, none⟩) 4 4, .int .i64 3, .slice (some ⟨r8, 0, none⟩) 3 3, .slice (some ⟨s8, 0, none⟩) 1 1, .slice (some ⟨t8, 0, none⟩) 4 4, .int .i64 3, .slice (some ⟨r9, 0, none⟩) 3 3, .slice (some ⟨s9, 0, none⟩) 1 1, .slice (some ⟨t9, 0, none⟩) 4 4] 26) kt6
  replace kr7 := blk_keep (.cells #[.int .i64 0, .slice none 0 0, .slice none 0 0, .slice none 0 0, .int .i64 3, .slice (some ⟨r1, 0, none⟩) 3 3, .slice (some ⟨s1, 0, none⟩) 1 1, .slice (some ⟨t1, 0, none⟩) 4 4, .int .i64 3, .slice (some ⟨r2, 0, none⟩) 3 3, .slice (some ⟨s2, 0, none⟩) 1 1, .slice (some ⟨t2, 0, none⟩) 4 4, .int .i64 3, .slice (some ⟨r3, 0, none⟩) 3 3, .slice (some ⟨s3, 0, none⟩) 1 1, .slice (some ⟨t3, 0, none⟩) 4 4, .int .i64 3, .slice (some ⟨r4, 0, none⟩) 3 3, .slice (some ⟨s4, 0, none⟩) 1 1, .slice (some ⟨t4, 0, none⟩) 4 4, .int .i64 3, .slice (some ⟨r5, 0, none⟩) 3 3, .slice (some ⟨s5, 0, none⟩) 1 1, .slice (some ⟨t5, 0, none⟩) 4 4, .int .i64 3, .slice (some ⟨r6, 0, none⟩) 3 3, .slice (some ⟨s6, 0, none⟩) 1 1, .slice (some ⟨t6, 0, none⟩) 4 4, .int .i64 3, .slice (some ⟨r7, 0, none⟩) 3 3, .slice (some ⟨s7, 0, none⟩) 1 1, .slice (some ⟨t7, 0, none⟩) 4 4, .int .i64 3, .slice (some ⟨r8, 0, none⟩) 3 3, .slice (some ⟨s8, 0, none⟩) 1 1, .slice (some ⟨t8, 0, none⟩) 4 4, .int .i64 3, .slice (some ⟨r9, 0, none⟩) 3 3, .slice (some ⟨s9, 0, none⟩) 1 1, .slice (some ⟨t9, 0, none⟩) 4 4] 26) kr7
  replace ks7 := blk_keep (.cells #[.int .i64 0, .slice none 0 0, .slice none 0 0, .slice none 0 0, .int .i64 3, .slice (some ⟨r1, 0, none⟩) 3 3, .slice (some ⟨s1, 0, none⟩) 1 1, .slice (some ⟨t1, 0, none⟩) 4 4, .int .i64 3, .slice (some ⟨r2, 0, none⟩) 3 3, .slice (some ⟨s2, 0, none⟩) 1 1, .slice (some ⟨t2, 0, none⟩) 4 4, .int .i64 3, .slice (some ⟨r3, 0, none⟩) 3 3, .slice (some ⟨s3, 0, none⟩) 1 1, .slice (some ⟨t3, 0, none⟩) 4 4, .int .i64 3, .slice (some ⟨r4, 0, none⟩) 3 3, .slice (some ⟨s4, 0, none⟩) 1 1, .slice (some ⟨t4, 0, none⟩) 4 4, .int .i64 3, .slice (some ⟨r5, 0, none⟩) 3 3, .slice (some ⟨s5, 0, none⟩) 1 1, .slice (some ⟨t5, 0, none⟩) 4 4, .int .i64 3, .slice (some ⟨r6, 0, none⟩) 3 3, .slice (some ⟨s6, 0, none⟩) 1 1, .slice (some ⟨t6, 0, none⟩) 4 4, .int .i64 3, .slice (some ⟨r7, 0, none⟩) 3 3, .slice (some ⟨s7, 0, none⟩) 1 1, .slice (some ⟨t7, 0, none⟩) 4 4, .int .i64 3, .slice (some ⟨r8, 0, none⟩) 3 3, .slice (some ⟨s8, 0, none⟩) 1 1, .slice (some ⟨t8, 0, none⟩) 4 4, .int .i64 3, .slice (some ⟨r9, 0, none⟩) 3 3, .slice (some ⟨s9, 0, none⟩) 1 1, .slice (some ⟨t9, 0, none⟩) 4 4] 26) ks7
  replace kt7 := blk_keep (.cells #[.int .i64 0, .slice none 0 0, .slice none 0 0, .slice none 0 0, .int .i64 3, .slice (some ⟨r1, 0, none⟩) 3 3, .slice (some ⟨s1, 0, none⟩) 1 1, .slice (some ⟨t1, 0, none⟩) 4 4, .int .i64 3, .slice (some ⟨r2, 0, none⟩) 3 3, .slice (some ⟨s2, 0, none⟩) 1 1, .slice (some ⟨t2, 0, none⟩) 4 4, .int .i64 3, .slice (some ⟨r3, 0, none⟩) 3 3, .slice (some ⟨s3, 0, none⟩) 1 1, .slice (some ⟨t3, 0, none⟩) 4 4, .int .i64 3, .slice (some ⟨r4, 0, none⟩) 3 3, .slice (some ⟨s4, 0, none⟩) 1 1, .slice (some ⟨t4, 0, none⟩) 4 4, .int .i64 3, .slice (some ⟨r5, 0, none⟩) 3 3, .slice (some ⟨s5, 0, none⟩) 1 1, .slice (some ⟨t5, 0, none⟩) 4 4, .int .i64 3, .slice (some ⟨r6, 0, none⟩) 3 3, .slice (some ⟨s6, 0, none⟩) 1 1, .slice (some ⟨t6, 0, none⟩) 4 4, .int .i64 3, .slice (some ⟨r7, 0, none⟩) 3 3, .slice (some ⟨s7, 0, none⟩) 1 1, .slice (some ⟨t7, 0, none⟩) 4 4, .int .i64 3, .slice (some ⟨r8, 0, none⟩) 3 3, .slice (some ⟨s8, 0, none⟩) 1 1, .slice (some ⟨t8, 0, none⟩) 4 4, .int .i64 3, .slice (some ⟨r9, 0, none⟩) 3 3, .slice (some ⟨s9, 0, none⟩) 1 1, .slice (some ⟨t9, 0, none⟩) 4 4] 26) kt7
  replace kr8 := blk_keep (.cells #[.int .i64 0, .slice none 0 0, .slice none 0 0, .slice none 0 0, .int .i64 3, .slice (some ⟨r1, 0, none⟩) 3 3, .slice (some ⟨s1, 0, none⟩) 1 1, .slice (some ⟨t1, 0, none⟩) 4 4, .int .i64 3, .slice (some ⟨r2, 0, none⟩) 3 3, .slice (some ⟨s2, 0, none⟩) 1 1, .slice (some ⟨t2, 0, none⟩) 4 4, .int .i64 3, .slice (some ⟨r3, 0, none⟩) 3 3, .slice (some ⟨s3, 0, none⟩) 1 1, .slice (some ⟨t3, 0, none⟩) 4 4, .int .i64 3, .slice (some ⟨r4, 0, none⟩) 3 3, .slice (some ⟨s4, 0, none⟩) 1 1, .slice (some ⟨t4, 0, none⟩) 4 4, .int .i64 3, .slice (some ⟨r5, 0, none⟩) 3 3, .slice (some ⟨s5, 0, none⟩) 1 1, .slice (some ⟨t5, 0, none⟩) 4 4, .int .i64 3, .slice (some ⟨r6, 0, none⟩) 3 3, .slice (some ⟨s6, 0, none⟩) 1 1, .slice (some ⟨t6, 0, none⟩) 4 4, .int .i64 3, .slice (some ⟨r7, 0, none⟩) 3 3, .slice (some ⟨s7, 0, none⟩) 1 1, .slice (some ⟨t7, 0, none⟩) 4 4, .int .i64 3, .slice (some ⟨r8, 0, none⟩) 3 3, .slice (some ⟨s8, 0, none⟩) 1 1, .slice (some ⟨t8, 0, none⟩) 4 4, .int .i64 3, .slice (some ⟨r9, 0, none⟩) 3 3, .slice (some ⟨s9, 0, none⟩) 1 1, .slice (some ⟨t9, 0, none⟩) 4 4] 26) kr8
  replace ks8 := blk_keep (.cells #[.int .i64 0, .slice none 0 0, .slice none 0 0, .slice none 0 0, .int .i64 3, .slice (some ⟨r1, 0, none⟩) 3 3, .slice (some ⟨s1, 0, none⟩) 1 1, .slice (some ⟨t1, 0, none⟩) 4 4, .int .i64 3, .slice (some ⟨r2, 0, none⟩) 3 3, .slice (some ⟨s2, 0, none⟩) 1 1, .slice (some ⟨t2, 0, none⟩) 4 4, .int .i64 3, .slice (some ⟨r3, 0, none⟩) 3 3, .slice (some ⟨s3, 0, none⟩) 1 1, .slice (some ⟨t3, 0, none⟩) 4 4, .int .i64 3, .slice (some ⟨r4, 0, none⟩) 3 3, .slice (some ⟨s4, 0, none⟩) 1 1, .slice (some ⟨t4, 0, none⟩) 4 4, .int .i64 3, .slice (some ⟨r5, 0, none⟩) 3 3, .slice (some ⟨s5, 0, none⟩) 1 1, .slice (some ⟨t5, 0, none⟩) 4 4, .int .i64 3, .slice (some ⟨r6, 0, none⟩) 3 3, .slice (some ⟨s6, 0, none⟩) 1 1, .slice (some ⟨t6, 0, none⟩) 4 4, .int .i64 3, .slice (some ⟨r7, 0, none⟩) 3 3, .slice (some ⟨s7, 0, none⟩) 1 1, .slice (some ⟨t7, 0, none⟩) 4 4, .int .i64 3, .slice (some ⟨r8, 0, none⟩) 3 3, .slice (some ⟨s8, 0, none⟩) 1 1, .slice (some ⟨t8, 0, none⟩) 4 4, .int .i64 3, .slice (some ⟨r9, 0, none⟩) 3 3, .slice (some ⟨s9, 0, none⟩) 1 1, .slice (some ⟨t9, 0, none⟩) 4 4] 26) ks8
  replace kt8 := blk_keep (.cells #[.int .i64 0, .slice none 0 0, .slice none 0 0, .slice none 0 0, .int .i64 3, .slice (some ⟨r1, 0, none⟩) 3 3, .slice (some ⟨s1, 0, none⟩) 1 1, .slice (some ⟨t1, 0, none⟩) 4 4, .int .i64 3, .slice (some ⟨r2, 0, none⟩) 3 3, .slice (some ⟨s2, 0, none⟩) 1 1, .slice (some ⟨t2, 0, none⟩) 4 4, .int .i64 3, .slice (some ⟨r3, 0, none⟩) 3 3, .slice (some ⟨s3, 0, none⟩) 1 1, .slice (some ⟨t3, 0, none⟩) 4 4, .int .i64 3, .slice (some ⟨r4, 0, none⟩) 3 3, .slice (some ⟨s4, 0, none⟩) 1 1, .slice (some ⟨t4, 0, none⟩) 4 4, .int .i64 3, .slice (some ⟨r5, 0, none⟩) 3 3, .slice (some ⟨s5, 0, none⟩) 1 1, .slice (some ⟨t5, 0, none⟩) 4 4, .int .i64 3, .slice (some ⟨r6, 0, none⟩) 3 3, .slice (some ⟨s6, 0, none⟩) 1 1, .slice (some ⟨t6, 0, none⟩) 4 4, .int .i64 3, .slice (some ⟨r7, 0, none⟩) 3 3, .slice (some ⟨s7, 0, none⟩) 1 1, .slice (some ⟨t7, 0, none⟩) 4 4, .int .i64 3, .slice (some ⟨r8, 0, none⟩) 3 3, .slice (some ⟨s8, 0, none⟩) 1 1, .slice (some ⟨t8, 0, none⟩) 4 4, .int .i64 3, .slice (some ⟨r9, 0, none⟩) 3 3, .slice (some ⟨s9, 0, none⟩) 1 1, .slice (some ⟨t9, 0, none⟩) 4 4] 26) kt8
  replace kr9 := blk_keep (.cells #[.int .i64 0, .slice none 0 0, .slice none 0 0, .slice none 0 0, .int .i64 3, .slice (some ⟨r1, 0, none⟩) 3 3, .slice (some ⟨s1, 0, none⟩) 1 1, .slice (some ⟨t1, 0, none⟩) 4 4, .int .i64 3, .slice (some ⟨r2, 0, none⟩) 3 3, .slice (some ⟨s2, 0, none⟩) 1 1, .slice (some ⟨t2, 0, none⟩) 4 4, .int .i64 3, .slice (some ⟨r3, 0, none⟩) 3 3, .slice (some ⟨s3, 0, none⟩) 1 1, .slice (some ⟨t3, 0, none⟩) 4 4, .int .i64 3, .slice (some ⟨r4, 0, none⟩) 3 3, .slice (some ⟨s4, 0, none⟩) 1 1, .slice (some ⟨t4, 0, none⟩) 4 4, .int .i64 3, .slice (some ⟨r5, 0, none⟩) 3 3, .slice (some ⟨s5, 0, none⟩) 1 1, .slice (some ⟨t5, 0, none⟩) 4 4, .int .i64 3, .slice (some ⟨r6, 0, none⟩) 3 3, .slice (some ⟨s6, 0, none⟩) 1 1, .slice (some ⟨t6, 0, none⟩) 4 4, .int .i64 3, .slice (some ⟨r7, 0, none⟩) 3 3, .slice (some ⟨s7, 0, none⟩) 1 1, .slice (some ⟨t7, 0, none⟩) 4 4, .int .i64 3, .slice (some ⟨r8, 0, none⟩) 3 3, .slice (some ⟨s8, 0, none⟩) 1 1, .slice (some ⟨t8, 0, none⟩) 4 4, .int .i64 3, .slice (some ⟨r9, 0, none⟩) 3 3, .slice (some ⟨s9, 0, none⟩) 1 1, .slice (some ⟨t9, 0, none⟩) 4 4] 26) kr9
  replace ks9 := blk_keep (.cells #[.int .i64 0, .slice none 0 0, .slice none 0 0, .slice none 0 0, .int .i64 3, .slice (some ⟨r1, 0, none⟩) 3 3, .slice (some ⟨s1, 0, none⟩) 1 1, .slice (some ⟨t1, 0, none⟩) 4 4, .int .i64 3, .slice (some ⟨r2, 0, none⟩) 3 3, .slice (some ⟨s2, 0, none⟩) 1 1, .slice (some ⟨t2, 0, none⟩) 4 4, .int .i64 3, .slice (some ⟨r3, 0, none⟩) 3 3, .slice (some ⟨s3, 0, none⟩) 1 1, .slice (some ⟨t3, 0, none⟩) 4 4, .int .i64 3, .slice (some ⟨r4, 0, none⟩) 3 3, .slice (some ⟨s4, 0, none⟩) 1 1, .slice (some ⟨t4, 0, none⟩) 4 4, .int .i64 3, .slice (some ⟨r5, 0, none⟩) 3 3, .slice (some ⟨s5, 0, none⟩) 1 1, .slice (some ⟨t5, 0, none⟩) 4 4, .int .i64 3, .slice (some ⟨r6, 0, none⟩) 3 3, .slice (some ⟨s6, 0, none⟩) 1 1, .slice (some ⟨t6, 0, none⟩) 4 4, .int .i64 3, .slice (some ⟨r7, 0, none⟩) 3 3, .slice (some ⟨s7, 0, none⟩) 1 1, .slice (some ⟨t7, 0, none⟩) 4 4, .int .i64 3, .slice (some ⟨r8, 0, none⟩) 3 3, .slice (some ⟨s8, 0, none⟩) 1 1, .slice (some ⟨t8, 0, none⟩) 4 4, .int .i64 3, .slice (some ⟨r9, 0, none⟩) 3 3, .slice (some ⟨s9, 0, none⟩) 1 1, .slice (some ⟨t9, 0, none⟩) 4 4] 26) ks9
  replace kt9 := blk_keep (.cells #[.int .i64 0, .slice none 0 0, .slice none 0 0, .slice none 0 0, .int .i64 3, .slice (some ⟨r1, 0, none⟩) 3 3, .slice (some ⟨s1, 0, none⟩) 1 1, .slice (some ⟨t1, 0, none⟩) 4 4, .int .i64 3, .slice (some ⟨r2, 0, none⟩) 3 3, .slice (some ⟨s2, 0, none⟩) 1 1, .slice (some ⟨t2, 0, none⟩) 4 4, .int .i64 3, .slice (some ⟨r3, 0, none⟩) 3 3, .slice (some ⟨s3, 0, none⟩) 1 1, .slice (some ⟨t3, 0, none⟩) 4 4, .int .i64 3, .slice (some ⟨r4, 0, none⟩) 3 3, .slice (some ⟨s4, 0, none⟩) 1 1, .slice (some ⟨t4, 0, none⟩) 4 4, .int .i64 3, .slice (some ⟨r5, 0, none⟩) 3 3, .slice (some ⟨s5, 0, none⟩) 1 1, .slice (some ⟨t5, 0, none⟩) 4 4, .int .i64 3, .slice (some ⟨r6, 0, none⟩) 3 3, .slice (some ⟨s6, 0, none⟩) 1 1, .slice (some ⟨t6, 0, none⟩) 4 4, .int .i64 3, .slice (some ⟨r7, 0, none⟩) 3 3, .slice (some ⟨s7, 0, none⟩) 1 1, .slice (some ⟨t7, 0, none⟩) 4 4, .int .i64 3, .slice (some ⟨r8, 0, none⟩) 3 3, .slice (some ⟨s8, 0, none⟩) 1 1, .slice (some ⟨t8, 0, none⟩) 4 4, .int .i64 3, .slice (some ⟨r9, 0, none⟩) 3 3, .slice (some ⟨s9, 0, none⟩) 1 1, .slice (some ⟨t9, 0, none⟩) 4 4] 26) kt9
  replace U := U.alloc (.cells #[.int .i64 0, .slice none 0 0, .slice none 0 0, .slice none 0 0, .int .i64 3, .slice (some ⟨r1, 0, none⟩) 3 3, .slice (some ⟨s1, 0, none⟩) 1 1, .slice (some ⟨t1, 0, none⟩) 4 4, .int .i64 3, .slice (some ⟨r2, 0, none⟩) 3 3, .slice (some ⟨s2, 0, none⟩) 1 1, .slice (some ⟨t2, 0, none⟩) 4 4, .int .i64 3, .slice (some ⟨r3, 0, none⟩) 3 3, .slice (some ⟨s3, 0, none⟩) 1 1, .slice (some ⟨t3, 0, none⟩) 4 4, .int .i64 3, .slice (some ⟨r4, 0, none⟩) 3 3, .slice (some ⟨s4, 0, none⟩) 1 1, .slice (some ⟨t4, 0, none⟩) 4 4, .int .i64 3, .slice (some ⟨r5, 0, none⟩) 3 3, .slice (some ⟨s5, 0, none⟩) 1 1, .slice (some ⟨t5, 0, none⟩) 4 4, .int .i64 3, .slice (some ⟨r6, 0, none⟩) 3 3, .slice (some ⟨s6, 0, none⟩) 1 1, .slice (some ⟨t6, 0, none⟩) 4 4, .int .i64 3, .slice (some ⟨r7, 0, none⟩) 3 3, .slice (some ⟨s7, 0, none⟩) 1 1, .slice (some ⟨t7, 0, none⟩) 4 4, .int .i64 3, .slice (some ⟨r8, 0, none⟩) 3 3, .slice (some ⟨s8, 0, none⟩) 1 1, .slice (some ⟨t8, 0, none⟩) 4 4, .int .i64 3, .slice (some ⟨r9, 0, none⟩) 3 3, .slice (some ⟨s9, 0, none⟩) 1 1, .slice (some ⟨t9, 0, none⟩) 4 4] 26)
  go_upto_region 2 with (fail)
  obtain ⟨q, hq⟩ : ∃ q, x17.heap.size = q := ⟨_, rfl⟩
  obtain ⟨W1, hW⟩ : ∃ z, x17.alloc (.cells #[.int .i64 0, .slice none 0 0, .slice none 0 0, .slice none 0 0, .int .i64 3, .slice (some ⟨r1, 0, none⟩) 3 3, .slice (some ⟨s1, 0, none⟩) 1 1, .slice (some ⟨t1, 0, none⟩) 4 4, .int .i64 3, .slice (some ⟨r2, 0, none⟩) 3 3, .slice (some ⟨s2, 0, none⟩) 1 1, .slice (some ⟨t2, 0, none⟩) 4 4, .int .i64 3, .slice (some ⟨r3, 0, none⟩) 3 3, .slice (some ⟨s3, 0, none⟩) 1 1, .slice (some ⟨t3, 0, none⟩) 4 4, .int .i64 3, .slice (some ⟨r4, 0, none⟩) 3 3, .slice (some ⟨s4, 0, none⟩) 1 1, .slice (some ⟨t4, 0, none⟩) 4 4, .int .i64 3, .slice (some ⟨r5, 0, none⟩) 3 3, .slice (some ⟨s5, 0, none⟩) 1 1, .slice (some ⟨t5, 0, none⟩) 4 4, .int .i64 3, .slice (some ⟨r6, 0, none⟩) 3 3, .slice (some ⟨s6, 0, none⟩) 1 1, .slice (some ⟨t6, 0, none⟩) 4 4, .int .i64 3, .slice (some ⟨r7, 0, none⟩) 3 3, .slice (some ⟨s7, 0, none⟩) 1 1, .slice (some ⟨t7, 0, none⟩) 4 4, .int .i64 3, .slice (some ⟨r8, 0, none⟩) 3 3, .slice (some ⟨s8, 0, none⟩) 1 1, .slice (some ⟨t8, 0, none⟩) 4 4, .int .i64 3, .slice (some ⟨r9, 0, none⟩) 3 3, .slice (some ⟨s9, 0, none⟩) 1 1, .slice (some ⟨t9, 0, none⟩) 4 4] 26) = z := ⟨_, rfl⟩
  rw [hq] at kq z10 yr9_10 ys9_10 yt9_10
  rw [hW] at kq U kr1 ks1 kt1 kr2 ks2 kt2 kr3 ks3 kt3 kr4 ks4 kt4 kr5 ks5 kt5 kr6 ks6 kt6 kr7 ks7 kt7 kr8 ks8 kt8 kr9 ks9 kt9
  rw [hW, hq]
  clear hW hq
  have HA := Lib.hid (And.intro kr1 (And.intro ks1 (And.intro kt1 (And.intro kr2 (And.intro ks2 (And.intro kt2 (And.intro kr3 (And.intro ks3 (And.intro kt3 (And.intro kr4 (And.intro ks4 (And.intro kt4 (And.intro kr5 (And.intro ks5 (And.intro kt5 (And.intro kr6 (And.intro ks6 (And.intro kt6 (And.intro kr7 (And.intro ks7 (And.intro kt7 (And.intro kr8 (And.intro ks8 (And.intro kt8 (And.intro kr9 (And.intro ks9 kt9))))))))))))))))))))))))))
  clear kr1
  clear ks1
  clear kt1
  clear ks2
  clear kt2
  clear kr3
  clear kt3
  clear kr4
  clear kt4
  clear kr5
  clear kt5
  clear kr6
  clear ks6
  clear kr7
  clear ks7
  clear kr8
  clear ks8
  clear kr9
  clear ks9
  have LT : r1 < s1 ∧ s1 < t1 ∧ t1 < r2 ∧ r2 < s2 ∧ s2 < t2 ∧ t2 < r3 ∧ r3 < s3 ∧ s3 < t3 ∧ t3 < r4 ∧ r4 < s4 ∧ s4 < t4 ∧ t4 < r5 ∧ r5 < s5 ∧ s5 < t5 ∧ t5 < r6 ∧ r6 < s6 ∧ s6 < t6 ∧ t6 < r7 ∧ r7 < s7 ∧ s7 < t7 ∧ t7 < r8 ∧ r8 < s8 ∧ s8 < t8 ∧ t8 < r9 ∧ r9 < s9 ∧ s9 < t9 ∧ t9 < q ∧ w0.heap.size < r1 := by refine ⟨?_, ?_, ?_, ?_, ?_, ?_, ?_, ?_, ?_, ?_, ?_, ?_, ?_, ?_, ?_, ?_, ?_, ?_, ?_, ?_, ?_, ?_, ?_, ?_, ?_, ?_, ?_, ?_⟩ <;> omega
  clear z1 z2 z3 z4 z5 z6 z7 z8 z9 z10 yr1_2 ys1_2 yt1_2 yr2_3 ys2_3 yt2_3 yr3_4 ys3_4 yt3_4 yr4_5 ys4_5 yt4_5 yr5_6 ys5_6 yt5_6 yr6_7 ys6_7 yt6_7 yr7_8 ys7_8 yt7_8 yr8_9 ys8_9 yt8_9 yr9_10 ys9_10 yt9_10 nr1 ns1 nt1 nr2 ns2 nt2 nr3 ns3 nt3 nr4 ns4 nt4 nr5 ns5 nt5 nr6 ns6 nt6 nr7 ns7 nt7 nr8 ns8 nt8 nr9 ns9 nt9
  have HP := Lib.hid (show T.Kc (fun b => b = q ∨ b = r2 ∨ b = s3 ∨ b = s4 ∨ b = s5 ∨ b = t6 ∨ b = t7 ∨ b = t8 ∨ b = t9) W1 W1 from T.kc_refl _)
  have HLT := Lib.hid LT
  clear LT
  have zf := frozB kq
  go_upto_region 3 with (fail)
  clear zf
  obtain ⟨W2, hW⟩ : ∃ z, (W1.setCell ⟨q, 4, none⟩ (.int .i64 13)) = z := ⟨_, rfl⟩
  replace U : Up w0 W2 := by rw [← hW]; exact (Up.set U (p := ⟨q, 4, none⟩) (show w0.heap.size ≤ q by have := HLT.out; omega) (.int .i64 13))
  replace HP := Lib.hid (show T.Kc (fun b => b = q ∨ b = r2 ∨ b = s3 ∨ b = s4 ∨ b = s5 ∨ b = t6 ∨ b = t7 ∨ b = t8 ∨ b = t9) W1 W2 by rw [← hW]; exact T.kc_t (HP.out) (T.kc_set ⟨q, 4, none⟩ (.int .i64 13) (by simp)))
  replace kq : mblk W2 q = some (.cells #[.int .i64 0, .slice none 0 0, .slice none 0 0, .slice none 0 0, .int .i64 13, .slice (some ⟨r1, 0, none⟩) 3 3, .slice (some ⟨s1, 0, none⟩) 1 1, .slice (some ⟨t1, 0, none⟩) 4 4, .int .i64 3, .slice (some ⟨r2, 0, none⟩) 3 3, .slice (some ⟨s2, 0, none⟩) 1 1, .slice (some ⟨t2, 0, none⟩) 4 4, .int .i64 3, .slice (some ⟨r3, 0, none⟩) 3 3, .slice (some ⟨s3, 0, none⟩) 1 1, .slice (some ⟨t3, 0, none⟩) 4 4, .int .i64 3, .slice (some ⟨r4, 0, none⟩) 3 3, .slice (some ⟨s4, 0, none⟩) 1 1, .slice (some ⟨t4, 0, none⟩) 4 4, .int .i64 3, .slice (some ⟨r5, 0, none⟩) 3 3, .slice (some ⟨s5, 0, none⟩) 1 1, .slice (some ⟨t5, 0, none⟩) 4 4, .int .i64 3, .slice (some ⟨r6, 0, none⟩) 3 3, .slice (some ⟨s6, 0, none⟩) 1 1, .slice (some ⟨t6, 0, none⟩) 4 4, .int .i64 3, .slice (some ⟨r7, 0, none⟩) 3 3, .slice (some ⟨s7, 0, none⟩) 1 1, .slice (some ⟨t7, 0, none⟩) 4 4, .int .i64 3, .slice (some ⟨r8, 0, none⟩) 3 3, .slice (some ⟨s8, 0, none⟩) 1 1, .slice (some ⟨t8, 0, none⟩) 4 4, .int .i64 3, .slice (some ⟨r9, 0, none⟩) 3 3, .slice (some ⟨s9, 0, none⟩) 1 1, .slice (some ⟨t9, 0, none⟩) 4 4] 26 (0, 0)) := by rw [← hW]; exact (blk_put kq 4 (.int .i64 13))
  replace kr2 : mblk W2 r2 = some (.cells #[.int .i64 (-2), .int .i64 3, .int .i64 0, .int .i64 1, .int .i64 (-10), .int .i64 10] 34 (0, 0)) := by rw [← hW]; exact ((blk_set _ _ _ _ (show r2 ≠ q by have := HLT.out; omega)).trans kr2)
  replace ks3 : mblk W2 s3 = some (.cells #[.int .i64 2, .int .i64 1, .int .i64 (-50), .int .i64 50] 63 (0, 0)) := by rw [← hW]; exact ((blk_set _ _ _ _ (show s3 ≠ q by have := HLT.out; omega)).trans ks3)
  replace ks4 : mblk W2 s4 = some (.cells #[.int .i64 2, .int .i64 1, .int .i64 (-50), .int .i64 50] 63 (0, 0)) := by rw [← hW]; exact ((blk_set _ _ _ _ (show s4 ≠ q by have := HLT.out; omega)).trans ks4)
  replace ks5 : mblk W2 s5 = some (.cells #[.int .i64 2, .int .i64 1, .int .i64 (-50), .int .i64 50] 63 (0, 0)) := by rw [← hW]; exact ((blk_set _ _ _ _ (show s5 ≠ q by have := HLT.out; omega)).trans ks5)
  replace kt6 : mblk W2 t6 = some (.cells #[.int .i64 0, .int .i64 0, .int .i64 (-1), .int .i64 100, .int .i64 104, .int .i64 1, .int .i64 0, .int .i64 1, .int .i64 40, .int .i64 44, .int .i64 3, .int .i64 1, .int .i64 (-1), .int .i64 60, .int .i64 61, .int .i64 3, .int .i64 2, .int .i64 1, .int .i64 5, .int .i64 5] 61 (0, 0)) := by rw [← hW]; exact ((blk_set _ _ _ _ (show t6 ≠ q by have := HLT.out; omega)).trans kt6)
  replace kt7 : mblk W2 t7 = some (.cells #[.int .i64 0, .int .i64 0, .int .i64 (-1), .int .i64 100, .int .i64 104, .int .i64 1, .int .i64 0, .int .i64 1, .int .i64 40, .int .i64 44, .int .i64 3, .int .i64 1, .int .i64 (-1), .int .i64 60, .int .i64 61, .int .i64 3, .int .i64 2, .int .i64 1, .int .i64 5, .int .i64 5] 61 (0, 0)) := by rw [← hW]; exact ((blk_set _ _ _ _ (show t7 ≠ q by have := HLT.out; omega)).trans kt7)
  replace kt8 : mblk W2 t8 = some (.cells #[.int .i64 0, .int .i64 0, .int .i64 (-1), .int .i64 100, .int .i64 104, .int .i64 1, .int .i64 0, .int .i64 1, .int .i64 40, .int .i64 44, .int .i64 3, .int .i64 1, .int .i64 (-1), .int .i64 60, .int .i64 61, .int .i64 3, .int .i64 2, .int .i64 1, .int .i64 5, .int .i64 5] 61 (0, 0)) := by rw [← hW]; exact ((blk_set _ _ _ _ (show t8 ≠ q by have := HLT.out; omega)).trans kt8)
  replace kt9 : mblk W2 t9 = some (.cells #[.int .i64 0, .int .i64 0, .int .i64 (-1), .int .i64 100, .int .i64 104, .int .i64 1, .int .i64 0, .int .i64 1, .int .i64 40, .int .i64 44, .int .i64 3, .int .i64 1, .int .i64 (-1), .int .i64 60, .int .i64 61, .int .i64 3, .int .i64 2, .int .i64 1, .int .i64 5, .int .i64 5] 61 (0, 0)) := by rw [← hW]; exact ((blk_set _ _ _ _ (show t9 ≠ q by have := HLT.out; omega)).trans kt9)
  rw [hW]
  clear hW
  have F302 := Lib.hid (fun w (u : Up W2 w) => cellB (u.blk kq))
  have F303 := Lib.hid (fun w (u : Up W2 w) => cellB (u.blk kr2))
  have F304 := Lib.hid (fun w (u : Up W2 w) => cellB (u.blk ks3))
  have F305 := Lib.hid (fun w (u : Up W2 w) => cellB (u.blk ks4))
  have F306 := Lib.hid (fun w (u : Up W2 w) => cellB (u.blk ks5))
  have F307 := Lib.hid (fun w (u : Up W2 w) => cellB (u.blk kt6))
  have F308 := Lib.hid (fun w (u : Up W2 w) => cellB (u.blk kt7))
  have F309 := Lib.hid (fun w (u : Up W2 w) => cellB (u.blk kt8))
  have F310 := Lib.hid (fun w (u : Up W2 w) => cellB (u.blk kt9))
  refine (wpIn_wide (n := 5)).1 ?_
  refine wpIn_nrm ?_
  refine T.regionQ (fun w' => Up W2 w') 6 1 hmx (by kernel_rfl) (by kernel_rfl) ((Up.refl W2).drew) (fun hCl => ?_)
  refine T.qTake (i := 0) (d := (some 57)) (v := ?v1) rfl rfl (by kernel_rfl) (by decide) hCl (by kernel_rfl) (by kernel_rfl) (by kernel_rfl) (by rfl) ?hy1 (fun _ _ _ => trivial) (fun hCl' => ?_)
  case hy1 => (intro w hSw; refine T.qVal ?_ hSw; (have fF302 := F302.out w hSw; have fF303 := F303.out w hSw; have fF304 := F304.out w hSw; have fF305 := F305.out w hSw; have fF306 := F306.out w hSw; have fF307 := F307.out w hSw; have fF308 := F308.out w hSw; have fF309 := F309.out w hSw; have fF310 := F310.out w hSw); (try dsimp only [List.getElem_toArray, List.getElem_cons_succ, List.getElem_cons_zero]); go_simp; try with_reducible rfl)
  simp only [Act.put, List.setIfInBounds_toArray, List.set_cons_zero, List.set_cons_succ]
  replace hCl := hCl'; clear hCl'
  refine T.qTake (i := 1) (d := (some 58)) (v := ?v2) rfl rfl (by kernel_rfl) (by decide) hCl (by kernel_rfl) (by kernel_rfl) (by kernel_rfl) (by rfl) ?hy2 (fun _ _ _ => trivial) (fun hCl' => ?_)
  case hy2 => (intro w hSw; refine T.qVal ?_ hSw; (have fF302 := F302.out w hSw; have fF303 := F303.out w hSw; have fF304 := F304.out w hSw; have fF305 := F305.out w hSw; have fF306 := F306.out w hSw; have fF307 := F307.out w hSw; have fF308 := F308.out w hSw; have fF309 := F309.out w hSw; have fF310 := F310.out w hSw); (try dsimp only [List.getElem_toArray, List.getElem_cons_succ, List.getElem_cons_zero]); go_simp; try with_reducible rfl)
  simp only [Act.put, List.setIfInBounds_toArray, List.set_cons_zero, List.set_cons_succ]
  replace hCl := hCl'; clear hCl'
  refine T.qTake (i := 2) (d := (some 59)) (v := ?v3) rfl rfl (by kernel_rfl) (by decide) hCl (by kernel_rfl) (by kernel_rfl) (by kernel_rfl) (by rfl) ?hy3 (fun _ _ _ => trivial) (fun hCl' => ?_)
  case hy3 => (intro w hSw; refine T.qVal ?_ hSw; (have fF302 := F302.out w hSw; have fF303 := F303.out w hSw; have fF304 := F304.out w hSw; have fF305 := F305.out w hSw; have fF306 := F306.out w hSw; have fF307 := F307.out w hSw; have fF308 := F308.out w hSw; have fF309 := F309.out w hSw; have fF310 := F310.out w hSw); (try dsimp only [List.getElem_toArray, List.getElem_cons_succ, List.getElem_cons_zero]); go_simp; try with_reducible rfl)
  simp only [Act.put, List.setIfInBounds_toArray, List.set_cons_zero, List.set_cons_succ]
  replace hCl := hCl'; clear hCl'
  refine T.qTake (i := 3) (d := (some 60)) (v := ?v4) rfl rfl (by kernel_rfl) (by decide) hCl (by kernel_rfl) (by kernel_rfl) (by kernel_rfl) (by rfl) ?hy4 (fun _ _ _ => trivial) (fun hCl' => ?_)
  case hy4 => (intro w hSw; refine T.qVal ?_ hSw; (have fF302 := F302.out w hSw; have fF303 := F303.out w hSw; have fF304 := F304.out w hSw; have fF305 := F305.out w hSw; have fF306 := F306.out w hSw; have fF307 := F307.out w hSw; have fF308 := F308.out w hSw; have fF309 := F309.out w hSw; have fF310 := F310.out w hSw); (try dsimp only [List.getElem_toArray, List.getElem_cons_succ, List.getElem_cons_zero]); go_simp; try with_reducible rfl)
  simp only [Act.put, List.setIfInBounds_toArray, List.set_cons_zero, List.set_cons_succ]
  replace hCl := hCl'; clear hCl'
  refine T.qTake (i := 4) (d := (some 61)) (v := ((SpV 0 1001))) rfl rfl (by kernel_rfl) (by decide) hCl (by kernel_rfl) (by kernel_rfl) (by kernel_rfl) (by rfl) ?hy5 (fun _ _ _ => trivial) (fun hCl' => ?_)
  case hy5 => (intro w hSw; (have fF302 := F302.out w hSw; have fF303 := F303.out w hSw; have fF304 := F304.out w hSw; have fF305 := F305.out w hSw; have fF306 := F306.out w hSw; have fF307 := F307.out w hSw; have fF308 := F308.out w hSw; have fF309 := F309.out w hSw; have fF310 := F310.out w hSw); (try dsimp only [List.getElem_toArray, List.getElem_cons_succ, List.getElem_cons_zero]); go_simp; (refine (callsIn_wide.2 (B_To_any 0 1001 _)).mono ?_; rintro e w3 ⟨rfl, u3⟩; exact ⟨rfl, hSw.trans u3⟩))
  simp only [Act.put, List.setIfInBounds_toArray, List.set_cons_zero, List.set_cons_succ]
  replace hCl := hCl'; clear hCl'
  refine T.qTake (i := 5) (d := (some 62)) (v := ?v6) rfl rfl (by kernel_rfl) (by decide) hCl (by kernel_rfl) (by kernel_rfl) (by kernel_rfl) (by rfl) ?hy6 (fun _ _ _ => trivial) (fun hCl' => ?_)
  case hy6 => (intro w hSw; refine T.qVal ?_ hSw; (have fF302 := F302.out w hSw; have fF303 := F303.out w hSw; have fF304 := F304.out w hSw; have fF305 := F305.out w hSw; have fF306 := F306.out w hSw; have fF307 := F307.out w hSw; have fF308 := F308.out w hSw; have fF309 := F309.out w hSw; have fF310 := F310.out w hSw); (try dsimp only [List.getElem_toArray, List.getElem_cons_succ, List.getElem_cons_zero]); go_simp; try with_reducible rfl)
  simp only [Act.put, List.setIfInBounds_toArray, List.set_cons_zero, List.set_cons_succ]
  replace hCl := hCl'; clear hCl'
  refine T.tail_intro (by kernel_rfl) (fun Y301 hY301 => ?_)
  have hZ := hY301
  replace HP := Lib.hid (T.kc_t HP.out (T.kc_up hZ))
  clear hZ
  replace U := U.trans hY301
  replace kq := hY301.blk kq
  replace kr2 := hY301.blk kr2
  replace ks3 := hY301.blk ks3
  replace ks4 := hY301.blk ks4
  replace ks5 := hY301.blk ks5
  replace kt6 := hY301.blk kt6
  replace kt7 := hY301.blk kt7
  replace kt8 := hY301.blk kt8
  replace kt9 := hY301.blk kt9
  clear F302 F303 F304 F305 F306 F307 F308 F309 F310 hY301
  have zf := frozB kr2
  refine lastG (i := 6) (by kernel_rfl) rfl (by rfl) (by decide) (fun K hK => ?_)
  go_simp
  obtain ⟨W3, hW⟩ : ∃ z, ((Y301.setCell ⟨r2, 0, none⟩ (.int .i64 0)).setCell ⟨r2, 1, none⟩ (.int .i64 1001)) = z := ⟨_, rfl⟩
  replace U : Up w0 W3 := by rw [← hW]; exact (Up.set (Up.set U (p := ⟨r2, 0, none⟩) (show w0.heap.size ≤ r2 by have := HLT.out; omega) (.int .i64 0)) (p := ⟨r2, 1, none⟩) (show w0.heap.size ≤ r2 by have := HLT.out; omega) (.int .i64 1001))
  replace HP := Lib.hid (show T.Kc (fun b => b = q ∨ b = r2 ∨ b = s3 ∨ b = s4 ∨ b = s5 ∨ b = t6 ∨ b = t7 ∨ b = t8 ∨ b = t9) W1 W3 by rw [← hW]; exact T.kc_t (T.kc_t (HP.out) (T.kc_set ⟨r2, 0, none⟩ (.int .i64 0) (by simp))) (T.kc_set ⟨r2, 1, none⟩ (.int .i64 1001) (by simp)))
  replace kq : mblk W3 q = some (.cells #[.int .i64 0, .slice none 0 0, .slice none 0 0, .slice none 0 0, .int .i64 13, .slice (some ⟨r1, 0, none⟩) 3 3, .slice (some ⟨s1, 0, none⟩) 1 1, .slice (some ⟨t1, 0, none⟩) 4 4, .int .i64 3, .slice (some ⟨r2, 0, none⟩) 3 3, .slice (some ⟨s2, 0, none⟩) 1 1, .slice (some ⟨t2, 0, none⟩) 4 4, .int .i64 3, .slice (some ⟨r3, 0, none⟩) 3 3, .slice (some ⟨s3, 0, none⟩) 1 1, .slice (some ⟨t3, 0, none⟩) 4 4, .int .i64 3, .slice (some ⟨r4, 0, none⟩) 3 3, .slice (some ⟨s4, 0, none⟩) 1 1, .slice (some ⟨t4, 0, none⟩) 4 4, .int .i64 3, .slice (some ⟨r5, 0, none⟩) 3 3, .slice (some ⟨s5, 0, none⟩) 1 1, .slice (some ⟨t5, 0, none⟩) 4 4, .int .i64 3, .slice (some ⟨r6, 0, none⟩) 3 3, .slice (some ⟨s6, 0, none⟩) 1 1, .slice (some ⟨t6, 0, none⟩) 4 4, .int .i64 3, .slice (some ⟨r7, 0, none⟩) 3 3, .slice (some ⟨s7, 0, none⟩) 1 1, .slice (some ⟨t7, 0, none⟩) 4 4, .int .i64 3, .slice (some ⟨r8, 0, none⟩) 3 3, .slice (some ⟨s8, 0, none⟩) 1 1, .slice (some ⟨t8, 0, none⟩) 4 4, .int .i64 3, .slice (some ⟨r9, 0, none⟩) 3 3, .slice (some ⟨s9, 0, none⟩) 1 1, .slice (some ⟨t9, 0, none⟩) 4 4] 26 (0, 0)) := by rw [← hW]; exact ((blk_set _ _ _ _ (show q ≠ r2 by have := HLT.out; omega)).trans ((blk_set _ _ _ _ (show q ≠ r2 by have := HLT.out; omega)).trans kq))
  replace kr2 : mblk W3 r2 = some (.cells #[.int .i64 0, .int .i64 1001, .int .i64 0, .int .i64 1, .int .i64 (-10), .int .i64 10] 34 (0, 0)) := by rw [← hW]; exact (blk_put (blk_put kr2 0 (.int .i64 0)) 1 (.int .i64 1001))
  replace ks3 : mblk W3 s3 = some (.cells #[.int .i64 2, .int .i64 1, .int .i64 (-50), .int .i64 50] 63 (0, 0)) := by rw [← hW]; exact ((blk_set _ _ _ _ (show s3 ≠ r2 by have := HLT.out; omega)).trans ((blk_set _ _ _ _ (show s3 ≠ r2 by have := HLT.out; omega)).trans ks3))
  replace ks4 : mblk W3 s4 = some (.cells #[.int .i64 2, .int .i64 1, .int .i64 (-50), .int .i64 50] 63 (0, 0)) := by rw [← hW]; exact ((blk_set _ _ _ _ (show s4 ≠ r2 by have := HLT.out; omega)).trans ((blk_set _ _ _ _ (show s4 ≠ r2 by have := HLT.out; omega)).trans ks4))
  replace ks5 : mblk W3 s5 = some (.cells #[.int .i64 2, .int .i64 1, .int .i64 (-50), .int .i64 50] 63 (0, 0)) := by rw [← hW]; exact ((blk_set _ _ _ _ (show s5 ≠ r2 by have := HLT.out; omega)).trans ((blk_set _ _ _ _ (show s5 ≠ r2 by have := HLT.out; omega)).trans ks5))
  replace kt6 : mblk W3 t6 = some (.cells #[.int .i64 0, .int .i64 0, .int .i64 (-1), .int .i64 100, .int .i64 104, .int .i64 1, .int .i64 0, .int .i64 1, .int .i64 40, .int .i64 44, .int .i64 3, .int .i64 1, .int .i64 (-1), .int .i64 60, .int .i64 61, .int .i64 3, .int .i64 2, .int .i64 1, .int .i64 5, .int .i64 5] 61 (0, 0)) := by rw [← hW]; exact ((blk_set _ _ _ _ (show t6 ≠ r2 by have := HLT.out; omega)).trans ((blk_set _ _ _ _ (show t6 ≠ r2 by have := HLT.out; omega)).trans kt6))
  replace kt7 : mblk W3 t7 = some (.cells #[.int .i64 0, .int .i64 0, .int .i64 (-1), .int .i64 100, .int .i64 104, .int .i64 1, .int .i64 0, .int .i64 1, .int .i64 40, .int .i64 44, .int .i64 3, .int .i64 1, .int .i64 (-1), .int .i64 60, .int .i64 61, .int .i64 3, .int .i64 2, .int .i64 1, .int .i64 5, .int .i64 5] 61 (0, 0)) := by rw [← hW]; exact ((blk_set _ _ _ _ (show t7 ≠ r2 by have := HLT.out; omega)).trans ((blk_set _ _ _ _ (show t7 ≠ r2 by have := HLT.out; omega)).trans kt7))
  replace kt8 : mblk W3 t8 = some (.cells #[.int .i64 0, .int .i64 0, .int .i64 (-1), .int .i64 100, .int .i64 104, .int .i64 1, .int .i64 0, .int .i64 1, .int .i64 40, .int .i64 44, .int .i64 3, .int .i64 1, .int .i64 (-1), .int .i64 60, .int .i64 61, .int .i64 3, .int .i64 2, .int .i64 1, .int .i64 5, .int .i64 5] 61 (0, 0)) := by rw [← hW]; exact ((blk_set _ _ _ _ (show t8 ≠ r2 by have := HLT.out; omega)).trans ((blk_set _ _ _ _ (show t8 ≠ r2 by have := HLT.out; omega)).trans kt8))
  replace kt9 : mblk W3 t9 = some (.cells #[.int .i64 0, .int .i64 0, .int .i64 (-1), .int .i64 100, .int .i64 104, .int .i64 1, .int .i64 0, .int .i64 1, .int .i64 40, .int .i64 44, .int .i64 3, .int .i64 1, .int .i64 (-1), .int .i64 60, .int .i64 61, .int .i64 3, .int .i64 2, .int .i64 1, .int .i64 5, .int .i64 5] 61 (0, 0)) := by rw [← hW]; exact ((blk_set _ _ _ _ (show t9 ≠ r2 by have := HLT.out; omega)).trans ((blk_set _ _ _ _ (show t9 ≠ r2 by have := HLT.out; omega)).trans kt9))
  rw [hW]
  clear hW
  refine hK.out _ _ ?_
  clear hK K
  refine doneG (by kernel_rfl) ?_ _
  refine S.nrm_intro ?_
  clear zf
  go_upto_region 4 with (fail)
  have zf := frozB ks3
  go_upto_region 5 with (fail)
  clear zf
  obtain ⟨W4, hW⟩ : ∃ z, (W3.setCell ⟨s3, 0, none⟩ (.int .i64 3)) = z := ⟨_, rfl⟩
  replace U : Up w0 W4 := by rw [← hW]; exact (Up.set U (p := ⟨s3, 0, none⟩) (show w0.heap.size ≤ s3 by have := HLT.out; omega) (.int .i64 3))
  replace HP := Lib.hid (show T.Kc (fun b => b = q ∨ b = r2 ∨ b = s3 ∨ b = s4 ∨ b = s5 ∨ b = t6 ∨ b = t7 ∨ b = t8 ∨ b = t9) W1 W4 by rw [← hW]; exact T.kc_t (HP.out) (T.kc_set ⟨s3, 0, none⟩ (.int .i64 3) (by simp)))
  replace kq : mblk W4 q = some (.cells #[.int .i64 0, .slice none 0 0, .slice none 0 0, .slice none 0 0, .int .i64 13, .slice (some ⟨r1, 0, none⟩) 3 3, .slice (some ⟨s1, 0, none⟩) 1 1, .slice (some ⟨t1, 0, none⟩) 4 4, .int .i64 3, .slice (some ⟨r2, 0, none⟩) 3 3, .slice (some ⟨s2, 0, none⟩) 1 1, .slice (some ⟨t2, 0, none⟩) 4 4, .int .i64 3, .slice (some ⟨r3, 0, none⟩) 3 3, .slice (some ⟨s3, 0, none⟩) 1 1, .slice (some ⟨t3, 0, none⟩) 4 4, .int .i64 3, .slice (some ⟨r4, 0, none⟩) 3 3, .slice (some ⟨s4, 0, none⟩) 1 1, .slice (some ⟨t4, 0, none⟩) 4 4, .int .i64 3, .slice (some ⟨r5, 0, none⟩) 3 3, .slice (some ⟨s5, 0, none⟩) 1 1, .slice (some ⟨t5, 0, none⟩) 4 4, .int .i64 3, .slice (some ⟨r6, 0, none⟩) 3 3, .slice (some ⟨s6, 0, none⟩) 1 1, .slice (some ⟨t6, 0, none⟩) 4 4, .int .i64 3, .slice (some ⟨r7, 0, none⟩) 3 3, .slice (some ⟨s7, 0, none⟩) 1 1, .slice (some ⟨t7, 0, none⟩) 4 4, .int .i64 3, .slice (some ⟨r8, 0, none⟩) 3 3, .slice (some ⟨s8, 0, none⟩) 1 1, .slice (some ⟨t8, 0, none⟩) 4 4, .int .i64 3, .slice (some ⟨r9, 0, none⟩) 3 3, .slice (some ⟨s9, 0, none⟩) 1 1, .slice (some ⟨t9, 0, none⟩) 4 4] 26 (0, 0)) := by rw [← hW]; exact ((blk_set _ _ _ _ (show q ≠ s3 by have := HLT.out; omega)).trans kq)
  replace kr2 : mblk W4 r2 = some (.cells #[.int .i64 0, .int .i64 1001, .int .i64 0, .int .i64 1, .int .i64 (-10), .int .i64 10] 34 (0, 0)) := by rw [← hW]; exact ((blk_set _ _ _ _ (show r2 ≠ s3 by have := HLT.out; omega)).trans kr2)
  replace ks3 : mblk W4 s3 = some (.cells #[.int .i64 3, .int .i64 1, .int .i64 (-50), .int .i64 50] 63 (0, 0)) := by rw [← hW]; exact (blk_put ks3 0 (.int .i64 3))
  replace ks4 : mblk W4 s4 = some (.cells #[.int .i64 2, .int .i64 1, .int .i64 (-50), .int .i64 50] 63 (0, 0)) := by rw [← hW]; exact ((blk_set _ _ _ _ (show s4 ≠ s3 by have := HLT.out; omega)).trans ks4)
  replace ks5 : mblk W4 s5 = some (.cells #[.int .i64 2, .int .i64 1, .int .i64 (-50), .int .i64 50] 63 (0, 0)) := by rw [← hW]; exact ((blk_set _ _ _ _ (show s5 ≠ s3 by have := HLT.out; omega)).trans ks5)
  replace kt6 : mblk W4 t6 = some (.cells #[.int .i64 0, .int .i64 0, .int .i64 (-1), .int .i64 100, .int .i64 104, .int .i64 1, .int .i64 0, .int .i64 1, .int .i64 40, .int .i64 44, .int .i64 3, .int .i64 1, .int .i64 (-1), .int .i64 60, .int .i64 61, .int .i64 3, .int .i64 2, .int .i64 1, .int .i64 5, .int .i64 5] 61 (0, 0)) := by rw [← hW]; exact ((blk_set _ _ _ _ (show t6 ≠ s3 by have := HLT.out; omega)).trans kt6)
  replace kt7 : mblk W4 t7 = some (.cells #[.int .i64 0, .int .i64 0, .int .i64 (-1), .int .i64 100, .int .i64 104, .int .i64 1, .int .i64 0, .int .i64 1, .int .i64 40, .int .i64 44, .int .i64 3, .int .i64 1, .int .i64 (-1), .int .i64 60, .int .i64 61, .int .i64 3, .int .i64 2, .int .i64 1, .int .i64 5, .int .i64 5] 61 (0, 0)) := by rw [← hW]; exact ((blk_set _ _ _ _ (show t7 ≠ s3 by have := HLT.out; omega)).trans kt7)
  replace kt8 : mblk W4 t8 = some (.cells #[.int .i64 0, .int .i64 0, .int .i64 (-1), .int .i64 100, .int .i64 104, .int .i64 1, .int .i64 0, .int .i64 1, .int .i64 40, .int .i64 44, .int .i64 3, .int .i64 1, .int .i64 (-1), .int .i64 60, .int .i64 61, .int .i64 3, .int .i64 2, .int .i64 1, .int .i64 5, .int .i64 5] 61 (0, 0)) := by rw [← hW]; exact ((blk_set _ _ _ _ (show t8 ≠ s3 by have := HLT.out; omega)).trans kt8)
  replace kt9 : mblk W4 t9 = some (.cells #[.int .i64 0, .int .i64 0, .int .i64 (-1), .int .i64 100, .int .i64 104, .int .i64 1, .int .i64 0, .int .i64 1, .int .i64 40, .int .i64 44, .int .i64 3, .int .i64 1, .int .i64 (-1), .int .i64 60, .int .i64 61, .int .i64 3, .int .i64 2, .int .i64 1, .int .i64 5, .int .i64 5] 61 (0, 0)) := by rw [← hW]; exact ((blk_set _ _ _ _ (show t9 ≠ s3 by have := HLT.out; omega)).trans kt9)
  rw [hW]
  clear hW
  have zf := frozB ks4
  go_upto_region 6 with (fail)
  clear zf
  obtain ⟨W5, hW⟩ : ∃ z, (W4.setCell ⟨s4, 1, none⟩ (.int .i64 3)) = z := ⟨_, rfl⟩
  replace U : Up w0 W5 := by rw [← hW]; exact (Up.set U (p := ⟨s4, 1, none⟩) (show w0.heap.size ≤ s4 by have := HLT.out; omega) (.int .i64 3))
  replace HP := Lib.hid (show T.Kc (fun b => b = q ∨ b = r2 ∨ b = s3 ∨ b = s4 ∨ b = s5 ∨ b = t6 ∨ b = t7 ∨ b = t8 ∨ b = t9) W1 W5 by rw [← hW]; exact T.kc_t (HP.out) (T.kc_set ⟨s4, 1, none⟩ (.int .i64 3) (by simp)))
  replace kq : mblk W5 q = some (.cells #[.int .i64 0, .slice none 0 0, .slice none 0 0, .slice none 0 0, .int .i64 13, .slice (some ⟨r1, 0, none⟩) 3 3, .slice (some ⟨s1, 0, none⟩) 1 1, .slice (some ⟨t1, 0, none⟩) 4 4, .int .i64 3, .slice (some ⟨r2, 0, none⟩) 3 3, .slice (some ⟨s2, 0, none⟩) 1 1, .slice (some ⟨t2, 0, none⟩) 4 4, .int .i64 3, .slice (some ⟨r3, 0, none⟩) 3 3, .slice (some ⟨s3, 0, none⟩) 1 1, .slice (some ⟨t3, 0, none⟩) 4 4, .int .i64 3, .slice (some ⟨r4, 0, none⟩) 3 3, .slice (some ⟨s4, 0, none⟩) 1 1, .slice (some ⟨t4, 0, none⟩) 4 4, .int .i64 3, .slice (some ⟨r5, 0, none⟩) 3 3, .slice (some ⟨s5, 0, none⟩) 1 1, .slice (some ⟨t5, 0, none⟩) 4 4, .int .i64 3, .slice (some ⟨r6, 0, none⟩) 3 3, .slice (some ⟨s6, 0, none⟩) 1 1, .slice (some ⟨t6, 0, none⟩) 4 4, .int .i64 3, .slice (some ⟨r7, 0, none⟩) 3 3, .slice (some ⟨s7, 0, none⟩) 1 1, .slice (some ⟨t7, 0, none⟩) 4 4, .int .i64 3, .slice (some ⟨r8, 0, none⟩) 3 3, .slice (some ⟨s8, 0, none⟩) 1 1, .slice (some ⟨t8, 0, none⟩) 4 4, .int .i64 3, .slice (some ⟨r9, 0, none⟩) 3 3, .slice (some ⟨s9, 0, none⟩) 1 1, .slice (some ⟨t9, 0, none⟩) 4 4] 26 (0, 0)) := by rw [← hW]; exact ((blk_set _ _ _ _ (show q ≠ s4 by have := HLT.out; omega)).trans kq)
  replace kr2 : mblk W5 r2 = some (.cells #[.int .i64 0, .int .i64 1001, .int .i64 0, .int .i64 1, .int .i64 (-10), .int .i64 10] 34 (0, 0)) := by rw [← hW]; exact ((blk_set _ _ _ _ (show r2 ≠ s4 by have := HLT.out; omega)).trans kr2)
  replace ks3 : mblk W5 s3 = some (.cells #[.int .i64 3, .int .i64 1, .int .i64 (-50), .int .i64 50] 63 (0, 0)) := by rw [← hW]; exact ((blk_set _ _ _ _ (show s3 ≠ s4 by have := HLT.out; omega)).trans ks3)
  replace ks4 : mblk W5 s4 = some (.cells #[.int .i64 2, .int .i64 3, .int .i64 (-50), .int .i64 50] 63 (0, 0)) := by rw [← hW]; exact (blk_put ks4 1 (.int .i64 3))
  replace ks5 : mblk W5 s5 = some (.cells #[.int .i64 2, .int .i64 1, .int .i64 (-50), .int .i64 50] 63 (0, 0)) := by rw [← hW]; exact ((blk_set _ _ _ _ (show s5 ≠ s4 by have := HLT.out; omega)).trans ks5)
  replace kt6 : mblk W5 t6 = some (.cells #[.int .i64 0, .int .i64 0, .int .i64 (-1), .int .i64 100, .int .i64 104, .int .i64 1, .int .i64 0, .int .i64 1, .int .i64 40, .int .i64 44, .int .i64 3, .int .i64 1, .int .i64 (-1), .int .i64 60, .int .i64 61, .int .i64 3, .int .i64 2, .int .i64 1, .int .i64 5, .int .i64 5] 61 (0, 0)) := by rw [← hW]; exact ((blk_set _ _ _ _ (show t6 ≠ s4 by have := HLT.out; omega)).trans kt6)
  replace kt7 : mblk W5 t7 = some (.cells #[.int .i64 0, .int .i64 0, .int .i64 (-1), .int .i64 100, .int .i64 104, .int .i64 1, .int .i64 0, .int .i64 1, .int .i64 40, .int .i64 44, .int .i64 3, .int .i64 1, .int .i64 (-1), .int .i64 60, .int .i64 61, .int .i64 3, .int .i64 2, .int .i64 1, .int .i64 5, .int .i64 5] 61 (0, 0)) := by rw [← hW]; exact ((blk_set _ _ _ _ (show t7 ≠ s4 by have := HLT.out; omega)).trans kt7)
  replace kt8 : mblk W5 t8 = some (.cells #[.int .i64 0, .int .i64 0, .int .i64 (-1), .int .i64 100, .int .i64 104, .int .i64 1, .int .i64 0, .int .i64 1, .int .i64 40, .int .i64 44, .int .i64 3, .int .i64 1, .int .i64 (-1), .int .i64 60, .int .i64 61, .int .i64 3, .int .i64 2, .int .i64 1, .int .i64 5, .int .i64 5] 61 (0, 0)) := by rw [← hW]; exact ((blk_set _ _ _ _ (show t8 ≠ s4 by have := HLT.out; omega)).trans kt8)
  replace kt9 : mblk W5 t9 = some (.cells #[.int .i64 0, .int .i64 0, .int .i64 (-1), .int .i64 100, .int .i64 104, .int .i64 1, .int .i64 0, .int .i64 1, .int .i64 40, .int .i64 44, .int .i64 3, .int .i64 1, .int .i64 (-1), .int .i64 60, .int .i64 61, .int .i64 3, .int .i64 2, .int .i64 1, .int .i64 5, .int .i64 5] 61 (0, 0)) := by rw [← hW]; exact ((blk_set _ _ _ _ (show t9 ≠ s4 by have := HLT.out; omega)).trans kt9)
  rw [hW]
  clear hW
  have F602 := Lib.hid (fun w (u : Up W5 w) => cellB (u.blk kq))
  have F603 := Lib.hid (fun w (u : Up W5 w) => cellB (u.blk kr2))
  have F604 := Lib.hid (fun w (u : Up W5 w) => cellB (u.blk ks3))
  have F605 := Lib.hid (fun w (u : Up W5 w) => cellB (u.blk ks4))
  have F606 := Lib.hid (fun w (u : Up W5 w) => cellB (u.blk ks5))
  have F607 := Lib.hid (fun w (u : Up W5 w) => cellB (u.blk kt6))
  have F608 := Lib.hid (fun w (u : Up W5 w) => cellB (u.blk kt7))
  have F609 := Lib.hid (fun w (u : Up W5 w) => cellB (u.blk kt8))
  have F610 := Lib.hid (fun w (u : Up W5 w) => cellB (u.blk kt9))
  refine (wpIn_wide (n := 5)).1 ?_
  refine wpIn_nrm ?_
  refine T.regionQ (fun w' => Up W5 w') 7 1 hmx (by kernel_rfl) (by kernel_rfl) ((Up.refl W5).drew) (fun hCl => ?_)
  refine T.qTake (i := 0) (d := (some 75)) (v := ?v7) rfl rfl (by kernel_rfl) (by decide) hCl (by kernel_rfl) (by kernel_rfl) (by kernel_rfl) (by rfl) ?hy7 (fun _ _ _ => trivial) (fun hCl' => ?_)
  case hy7 => (intro w hSw; refine T.qVal ?_ hSw; (have fF602 := F602.out w hSw; have fF603 := F603.out w hSw; have fF604 := F604.out w hSw; have fF605 := F605.out w hSw; have fF606 := F606.out w hSw; have fF607 := F607.out w hSw; have fF608 := F608.out w hSw; have fF609 := F609.out w hSw; have fF610 := F610.out w hSw); (try dsimp only [List.getElem_toArray, List.getElem_cons_succ, List.getElem_cons_zero]); go_simp; try with_reducible rfl)
  simp only [Act.put, List.setIfInBounds_toArray, List.set_cons_zero, List.set_cons_succ]
  replace hCl := hCl'; clear hCl'
  refine T.qTake (i := 1) (d := (some 76)) (v := ?v8) rfl rfl (by kernel_rfl) (by decide) hCl (by kernel_rfl) (by kernel_rfl) (by kernel_rfl) (by rfl) ?hy8 (fun _ _ _ => trivial) (fun hCl' => ?_)
  case hy8 => (intro w hSw; refine T.qVal ?_ hSw; (have fF602 := F602.out w hSw; have fF603 := F603.out w hSw; have fF604 := F604.out w hSw; have fF605 := F605.out w hSw; have fF606 := F606.out w hSw; have fF607 := F607.out w hSw; have fF608 := F608.out w hSw; have fF609 := F609.out w hSw; have fF610 := F610.out w hSw); (try dsimp only [List.getElem_toArray, List.getElem_cons_succ, List.getElem_cons_zero]); go_simp; try with_reducible rfl)
  simp only [Act.put, List.setIfInBounds_toArray, List.set_cons_zero, List.set_cons_succ]
  replace hCl := hCl'; clear hCl'
  refine T.qTake (i := 2) (d := (some 77)) (v := ?v9) rfl rfl (by kernel_rfl) (by decide) hCl (by kernel_rfl) (by kernel_rfl) (by kernel_rfl) (by rfl) ?hy9 (fun _ _ _ => trivial) (fun hCl' => ?_)
  case hy9 => (intro w hSw; refine T.qVal ?_ hSw; (have fF602 := F602.out w hSw; have fF603 := F603.out w hSw; have fF604 := F604.out w hSw; have fF605 := F605.out w hSw; have fF606 := F606.out w hSw; have fF607 := F607.out w hSw; have fF608 := F608.out w hSw; have fF609 := F609.out w hSw; have fF610 := F610.out w hSw); (try dsimp only [List.getElem_toArray, List.getElem_cons_succ, List.getElem_cons_zero]); go_simp; try with_reducible rfl)
  simp only [Act.put, List.setIfInBounds_toArray, List.set_cons_zero, List.set_cons_succ]
  replace hCl := hCl'; clear hCl'
  refine T.qTake (i := 3) (d := (some 78)) (v := ?v10) rfl rfl (by kernel_rfl) (by decide) hCl (by kernel_rfl) (by kernel_rfl) (by kernel_rfl) (by rfl) ?hy10 (fun _ _ _ => trivial) (fun hCl' => ?_)
  case hy10 => (intro w hSw; refine T.qVal ?_ hSw; (have fF602 := F602.out w hSw; have fF603 := F603.out w hSw; have fF604 := F604.out w hSw; have fF605 := F605.out w hSw; have fF606 := F606.out w hSw; have fF607 := F607.out w hSw; have fF608 := F608.out w hSw; have fF609 := F609.out w hSw; have fF610 := F610.out w hSw); (try dsimp only [List.getElem_toArray, List.getElem_cons_succ, List.getElem_cons_zero]); go_simp; try with_reducible rfl)
  simp only [Act.put, List.setIfInBounds_toArray, List.set_cons_zero, List.set_cons_succ]
  replace hCl := hCl'; clear hCl'
  refine T.qTake (i := 4) (d := (some 79)) (v := ((SpV 1 0))) rfl rfl (by kernel_rfl) (by decide) hCl (by kernel_rfl) (by kernel_rfl) (by kernel_rfl) (by rfl) ?hy11 (fun _ _ _ => trivial) (fun hCl' => ?_)
  case hy11 => (intro w hSw; (have fF602 := F602.out w hSw; have fF603 := F603.out w hSw; have fF604 := F604.out w hSw; have fF605 := F605.out w hSw; have fF606 := F606.out w hSw; have fF607 := F607.out w hSw; have fF608 := F608.out w hSw; have fF609 := F609.out w hSw; have fF610 := F610.out w hSw); (try dsimp only [List.getElem_toArray, List.getElem_cons_succ, List.getElem_cons_zero]); go_simp; (refine (callsIn_wide.2 (B_To_any 1 0 _)).mono ?_; rintro e w3 ⟨rfl, u3⟩; exact ⟨rfl, hSw.trans u3⟩))
  simp only [Act.put, List.setIfInBounds_toArray, List.set_cons_zero, List.set_cons_succ]
  replace hCl := hCl'; clear hCl'
  refine T.qTake (i := 5) (d := (some 80)) (v := ?v12) rfl rfl (by kernel_rfl) (by decide) hCl (by kernel_rfl) (by kernel_rfl) (by kernel_rfl) (by rfl) ?hy12 (fun _ _ _ => trivial) (fun hCl' => ?_)
  case hy12 => (intro w hSw; refine T.qVal ?_ hSw; (have fF602 := F602.out w hSw; have fF603 := F603.out w hSw; have fF604 := F604.out w hSw; have fF605 := F605.out w hSw; have fF606 := F606.out w hSw; have fF607 := F607.out w hSw; have fF608 := F608.out w hSw; have fF609 := F609.out w hSw; have fF610 := F610.out w hSw); (try dsimp only [List.getElem_toArray, List.getElem_cons_succ, List.getElem_cons_zero]); go_simp; try with_reducible rfl)
  simp only [Act.put, List.setIfInBounds_toArray, List.set_cons_zero, List.set_cons_succ]
  replace hCl := hCl'; clear hCl'
  refine T.qTake (i := 6) (d := (some 81)) (v := ?v13) rfl rfl (by kernel_rfl) (by decide) hCl (by kernel_rfl) (by kernel_rfl) (by kernel_rfl) (by rfl) ?hy13 (fun _ _ _ => trivial) (fun hCl' => ?_)
  case hy13 => (intro w hSw; refine T.qVal ?_ hSw; (have fF602 := F602.out w hSw; have fF603 := F603.out w hSw; have fF604 := F604.out w hSw; have fF605 := F605.out w hSw; have fF606 := F606.out w hSw; have fF607 := F607.out w hSw; have fF608 := F608.out w hSw; have fF609 := F609.out w hSw; have fF610 := F610.out w hSw); (try dsimp only [List.getElem_toArray, List.getElem_cons_succ, List.getElem_cons_zero]); go_simp; try with_reducible rfl)
  simp only [Act.put, List.setIfInBounds_toArray, List.set_cons_zero, List.set_cons_succ]
  replace hCl := hCl'; clear hCl'
  refine T.tail_intro (by kernel_rfl) (fun Y601 hY601 => ?_)
  have hZ := hY601
  replace HP := Lib.hid (T.kc_t HP.out (T.kc_up hZ))
  clear hZ
  replace U := U.trans hY601
  replace kq := hY601.blk kq
  replace kr2 := hY601.blk kr2
  replace ks3 := hY601.blk ks3
  replace ks4 := hY601.blk ks4
  replace ks5 := hY601.blk ks5
  replace kt6 := hY601.blk kt6
  replace kt7 := hY601.blk kt7
  replace kt8 := hY601.blk kt8
  replace kt9 := hY601.blk kt9
  clear F602 F603 F604 F605 F606 F607 F608 F609 F610 hY601
  have zf := frozB ks5
  refine lastG (i := 7) (by kernel_rfl) rfl (by rfl) (by decide) (fun K hK => ?_)
  go_simp
  obtain ⟨W6, hW⟩ : ∃ z, ((Y601.setCell ⟨s5, 2, none⟩ (.int .i64 1)).setCell ⟨s5, 3, none⟩ (.int .i64 0)) = z := ⟨_, rfl⟩
  replace U : Up w0 W6 := by rw [← hW]; exact (Up.set (Up.set U (p := ⟨s5, 2, none⟩) (show w0.heap.size ≤ s5 by have := HLT.out; omega) (.int .i64 1)) (p := ⟨s5, 3, none⟩) (show w0.heap.size ≤ s5 by have := HLT.out; omega) (.int .i64 0))
  replace HP := Lib.hid (show T.Kc (fun b => b = q ∨ b = r2 ∨ b = s3 ∨ b = s4 ∨ b = s5 ∨ b = t6 ∨ b = t7 ∨ b = t8 ∨ b = t9) W1 W6 by rw [← hW]; exact T.kc_t (T.kc_t (HP.out) (T.kc_set ⟨s5, 2, none⟩ (.int .i64 1) (by simp))) (T.kc_set ⟨s5, 3, none⟩ (.int .i64 0) (by simp)))
  replace kq : mblk W6 q = some (.cells #[.int .i64 0, .slice none 0 0, .slice none 0 0, .slice none 0 0, .int .i64 13, .slice (some ⟨r1, 0, none⟩) 3 3, .slice (some ⟨s1, 0, none⟩) 1 1, .slice (some ⟨t1, 0, none⟩) 4 4, .int .i64 3, .slice (some ⟨r2, 0, none⟩) 3 3, .slice (some ⟨s2, 0, none⟩) 1 1, .slice (some ⟨t2, 0, none⟩) 4 4, .int .i64 3, .slice (some ⟨r3, 0, none⟩) 3 3, .slice (some ⟨s3, 0, none⟩) 1 1, .slice (some ⟨t3, 0, none⟩) 4 4, .int .i64 3, .slice (some ⟨r4, 0, none⟩) 3 3, .slice (some ⟨s4, 0, none⟩) 1 1, .slice (some ⟨t4, 0, none⟩) 4 4, .int .i64 3, .slice (some ⟨r5, 0, none⟩) 3 3, .slice (some ⟨s5, 0, none⟩) 1 1, .slice (some ⟨t5, 0, none⟩) 4 4, .int .i64 3, .slice (some ⟨r6, 0, none⟩) 3 3, .slice (some ⟨s6, 0, none⟩) 1 1, .slice (some ⟨t6, 0, none⟩) 4 4, .int .i64 3, .slice (some ⟨r7, 0, none⟩) 3 3, .slice (some ⟨s7, 0, none⟩) 1 1, .slice (some ⟨t7, 0, none⟩) 4 4, .int .i64 3, .slice (some ⟨r8, 0, none⟩) 3 3, .slice (some ⟨s8, 0, none⟩) 1 1, .slice (some ⟨t8, 0, none⟩) 4 4, .int .i64 3, .slice (some ⟨r9, 0, none⟩) 3 3, .slice (some ⟨s9, 0, none⟩) 1 1, .slice (some ⟨t9, 0, none⟩) 4 4] 26 (0, 0)) := by rw [← hW]; exact ((blk_set _ _ _ _ (show q ≠ s5 by have := HLT.out; omega)).trans ((blk_set _ _ _ _ (show q ≠ s5 by have := HLT.out; omega)).trans kq))
  replace kr2 : mblk W6 r2 = some (.cells #[.int .i64 0, .int .i64 1001, .int .i64 0, .int .i64 1, .int .i64 (-10), .int .i64 10] 34 (0, 0)) := by rw [← hW]; exact ((blk_set _ _ _ _ (show r2 ≠ s5 by have := HLT.out; omega)).trans ((blk_set _ _ _ _ (show r2 ≠ s5 by have := HLT.out; omega)).trans kr2))
  replace ks3 : mblk W6 s3 = some (.cells #[.int .i64 3, .int .i64 1, .int .i64 (-50), .int .i64 50] 63 (0, 0)) := by rw [← hW]; exact ((blk_set _ _ _ _ (show s3 ≠ s5 by have := HLT.out; omega)).trans ((blk_set _ _ _ _ (show s3 ≠ s5 by have := HLT.out; omega)).trans ks3))
  replace ks4 : mblk W6 s4 = some (.cells #[.int .i64 2, .int .i64 3, .int .i64 (-50), .int .i64 50] 63 (0, 0)) := by rw [← hW]; exact ((blk_set _ _ _ _ (show s4 ≠ s5 by have := HLT.out; omega)).trans ((blk_set _ _ _ _ (show s4 ≠ s5 by have := HLT.out; omega)).trans ks4))
  replace ks5 : mblk W6 s5 = some (.cells #[.int .i64 2, .int .i64 1, .int .i64 1, .int .i64 0] 63 (0, 0)) := by rw [← hW]; exact (blk_put (blk_put ks5 2 (.int .i64 1)) 3 (.int .i64 0))
  replace kt6 : mblk W6 t6 = some (.cells #[.int .i64 0, .int .i64 0, .int .i64 (-1), .int .i64 100, .int .i64 104, .int .i64 1, .int .i64 0, .int .i64 1, .int .i64 40, .int .i64 44, .int .i64 3, .int .i64 1, .int .i64 (-1), .int .i64 60, .int .i64 61, .int .i64 3, .int .i64 2, .int .i64 1, .int .i64 5, .int .i64 5] 61 (0, 0)) := by rw [← hW]; exact ((blk_set _ _ _ _ (show t6 ≠ s5 by have := HLT.out; omega)).trans ((blk_set _ _ _ _ (show t6 ≠ s5 by have := HLT.out; omega)).trans kt6))
  replace kt7 : mblk W6 t7 = some (.cells #[.int .i64 0, .int .i64 0, .int .i64 (-1), .int .i64 100, .int .i64 104, .int .i64 1, .int .i64 0, .int .i64 1, .int .i64 40, .int .i64 44, .int .i64 3, .int .i64 1, .int .i64 (-1), .int .i64 60, .int .i64 61, .int .i64 3, .int .i64 2, .int .i64 1, .int .i64 5, .int .i64 5] 61 (0, 0)) := by rw [← hW]; exact ((blk_set _ _ _ _ (show t7 ≠ s5 by have := HLT.out; omega)).trans ((blk_set _ _ _ _ (show t7 ≠ s5 by have := HLT.out; omega)).trans kt7))
  replace kt8 : mblk W6 t8 = some (.cells #[.int .i64 0, .int .i64 0, .int .i64 (-1), .int .i64 100, .int .i64 104, .int .i64 1, .int .i64 0, .int .i64 1, .int .i64 40, .int .i64 44, .int .i64 3, .int .i64 1, .int .i64 (-1), .int .i64 60, .int .i64 61, .int .i64 3, .int .i64 2, .int .i64 1, .int .i64 5, .int .i64 5] 61 (0, 0)) := by rw [← hW]; exact ((blk_set _ _ _ _ (show t8 ≠ s5 by have := HLT.out; omega)).trans ((blk_set _ _ _ _ (show t8 ≠ s5 by have := HLT.out; omega)).trans kt8))
  replace kt9 : mblk W6 t9 = some (.cells #[.int .i64 0, .int .i64 0, .int .i64 (-1), .int .i64 100, .int .i64 104, .int .i64 1, .int .i64 0, .int .i64 1, .int .i64 40, .int .i64 44, .int .i64 3, .int .i64 1, .int .i64 (-1), .int .i64 60, .int .i64 61, .int .i64 3, .int .i64 2, .int .i64 1, .int .i64 5, .int .i64 5] 61 (0, 0)) := by rw [← hW]; exact ((blk_set _ _ _ _ (show t9 ≠ s5 by have := HLT.out; omega)).trans ((blk_set _ _ _ _ (show t9 ≠ s5 by have := HLT.out; omega)).trans kt9))
  rw [hW]
  clear hW
  refine hK.out _ _ ?_
  clear hK K
  refine doneG (by kernel_rfl) ?_ _
  refine S.nrm_intro ?_
  clear zf
  go_upto_region 7 with (fail)
  have zf := frozB kt6
  go_upto_region 8 with (fail)
  clear zf
  obtain ⟨W7, hW⟩ : ∃ z, (W6.setCell ⟨t6, 0, none⟩ (.int .i64 4)) = z := ⟨_, rfl⟩
  replace U : Up w0 W7 := by rw [← hW]; exact (Up.set U (p := ⟨t6, 0, none⟩) (show w0.heap.size ≤ t6 by have := HLT.out; omega) (.int .i64 4))
  replace HP := Lib.hid (show T.Kc (fun b => b = q ∨ b = r2 ∨ b = s3 ∨ b = s4 ∨ b = s5 ∨ b = t6 ∨ b = t7 ∨ b = t8 ∨ b = t9) W1 W7 by rw [← hW]; exact T.kc_t (HP.out) (T.kc_set ⟨t6, 0, none⟩ (.int .i64 4) (by simp)))
  replace kq : mblk W7 q = some (.cells #[.int .i64 0, .slice none 0 0, .slice none 0 0, .slice none 0 0, .int .i64 13, .slice (some ⟨r1, 0, none⟩) 3 3, .slice (some ⟨s1, 0, none⟩) 1 1, .slice (some ⟨t1, 0, none⟩) 4 4, .int .i64 3, .slice (some ⟨r2, 0, none⟩) 3 3, .slice (some ⟨s2, 0, none⟩) 1 1, .slice (some ⟨t2, 0, none⟩) 4 4, .int .i64 3, .slice (some ⟨r3, 0, none⟩) 3 3, .slice (some ⟨s3, 0, none⟩) 1 1, .slice (some ⟨t3, 0, none⟩) 4 4, .int .i64 3, .slice (some ⟨r4, 0, none⟩) 3 3, .slice (some ⟨s4, 0, none⟩) 1 1, .slice (some ⟨t4, 0, none⟩) 4 4, .int .i64 3, .slice (some ⟨r5, 0, none⟩) 3 3, .slice (some ⟨s5, 0, none⟩) 1 1, .slice (some ⟨t5, 0, none⟩) 4 4, .int .i64 3, .slice (some ⟨r6, 0, none⟩) 3 3, .slice (some ⟨s6, 0, none⟩) 1 1, .slice (some ⟨t6, 0, none⟩) 4 4, .int .i64 3, .slice (some ⟨r7, 0, none⟩) 3 3, .slice (some ⟨s7, 0, none⟩) 1 1, .slice (some ⟨t7, 0, none⟩) 4 4, .int .i64 3, .slice (some ⟨r8, 0, none⟩) 3 3, .slice (some ⟨s8, 0, none⟩) 1 1, .slice (some ⟨t8, 0, none⟩) 4 4, .int .i64 3, .slice (some ⟨r9, 0, none⟩) 3 3, .slice (some ⟨s9, 0, none⟩) 1 1, .slice (some ⟨t9, 0, none⟩) 4 4] 26 (0, 0)) := by rw [← hW]; exact ((blk_set _ _ _ _ (show q ≠ t6 by have := HLT.out; omega)).trans kq)
  replace kr2 : mblk W7 r2 = some (.cells #[.int .i64 0, .int .i64 1001, .int .i64 0, .int .i64 1, .int .i64 (-10), .int .i64 10] 34 (0, 0)) := by rw [← hW]; exact ((blk_set _ _ _ _ (show r2 ≠ t6 by have := HLT.out; omega)).trans kr2)
  replace ks3 : mblk W7 s3 = some (.cells #[.int .i64 3, .int .i64 1, .int .i64 (-50), .int .i64 50] 63 (0, 0)) := by rw [← hW]; exact ((blk_set _ _ _ _ (show s3 ≠ t6 by have := HLT.out; omega)).trans ks3)
  replace ks4 : mblk W7 s4 = some (.cells #[.int .i64 2, .int .i64 3, .int .i64 (-50), .int .i64 50] 63 (0, 0)) := by rw [← hW]; exact ((blk_set _ _ _ _ (show s4 ≠ t6 by have := HLT.out; omega)).trans ks4)
  replace ks5 : mblk W7 s5 = some (.cells #[.int .i64 2, .int .i64 1, .int .i64 1, .int .i64 0] 63 (0, 0)) := by rw [← hW]; exact ((blk_set _ _ _ _ (show s5 ≠ t6 by have := HLT.out; omega)).trans ks5)
  replace kt6 : mblk W7 t6 = some (.cells #[.int .i64 4, .int .i64 0, .int .i64 (-1), .int .i64 100, .int .i64 104, .int .i64 1, .int .i64 0, .int .i64 1, .int .i64 40, .int .i64 44, .int .i64 3, .int .i64 1, .int .i64 (-1), .int .i64 60, .int .i64 61, .int .i64 3, .int .i64 2, .int .i64 1, .int .i64 5, .int .i64 5] 61 (0, 0)) := by rw [← hW]; exact (blk_put kt6 0 (.int .i64 4))
  replace kt7 : mblk W7 t7 = some (.cells #[.int .i64 0, .int .i64 0, .int .i64 (-1), .int .i64 100, .int .i64 104, .int .i64 1, .int .i64 0, .int .i64 1, .int .i64 40, .int .i64 44, .int .i64 3, .int .i64 1, .int .i64 (-1), .int .i64 60, .int .i64 61, .int .i64 3, .int .i64 2, .int .i64 1, .int .i64 5, .int .i64 5] 61 (0, 0)) := by rw [← hW]; exact ((blk_set _ _ _ _ (show t7 ≠ t6 by have := HLT.out; omega)).trans kt7)
  replace kt8 : mblk W7 t8 = some (.cells #[.int .i64 0, .int .i64 0, .int .i64 (-1), .int .i64 100, .int .i64 104, .int .i64 1, .int .i64 0, .int .i64 1, .int .i64 40, .int .i64 44, .int .i64 3, .int .i64 1, .int .i64 (-1), .int .i64 60, .int .i64 61, .int .i64 3, .int .i64 2, .int .i64 1, .int .i64 5, .int .i64 5] 61 (0, 0)) := by rw [← hW]; exact ((blk_set _ _ _ _ (show t8 ≠ t6 by have := HLT.out; omega)).trans kt8)
  replace kt9 : mblk W7 t9 = some (.cells #[.int .i64 0, .int .i64 0, .int .i64 (-1), .int .i64 100, .int .i64 104, .int .i64 1, .int .i64 0, .int .i64 1, .int .i64 40, .int .i64 44, .int .i64 3, .int .i64 1, .int .i64 (-1), .int .i64 60, .int .i64 61, .int .i64 3, .int .i64 2, .int .i64 1, .int .i64 5, .int .i64 5] 61 (0, 0)) := by rw [← hW]; exact ((blk_set _ _ _ _ (show t9 ≠ t6 by have := HLT.out; omega)).trans kt9)
  rw [hW]
  clear hW
  have zf := frozB kt7
  go_upto_region 9 with (fail)
  clear zf
  obtain ⟨W8, hW⟩ : ∃ z, (W7.setCell ⟨t7, 7, none⟩ (.int .i64 0)) = z := ⟨_, rfl⟩
  replace U : Up w0 W8 := by rw [← hW]; exact (Up.set U (p := ⟨t7, 7, none⟩) (show w0.heap.size ≤ t7 by have := HLT.out; omega) (.int .i64 0))
  replace HP := Lib.hid (show T.Kc (fun b => b = q ∨ b = r2 ∨ b = s3 ∨ b = s4 ∨ b = s5 ∨ b = t6 ∨ b = t7 ∨ b = t8 ∨ b = t9) W1 W8 by rw [← hW]; exact T.kc_t (HP.out) (T.kc_set ⟨t7, 7, none⟩ (.int .i64 0) (by simp)))
  replace kq : mblk W8 q = some (.cells #[.int .i64 0, .slice none 0 0, .slice none 0 0, .slice none 0 0, .int .i64 13, .slice (some ⟨r1, 0, none⟩) 3 3, .slice (some ⟨s1, 0, none⟩) 1 1, .slice (some ⟨t1, 0, none⟩) 4 4, .int .i64 3, .slice (some ⟨r2, 0, none⟩) 3 3, .slice (some ⟨s2, 0, none⟩) 1 1, .slice (some ⟨t2, 0, none⟩) 4 4, .int .i64 3, .slice (some ⟨r3, 0, none⟩) 3 3, .slice (some ⟨s3, 0, none⟩) 1 1, .slice (some ⟨t3, 0, none⟩) 4 4, .int .i64 3, .slice (some ⟨r4, 0, none⟩) 3 3, .slice (some ⟨s4, 0, none⟩) 1 1, .slice (some ⟨t4, 0, none⟩) 4 4, .int .i64 3, .slice (some ⟨r5, 0, none⟩) 3 3, .slice (some ⟨s5, 0, none⟩) 1 1, .slice (some ⟨t5, 0, none⟩) 4 4, .int .i64 3, .slice (some ⟨r6, 0, none⟩) 3 3, .slice (some ⟨s6, 0, none⟩) 1 1, .slice (some ⟨t6, 0, none⟩) 4 4, .int .i64 3, .slice (some ⟨r7, 0, none⟩) 3 3, .slice (some ⟨s7, 0, none⟩) 1 1, .slice (some ⟨t7, 0, none⟩) 4 4, .int .i64 3, .slice (some ⟨r8, 0, none⟩) 3 3, .slice (some ⟨s8, 0, none⟩) 1 1, .slice (some ⟨t8, 0, none⟩) 4 4, .int .i64 3, .slice (some ⟨r9, 0, none⟩) 3 3, .slice (some ⟨s9, 0, none⟩) 1 1, .slice (some ⟨t9, 0, none⟩) 4 4] 26 (0, 0)) := by rw [← hW]; exact ((blk_set _ _ _ _ (show q ≠ t7 by have := HLT.out; omega)).trans kq)
  replace kr2 : mblk W8 r2 = some (.cells #[.int .i64 0, .int .i64 1001, .int .i64 0, .int .i64 1, .int .i64 (-10), .int .i64 10] 34 (0, 0)) := by rw [← hW]; exact ((blk_set _ _ _ _ (show r2 ≠ t7 by have := HLT.out; omega)).trans kr2)
  replace ks3 : mblk W8 s3 = some (.cells #[.int .i64 3, .int .i64 1, .int .i64 (-50), .int .i64 50] 63 (0, 0)) := by rw [← hW]; exact ((blk_set _ _ _ _ (show s3 ≠ t7 by have := HLT.out; omega)).trans ks3)
  replace ks4 : mblk W8 s4 = some (.cells #[.int .i64 2, .int .i64 3, .int .i64 (-50), .int .i64 50] 63 (0, 0)) := by rw [← hW]; exact ((blk_set _ _ _ _ (show s4 ≠ t7 by have := HLT.out; omega)).trans ks4)
  replace ks5 : mblk W8 s5 = some (.cells #[.int .i64 2, .int .i64 1, .int .i64 1, .int .i64 0] 63 (0, 0)) := by rw [← hW]; exact ((blk_set _ _ _ _ (show s5 ≠ t7 by have := HLT.out; omega)).trans ks5)
  replace kt6 : mblk W8 t6 = some (.cells #[.int .i64 4, .int .i64 0, .int .i64 (-1), .int .i64 100, .int .i64 104, .int .i64 1, .int .i64 0, .int .i64 1, .int .i64 40, .int .i64 44, .int .i64 3, .int .i64 1, .int .i64 (-1), .int .i64 60, .int .i64 61, .int .i64 3, .int .i64 2, .int .i64 1, .int .i64 5, .int .i64 5] 61 (0, 0)) := by rw [← hW]; exact ((blk_set _ _ _ _ (show t6 ≠ t7 by have := HLT.out; omega)).trans kt6)
  replace kt7 : mblk W8 t7 = some (.cells #[.int .i64 0, .int .i64 0, .int .i64 (-1), .int .i64 100, .int .i64 104, .int .i64 1, .int .i64 0, .int .i64 0, .int .i64 40, .int .i64 44, .int .i64 3, .int .i64 1, .int .i64 (-1), .int .i64 60, .int .i64 61, .int .i64 3, .int .i64 2, .int .i64 1, .int .i64 5, .int .i64 5] 61 (0, 0)) := by rw [← hW]; exact (blk_put kt7 7 (.int .i64 0))
  replace kt8 : mblk W8 t8 = some (.cells #[.int .i64 0, .int .i64 0, .int .i64 (-1), .int .i64 100, .int .i64 104, .int .i64 1, .int .i64 0, .int .i64 1, .int .i64 40, .int .i64 44, .int .i64 3, .int .i64 1, .int .i64 (-1), .int .i64 60, .int .i64 61, .int .i64 3, .int .i64 2, .int .i64 1, .int .i64 5, .int .i64 5] 61 (0, 0)) := by rw [← hW]; exact ((blk_set _ _ _ _ (show t8 ≠ t7 by have := HLT.out; omega)).trans kt8)
  replace kt9 : mblk W8 t9 = some (.cells #[.int .i64 0, .int .i64 0, .int .i64 (-1), .int .i64 100, .int .i64 104, .int .i64 1, .int .i64 0, .int .i64 1, .int .i64 40, .int .i64 44, .int .i64 3, .int .i64 1, .int .i64 (-1), .int .i64 60, .int .i64 61, .int .i64 3, .int .i64 2, .int .i64 1, .int .i64 5, .int .i64 5] 61 (0, 0)) := by rw [← hW]; exact ((blk_set _ _ _ _ (show t9 ≠ t7 by have := HLT.out; omega)).trans kt9)
  rw [hW]
  clear hW
  have zf := frozB kt8
  go_upto_region 10 with (fail)
  clear zf
  obtain ⟨W9, hW⟩ : ∃ z, (W8.setCell ⟨t8, 6, none⟩ (.int .i64 (-1))) = z := ⟨_, rfl⟩
  replace U : Up w0 W9 := by rw [← hW]; exact (Up.set U (p := ⟨t8, 6, none⟩) (show w0.heap.size ≤ t8 by have := HLT.out; omega) (.int .i64 (-1)))
  replace HP := Lib.hid (show T.Kc (fun b => b = q ∨ b = r2 ∨ b = s3 ∨ b = s4 ∨ b = s5 ∨ b = t6 ∨ b = t7 ∨ b = t8 ∨ b = t9) W1 W9 by rw [← hW]; exact T.kc_t (HP.out) (T.kc_set ⟨t8, 6, none⟩ (.int .i64 (-1)) (by simp)))
  replace kq : mblk W9 q = some (.cells #[.int .i64 0, .slice none 0 0, .slice none 0 0, .slice none 0 0, .int .i64 13, .slice (some ⟨r1, 0, none⟩) 3 3, .slice (some ⟨s1, 0, none⟩) 1 1, .slice (some ⟨t1, 0, none⟩) 4 4, .int .i64 3, .slice (some ⟨r2, 0, none⟩) 3 3, .slice (some ⟨s2, 0, none⟩) 1 1, .slice (some ⟨t2, 0, none⟩) 4 4, .int .i64 3, .slice (some ⟨r3, 0, none⟩) 3 3, .slice (some ⟨s3, 0, none⟩) 1 1, .slice (some ⟨t3, 0, none⟩) 4 4, .int .i64 3, .slice (some ⟨r4, 0, none⟩) 3 3, .slice (some ⟨s4, 0, none⟩) 1 1, .slice (some ⟨t4, 0, none⟩) 4 4, .int .i64 3, .slice (some ⟨r5, 0, none⟩) 3 3, .slice (some ⟨s5, 0, none⟩) 1 1, .slice (some ⟨t5, 0, none⟩) 4 4, .int .i64 3, .slice (some ⟨r6, 0, none⟩) 3 3, .slice (some ⟨s6, 0, none⟩) 1 1, .slice (some ⟨t6, 0, none⟩) 4 4, .int .i64 3, .slice (some ⟨r7, 0, none⟩) 3 3, .slice (some ⟨s7, 0, none⟩) 1 1, .slice (some ⟨t7, 0, none⟩) 4 4, .int .i64 3, .slice (some ⟨r8, 0, none⟩) 3 3, .slice (some ⟨s8, 0, none⟩) 1 1, .slice (some ⟨t8, 0, none⟩) 4 4, .int .i64 3, .slice (some ⟨r9, 0, none⟩) 3 3, .slice (some ⟨s9, 0, none⟩) 1 1, .slice (some ⟨t9, 0, none⟩) 4 4] 26 (0, 0)) := by rw [← hW]; exact ((blk_set _ _ _ _ (show q ≠ t8 by have := HLT.out; omega)).trans kq)
  replace kr2 : mblk W9 r2 = some (.cells #[.int .i64 0, .int .i64 1001, .int .i64 0, .int .i64 1, .int .i64 (-10), .int .i64 10] 34 (0, 0)) := by rw [← hW]; exact ((blk_set _ _ _ _ (show r2 ≠ t8 by have := HLT.out; omega)).trans kr2)
  replace ks3 : mblk W9 s3 = some (.cells #[.int .i64 3, .int .i64 1, .int .i64 (-50), .int .i64 50] 63 (0, 0)) := by rw [← hW]; exact ((blk_set _ _ _ _ (show s3 ≠ t8 by have := HLT.out; omega)).trans ks3)
  replace ks4 : mblk W9 s4 = some (.cells #[.int .i64 2, .int .i64 3, .int .i64 (-50), .int .i64 50] 63 (0, 0)) := by rw [← hW]; exact ((blk_set _ _ _ _ (show s4 ≠ t8 by have := HLT.out; omega)).trans ks4)
  replace ks5 : mblk W9 s5 = some (.cells #[.int .i64 2, .int .i64 1, .int .i64 1, .int .i64 0] 63 (0, 0)) := by rw [← hW]; exact ((blk_set _ _ _ _ (show s5 ≠ t8 by have := HLT.out; omega)).trans ks5)
  replace kt6 : mblk W9 t6 = some (.cells #[.int .i64 4, .int .i64 0, .int .i64 (-1), .int .i64 100, .int .i64 104, .int .i64 1, .int .i64 0, .int .i64 1, .int .i64 40, .int .i64 44, .int .i64 3, .int .i64 1, .int .i64 (-1), .int .i64 60, .int .i64 61, .int .i64 3, .int .i64 2, .int .i64 1, .int .i64 5, .int .i64 5] 61 (0, 0)) := by rw [← hW]; exact ((blk_set _ _ _ _ (show t6 ≠ t8 by have := HLT.out; omega)).trans kt6)
  replace kt7 : mblk W9 t7 = some (.cells #[.int .i64 0, .int .i64 0, .int .i64 (-1), .int .i64 100, .int .i64 104, .int .i64 1, .int .i64 0, .int .i64 0, .int .i64 40, .int .i64 44, .int .i64 3, .int .i64 1, .int .i64 (-1), .int .i64 60, .int .i64 61, .int .i64 3, .int .i64 2, .int .i64 1, .int .i64 5, .int .i64 5] 61 (0, 0)) := by rw [← hW]; exact ((blk_set _ _ _ _ (show t7 ≠ t8 by have := HLT.out; omega)).trans kt7)
  replace kt8 : mblk W9 t8 = some (.cells #[.int .i64 0, .int .i64 0, .int .i64 (-1), .int .i64 100, .int .i64 104, .int .i64 1, .int .i64 (-1), .int .i64 1, .int .i64 40, .int .i64 44, .int .i64 3, .int .i64 1, .int .i64 (-1), .int .i64 60, .int .i64 61, .int .i64 3, .int .i64 2, .int .i64 1, .int .i64 5, .int .i64 5] 61 (0, 0)) := by rw [← hW]; exact (blk_put kt8 6 (.int .i64 (-1)))
  replace kt9 : mblk W9 t9 = some (.cells #[.int .i64 0, .int .i64 0, .int .i64 (-1), .int .i64 100, .int .i64 104, .int .i64 1, .int .i64 0, .int .i64 1, .int .i64 40, .int .i64 44, .int .i64 3, .int .i64 1, .int .i64 (-1), .int .i64 60, .int .i64 61, .int .i64 3, .int .i64 2, .int .i64 1, .int .i64 5, .int .i64 5] 61 (0, 0)) := by rw [← hW]; exact ((blk_set _ _ _ _ (show t9 ≠ t8 by have := HLT.out; omega)).trans kt9)
  rw [hW]
  clear hW
  have F1002 := Lib.hid (fun w (u : Up W9 w) => cellB (u.blk kq))
  have F1003 := Lib.hid (fun w (u : Up W9 w) => cellB (u.blk kr2))
  have F1004 := Lib.hid (fun w (u : Up W9 w) => cellB (u.blk ks3))
  have F1005 := Lib.hid (fun w (u : Up W9 w) => cellB (u.blk ks4))
  have F1006 := Lib.hid (fun w (u : Up W9 w) => cellB (u.blk ks5))
  have F1007 := Lib.hid (fun w (u : Up W9 w) => cellB (u.blk kt6))
  have F1008 := Lib.hid (fun w (u : Up W9 w) => cellB (u.blk kt7))
  have F1009 := Lib.hid (fun w (u : Up W9 w) => cellB (u.blk kt8))
  have F1010 := Lib.hid (fun w (u : Up W9 w) => cellB (u.blk kt9))
  refine (wpIn_wide (n := 5)).1 ?_
  refine wpIn_nrm ?_
  refine T.regionQ (fun w' => Up W9 w') 7 1 hmx (by kernel_rfl) (by kernel_rfl) ((Up.refl W9).drew) (fun hCl => ?_)
  refine T.qTake (i := 0) (d := (some 100)) (v := ?v14) rfl rfl (by kernel_rfl) (by decide) hCl (by kernel_rfl) (by kernel_rfl) (by kernel_rfl) (by rfl) ?hy14 (fun _ _ _ => trivial) (fun hCl' => ?_)
  case hy14 => (intro w hSw; refine T.qVal ?_ hSw; (have fF1002 := F1002.out w hSw; have fF1003 := F1003.out w hSw; have fF1004 := F1004.out w hSw; have fF1005 := F1005.out w hSw; have fF1006 := F1006.out w hSw; have fF1007 := F1007.out w hSw; have fF1008 := F1008.out w hSw; have fF1009 := F1009.out w hSw; have fF1010 := F1010.out w hSw); (try dsimp only [List.getElem_toArray, List.getElem_cons_succ, List.getElem_cons_zero]); go_simp; try with_reducible rfl)
  simp only [Act.put, List.setIfInBounds_toArray, List.set_cons_zero, List.set_cons_succ]
  replace hCl := hCl'; clear hCl'
  refine T.qTake (i := 1) (d := (some 101)) (v := ?v15) rfl rfl (by kernel_rfl) (by decide) hCl (by kernel_rfl) (by kernel_rfl) (by kernel_rfl) (by rfl) ?hy15 (fun _ _ _ => trivial) (fun hCl' => ?_)
  case hy15 => (intro w hSw; refine T.qVal ?_ hSw; (have fF1002 := F1002.out w hSw; have fF1003 := F1003.out w hSw; have fF1004 := F1004.out w hSw; have fF1005 := F1005.out w hSw; have fF1006 := F1006.out w hSw; have fF1007 := F1007.out w hSw; have fF1008 := F1008.out w hSw; have fF1009 := F1009.out w hSw; have fF1010 := F1010.out w hSw); (try dsimp only [List.getElem_toArray, List.getElem_cons_succ, List.getElem_cons_zero]); go_simp; try with_reducible rfl)
  simp only [Act.put, List.setIfInBounds_toArray, List.set_cons_zero, List.set_cons_succ]
  replace hCl := hCl'; clear hCl'
  refine T.qTake (i := 2) (d := (some 102)) (v := ?v16) rfl rfl (by kernel_rfl) (by decide) hCl (by kernel_rfl) (by kernel_rfl) (by kernel_rfl) (by rfl) ?hy16 (fun _ _ _ => trivial) (fun hCl' => ?_)
  case hy16 => (intro w hSw; refine T.qVal ?_ hSw; (have fF1002 := F1002.out w hSw; have fF1003 := F1003.out w hSw; have fF1004 := F1004.out w hSw; have fF1005 := F1005.out w hSw; have fF1006 := F1006.out w hSw; have fF1007 := F1007.out w hSw; have fF1008 := F1008.out w hSw; have fF1009 := F1009.out w hSw; have fF1010 := F1010.out w hSw); (try dsimp only [List.getElem_toArray, List.getElem_cons_succ, List.getElem_cons_zero]); go_simp; try with_reducible rfl)
  simp only [Act.put, List.setIfInBounds_toArray, List.set_cons_zero, List.set_cons_succ]
  replace hCl := hCl'; clear hCl'
  refine T.qTake (i := 3) (d := (some 103)) (v := ?v17) rfl rfl (by kernel_rfl) (by decide) hCl (by kernel_rfl) (by kernel_rfl) (by kernel_rfl) (by rfl) ?hy17 (fun _ _ _ => trivial) (fun hCl' => ?_)
  case hy17 => (intro w hSw; refine T.qVal ?_ hSw; (have fF1002 := F1002.out w hSw; have fF1003 := F1003.out w hSw; have fF1004 := F1004.out w hSw; have fF1005 := F1005.out w hSw; have fF1006 := F1006.out w hSw; have fF1007 := F1007.out w hSw; have fF1008 := F1008.out w hSw; have fF1009 := F1009.out w hSw; have fF1010 := F1010.out w hSw); (try dsimp only [List.getElem_toArray, List.getElem_cons_succ, List.getElem_cons_zero]); go_simp; try with_reducible rfl)
  simp only [Act.put, List.setIfInBounds_toArray, List.set_cons_zero, List.set_cons_succ]
  replace hCl := hCl'; clear hCl'
  refine T.qTake (i := 4) (d := (some 104)) (v := ((SpV 0 200001))) rfl rfl (by kernel_rfl) (by decide) hCl (by kernel_rfl) (by kernel_rfl) (by kernel_rfl) (by rfl) ?hy18 (fun _ _ _ => trivial) (fun hCl' => ?_)
  case hy18 => (intro w hSw; (have fF1002 := F1002.out w hSw; have fF1003 := F1003.out w hSw; have fF1004 := F1004.out w hSw; have fF1005 := F1005.out w hSw; have fF1006 := F1006.out w hSw; have fF1007 := F1007.out w hSw; have fF1008 := F1008.out w hSw; have fF1009 := F1009.out w hSw; have fF1010 := F1010.out w hSw); (try dsimp only [List.getElem_toArray, List.getElem_cons_succ, List.getElem_cons_zero]); go_simp; (refine (callsIn_wide.2 (B_To_any 0 200001 _)).mono ?_; rintro e w3 ⟨rfl, u3⟩; exact ⟨rfl, hSw.trans u3⟩))
  simp only [Act.put, List.setIfInBounds_toArray, List.set_cons_zero, List.set_cons_succ]
  replace hCl := hCl'; clear hCl'
  refine T.qTake (i := 5) (d := (some 105)) (v := ?v19) rfl rfl (by kernel_rfl) (by decide) hCl (by kernel_rfl) (by kernel_rfl) (by kernel_rfl) (by rfl) ?hy19 (fun _ _ _ => trivial) (fun hCl' => ?_)
  case hy19 => (intro w hSw; refine T.qVal ?_ hSw; (have fF1002 := F1002.out w hSw; have fF1003 := F1003.out w hSw; have fF1004 := F1004.out w hSw; have fF1005 := F1005.out w hSw; have fF1006 := F1006.out w hSw; have fF1007 := F1007.out w hSw; have fF1008 := F1008.out w hSw; have fF1009 := F1009.out w hSw; have fF1010 := F1010.out w hSw); (try dsimp only [List.getElem_toArray, List.getElem_cons_succ, List.getElem_cons_zero]); go_simp; try with_reducible rfl)
  simp only [Act.put, List.setIfInBounds_toArray, List.set_cons_zero, List.set_cons_succ]
  replace hCl := hCl'; clear hCl'
  refine T.qTake (i := 6) (d := (some 106)) (v := ?v20) rfl rfl (by kernel_rfl) (by decide) hCl (by kernel_rfl) (by kernel_rfl) (by kernel_rfl) (by rfl) ?hy20 (fun _ _ _ => trivial) (fun hCl' => ?_)
  case hy20 => (intro w hSw; refine T.qVal ?_ hSw; (have fF1002 := F1002.out w hSw; have fF1003 := F1003.out w hSw; have fF1004 := F1004.out w hSw; have fF1005 := F1005.out w hSw; have fF1006 := F1006.out w hSw; have fF1007 := F1007.out w hSw; have fF1008 := F1008.out w hSw; have fF1009 := F1009.out w hSw; have fF1010 := F1010.out w hSw); (try dsimp only [List.getElem_toArray, List.getElem_cons_succ, List.getElem_cons_zero]); go_simp; try with_reducible rfl)
  simp only [Act.put, List.setIfInBounds_toArray, List.set_cons_zero, List.set_cons_succ]
  replace hCl := hCl'; clear hCl'
  refine T.tail_intro (by kernel_rfl) (fun Y1001 hY1001 => ?_)
  have hZ := hY1001
  replace HP := Lib.hid (T.kc_t HP.out (T.kc_up hZ))
  clear hZ
  replace U := U.trans hY1001
  replace kq := hY1001.blk kq
  replace kr2 := hY1001.blk kr2
  replace ks3 := hY1001.blk ks3
  replace ks4 := hY1001.blk ks4
  replace ks5 := hY1001.blk ks5
  replace kt6 := hY1001.blk kt6
  replace kt7 := hY1001.blk kt7
  replace kt8 := hY1001.blk kt8
  replace kt9 := hY1001.blk kt9
  clear F1002 F1003 F1004 F1005 F1006 F1007 F1008 F1009 F1010 hY1001
  have zf := frozB kt9
  refine lastG (i := 7) (by kernel_rfl) rfl (by rfl) (by decide) (fun K hK => ?_)
  go_simp
  obtain ⟨W10, hW⟩ : ∃ z, ((Y1001.setCell ⟨t9, 13, none⟩ (.int .i64 0)).setCell ⟨t9, 14, none⟩ (.int .i64 200001)) = z := ⟨_, rfl⟩
  replace U : Up w0 W10 := by rw [← hW]; exact (Up.set (Up.set U (p := ⟨t9, 13, none⟩) (show w0.heap.size ≤ t9 by have := HLT.out; omega) (.int .i64 0)) (p := ⟨t9, 14, none⟩) (show w0.heap.size ≤ t9 by have := HLT.out; omega) (.int .i64 200001))
  replace HP := Lib.hid (show T.Kc (fun b => b = q ∨ b = r2 ∨ b = s3 ∨ b = s4 ∨ b = s5 ∨ b = t6 ∨ b = t7 ∨ b = t8 ∨ b = t9) W1 W10 by rw [← hW]; exact T.kc_t (T.kc_t (HP.out) (T.kc_set ⟨t9, 13, none⟩ (.int .i64 0) (by simp))) (T.kc_set ⟨t9, 14, none⟩ (.int .i64 200001) (by simp)))
  replace kq : mblk W10 q = some (.cells #[.int .i64 0, .slice none 0 0, .slice none 0 0, .slice none 0 0, .int .i64 13, .slice (some ⟨r1, 0, none⟩) 3 3, .slice (some ⟨s1, 0, none⟩) 1 1, .slice (some ⟨t1, 0, none⟩) 4 4, .int .i64 3, .slice (some ⟨r2, 0, none⟩) 3 3, .slice (some ⟨s2, 0, none⟩) 1 1, .slice (some ⟨t2, 0, none⟩) 4 4, .int .i64 3, .slice (some ⟨r3, 0, none⟩) 3 3, .slice (some ⟨s3, 0, none⟩) 1 1, .slice (some ⟨t3, 0, none⟩) 4 4, .int .i64 3, .slice (some ⟨r4, 0, none⟩) 3 3, .slice (some ⟨s4, 0, none⟩) 1 1, .slice (some ⟨t4, 0, none⟩) 4 4, .int .i64 3, .slice (some ⟨r5, 0, none⟩) 3 3, .slice (some ⟨s5, 0, none⟩) 1 1, .slice (some ⟨t5, 0, none⟩) 4 4, .int .i64 3, .slice (some ⟨r6, 0, none⟩) 3 3, .slice (some ⟨s6, 0, none⟩) 1 1, .slice (some ⟨t6, 0, none⟩) 4 4, .int .i64 3, .slice (some ⟨r7, 0, none⟩) 3 3, .slice (some ⟨s7, 0, none⟩) 1 1, .slice (some ⟨t7, 0, none⟩) 4 4, .int .i64 3, .slice (some ⟨r8, 0, none⟩) 3 3, .slice (some ⟨s8, 0, none⟩) 1 1, .slice (some ⟨t8, 0, none⟩) 4 4, .int .i64 3, .slice (some ⟨r9, 0, none⟩) 3 3, .slice (some ⟨s9, 0, none⟩) 1 1, .slice (some ⟨t9, 0, none⟩) 4 4] 26 (0, 0)) := by rw [← hW]; exact ((blk_set _ _ _ _ (show q ≠ t9 by have := HLT.out; omega)).trans ((blk_set _ _ _ _ (show q ≠ t9 by have := HLT.out; omega)).trans kq))
  replace kr2 : mblk W10 r2 = some (.cells #[.int .i64 0, .int .i64 1001, .int .i64 0, .int .i64 1, .int .i64 (-10), .int .i64 10] 34 (0, 0)) := by rw [← hW]; exact ((blk_set _ _ _ _ (show r2 ≠ t9 by have := HLT.out; omega)).trans ((blk_set _ _ _ _ (show r2 ≠ t9 by have := HLT.out; omega)).trans kr2))
  replace ks3 : mblk W10 s3 = some (.cells #[.int .i64 3, .int .i64 1, .int .i64 (-50), .int .i64 50] 63 (0, 0)) := by rw [← hW]; exact ((blk_set _ _ _ _ (show s3 ≠ t9 by have := HLT.out; omega)).trans ((blk_set _ _ _ _ (show s3 ≠ t9 by have := HLT.out; omega)).trans ks3))
  replace ks4 : mblk W10 s4 = some (.cells #[.int .i64 2, .int .i64 3, .int .i64 (-50), .int .i64 50] 63 (0, 0)) := by rw [← hW]; exact ((blk_set _ _ _ _ (show s4 ≠ t9 by have := HLT.out; omega)).trans ((blk_set _ _ _ _ (show s4 ≠ t9 by have := HLT.out; omega)).trans ks4))
  replace ks5 : mblk W10 s5 = some (.cells #[.int .i64 2, .int .i64 1, .int .i64 1, .int .i64 0] 63 (0, 0)) := by rw [← hW]; exact ((blk_set _ _ _ _ (show s5 ≠ t9 by have := HLT.out; omega)).trans ((blk_set _ _ _ _ (show s5 ≠ t9 by have := HLT.out; omega)).trans ks5))
  replace kt6 : mblk W10 t6 = some (.cells #[.int .i64 4, .int .i64 0, .int .i64 (-1), .int .i64 100, .int .i64 104, .int .i64 1, .int .i64 0, .int .i64 1, .int .i64 40, .int .i64 44, .int .i64 3, .int .i64 1, .int .i64 (-1), .int .i64 60, .int .i64 61, .int .i64 3, .int .i64 2, .int .i64 1, .int .i64 5, .int .i64 5] 61 (0, 0)) := by rw [← hW]; exact ((blk_set _ _ _ _ (show t6 ≠ t9 by have := HLT.out; omega)).trans ((blk_set _ _ _ _ (show t6 ≠ t9 by have := HLT.out; omega)).trans kt6))
  replace kt7 : mblk W10 t7 = some (.cells #[.int .i64 0, .int .i64 0, .int .i64 (-1), .int .i64 100, .int .i64 104, .int .i64 1, .int .i64 0, .int .i64 0, .int .i64 40, .int .i64 44, .int .i64 3, .int .i64 1, .int .i64 (-1), .int .i64 60, .int .i64 61, .int .i64 3, .int .i64 2, .int .i64 1, .int .i64 5, .int .i64 5] 61 (0, 0)) := by rw [← hW]; exact ((blk_set _ _ _ _ (show t7 ≠ t9 by have := HLT.out; omega)).trans ((blk_set _ _ _ _ (show t7 ≠ t9 by have := HLT.out; omega)).trans kt7))
  replace kt8 : mblk W10 t8 = some (.cells #[.int .i64 0, .int .i64 0, .int .i64 (-1), .int .i64 100, .int .i64 104, .int .i64 1, .int .i64 (-1), .int .i64 1, .int .i64 40, .int .i64 44, .int .i64 3, .int .i64 1, .int .i64 (-1), .int .i64 60, .int .i64 61, .int .i64 3, .int .i64 2, .int .i64 1, .int .i64 5, .int .i64 5] 61 (0, 0)) := by rw [← hW]; exact ((blk_set _ _ _ _ (show t8 ≠ t9 by have := HLT.out; omega)).trans ((blk_set _ _ _ _ (show t8 ≠ t9 by have := HLT.out; omega)).trans kt8))
  replace kt9 : mblk W10 t9 = some (.cells #[.int .i64 0, .int .i64 0, .int .i64 (-1), .int .i64 100, .int .i64 104, .int .i64 1, .int .i64 0, .int .i64 1, .int .i64 40, .int .i64 44, .int .i64 3, .int .i64 1, .int .i64 (-1), .int .i64 0, .int .i64 200001, .int .i64 3, .int .i64 2, .int .i64 1, .int .i64 5, .int .i64 5] 61 (0, 0)) := by rw [← hW]; exact (blk_put (blk_put kt9 13 (.int .i64 0)) 14 (.int .i64 200001))
  rw [hW]
  clear hW
  refine hK.out _ _ ?_
  clear hK K
  refine doneG (by kernel_rfl) ?_ _
  refine S.nrm_intro ?_
  clear zf
  go_step
  go_step
  exact kn_tail11 _ _ _ _ _ _ _ _ _ _ _ _ _ _ _ _ _ _ _ _ _ _ _ _ _ _ _ _ _ _ _ _ _ _ _ _ _ _ _ _ _ _ _ _ _ _ _ _ _ _ _ _ _ _ _ _ _ _ _ _ _ _ _ _ _ _ _ _ _ _ _ _ _ _ _ _ _ _ _ _ _ _ _ _ _ _ _ _ _ _ _ _ _ _ _ _ _ _ _ _ _ _ _ _ _ _ (blk_lt kq) (kn_bad kq (HP.out.blk HA.out.1 (by have := HLT.out; omega)) (HP.out.blk HA.out.2.1 (by have := HLT.out; omega)) (HP.out.blk HA.out.2.2.1 (by have := HLT.out; omega)) kr2 (HP.out.blk HA.out.2.2.2.2.1 (by have := HLT.out; omega)) (HP.out.blk HA.out.2.2.2.2.2.1 (by have := HLT.out; omega)) (HP.out.blk HA.out.2.2.2.2.2.2.1 (by have := HLT.out; omega)) ks3 (HP.out.blk HA.out.2.2.2.2.2.2.2.2.1 (by have := HLT.out; omega)) (HP.out.blk HA.out.2.2.2.2.2.2.2.2.2.1 (by have := HLT.out; omega)) ks4 (HP.out.blk HA.out.2.2.2.2.2.2.2.2.2.2.2.1 (by have := HLT.out; omega)) (HP.out.blk HA.out.2.2.2.2.2.2.2.2.2.2.2.2.1 (by have := HLT.out; omega)) ks5 (HP.out.blk HA.out.2.2.2.2.2.2.2.2.2.2.2.2.2.2.1 (by have := HLT.out; omega)) (HP.out.blk HA.out.2.2.2.2.2.2.2.2.2.2.2.2.2.2.2.1 (by have := HLT.out; omega)) (HP.out.blk HA.out.2.2.2.2.2.2.2.2.2.2.2.2.2.2.2.2.1 (by have := HLT.out; omega)) kt6 (HP.out.blk HA.out.2.2.2.2.2.2.2.2.2.2.2.2.2.2.2.2.2.2.1 (by have := HLT.out; omega)) (HP.out.blk HA.out.2.2.2.2.2.2.2.2.2.2.2.2.2.2.2.2.2.2.2.1 (by have := HLT.out; omega)) kt7 (HP.out.blk HA.out.2.2.2.2.2.2.2.2.2.2.2.2.2.2.2.2.2.2.2.2.2.1 (by have := HLT.out; omega)) (HP.out.blk HA.out.2.2.2.2.2.2.2.2.2.2.2.2.2.2.2.2.2.2.2.2.2.2.1 (by have := HLT.out; omega)) kt8 (HP.out.blk HA.out.2.2.2.2.2.2.2.2.2.2.2.2.2.2.2.2.2.2.2.2.2.2.2.2.1 (by have := HLT.out; omega)) (HP.out.blk HA.out.2.2.2.2.2.2.2.2.2.2.2.2.2.2.2.2.2.2.2.2.2.2.2.2.2.1 (by have := HLT.out; omega)) kt9) U

end Go.Proofs.Ytcmdaiklkdeanaa
