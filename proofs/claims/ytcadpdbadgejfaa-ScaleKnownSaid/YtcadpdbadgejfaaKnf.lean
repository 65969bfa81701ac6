import Derived.Deep.Cut
import Derived.Test.YtcadpdbadgejfaaKne
/- The law ScaleKnown: the seven bad books. -/
namespace Go.Proofs.Ytcadpdbadgejfaa
open Go.RowKit
set_option maxRecDepth 100000 in
set_option maxHeartbeats 1000000 in
theorem kn_bookB (w : World) : Calls Try.prog 52 #[.slice none 0 0] w fun e w' => ∃ g g', e = .returned (BV 10 5 4 (-1) 2 10 (.slice (some ⟨g, 0, none⟩) 3 3) (.slice (some ⟨g', 0, none⟩) 2 2)) ∧ Up w w' ∧ w.heap.size < g ∧ w.heap.size < g' ∧ g < g' ∧ mblk w' g = some (.cells #[.int .i64 (-4), .int .i64 (-5), .int .i64 (-4)] 3 (0, 0)) ∧ mblk w' g' = some (.cells #[.int .i64 0, .int .i64 18, .int .i64 22, .int .i64 6, .int .i64 (-3), .int .i64 4] 71 (0, 0)) := by
  have HT1 := Lib.hid (fun w => B_To_any 18 22 w)
  have HT2 := Lib.hid (fun w => B_To_any (-3) 4 w)
  have HR := Lib.hid (fun w => l_rule_any w)
  have U0 := (Up.refl w).alloc (.cells BCZ 44)
  have k0 := blk_new w (.cells BCZ 44) _ rfl
  go_enter Try.func52, Try.ntmps52
  go_wp2_with fail
  refine (HR.out _).mono ?_
  rintro e w1 ⟨rfl, u1⟩
  have k1 := u1.blk k0
  have V1 := U0.trans u1
  have k1lt := blk_lt k1
  clear u1 k0 U0 HR
  go_wp2_with fail
  have g0 := blk_new w1 (.cells #[.int .i64 (-4), .int .i64 (-5), .int .i64 (-4)] 3) _ rfl
  have k2 := blk_keep (.cells #[.int .i64 (-4), .int .i64 (-5), .int .i64 (-4)] 3) k1
  have V2 := V1.alloc (.cells #[.int .i64 (-4), .int .i64 (-5), .int .i64 (-4)] 3)
  refine (HT1.out _).mono ?_
  rintro e w3 ⟨rfl, u3⟩
  replace g0 := u3.blk g0
  replace k2 := u3.blk k2
  replace V2 := V2.trans u3
  clear u3 k1 V1 HT1
  go_wp2_with fail
  refine (HT2.out _).mono ?_
  rintro e w4 ⟨rfl, u4⟩
  replace g0 := u4.blk g0
  replace k2 := u4.blk k2
  replace V2 := V2.trans u4
  clear u4 HT2
  have lt := blk_lt k2
  have zz := frozB k2
  have z4 := frozB (blk_keep (.cells (BC 10 5 4 (-1) 2 10 (.slice (some ⟨w1.heap.size, 0, none⟩) 3 3) (.slice (some ⟨w4.heap.size, 0, none⟩) 2 2)) 44) (blk_keep (.cells #[.int .i64 0, .int .i64 18, .int .i64 22, .int .i64 6, .int .i64 (-3), .int .i64 4] 71) k2))
  have hne : w1.heap.size ≠ w.heap.size := by have := blk_lt g0; have := k1lt; omega
  have hsz : ((((((((w4.setCell ⟨w.heap.size, 0, none⟩ (.int .i64 10)).setCell ⟨w.heap.size, 1, none⟩ (.int .i64 5)).setCell ⟨w.heap.size, 2, none⟩ (.int .i64 4)).setCell ⟨w.heap.size, 3, none⟩ (.int .i64 (-1))).setCell ⟨w.heap.size, 4, none⟩ (.int .i64 2)).setCell ⟨w.heap.size, 5, none⟩ (.int .i64 10)).setCell ⟨w.heap.size, 6, none⟩ (.slice (some ⟨w1.heap.size, 0, none⟩) 3 3)).setCell ⟨w.heap.size, 7, none⟩ (.slice (some ⟨w4.heap.size, 0, none⟩) 2 2)).heap.size = w4.heap.size := by simp [World.setCell]
  have UE := (((((((((V2.set (p := ⟨w.heap.size, 0, none⟩) (Nat.le_refl _) (.int .i64 10)).set (p := ⟨w.heap.size, 1, none⟩) (Nat.le_refl _) (.int .i64 5)).set (p := ⟨w.heap.size, 2, none⟩) (Nat.le_refl _) (.int .i64 4)).set (p := ⟨w.heap.size, 3, none⟩) (Nat.le_refl _) (.int .i64 (-1))).set (p := ⟨w.heap.size, 4, none⟩) (Nat.le_refl _) (.int .i64 2)).set (p := ⟨w.heap.size, 5, none⟩) (Nat.le_refl _) (.int .i64 10)).set (p := ⟨w.heap.size, 6, none⟩) (Nat.le_refl _) (.slice (some ⟨w1.heap.size, 0, none⟩) 3 3)).set (p := ⟨w.heap.size, 7, none⟩) (Nat.le_refl _) (.slice (some ⟨w4.heap.size, 0, none⟩) 2 2)).alloc (.cells #[.int .i64 0, .int .i64 18, .int .i64 22, .int .i64 6, .int .i64 (-3), .int .i64 4] 71)).alloc (.cells (BC 10 5 4 (-1) 2 10 (.slice (some ⟨w1.heap.size, 0, none⟩) 3 3) (.slice (some ⟨w4.heap.size, 0, none⟩) 2 2)) 44)
  have C := Lib.hid (cellB (blk_keep (.cells (BC 10 5 4 (-1) 2 10 (.slice (some ⟨w1.heap.size, 0, none⟩) 3 3) (.slice (some ⟨w4.heap.size, 0, none⟩) 2 2)) 44) (blk_keep (.cells #[.int .i64 0, .int .i64 18, .int .i64 22, .int .i64 6, .int .i64 (-3), .int .i64 4] 71) (blk_put (blk_put (blk_put (blk_put (blk_put (blk_put (blk_put (blk_put k2 0 (.int .i64 10)) 1 (.int .i64 5)) 2 (.int .i64 4)) 3 (.int .i64 (-1))) 4 (.int .i64 2)) 5 (.int .i64 10)) 6 (.slice (some ⟨w1.heap.size, 0, none⟩) 3 3)) 7 (.slice (some ⟨w4.heap.size, 0, none⟩) 2 2)))))
  have GS := Lib.hid (show mblk ((((((((((w4.setCell ⟨w.heap.size, 0, none⟩ (.int .i64 10)).setCell ⟨w.heap.size, 1, none⟩ (.int .i64 5)).setCell ⟨w.heap.size, 2, none⟩ (.int .i64 4)).setCell ⟨w.heap.size, 3, none⟩ (.int .i64 (-1))).setCell ⟨w.heap.size, 4, none⟩ (.int .i64 2)).setCell ⟨w.heap.size, 5, none⟩ (.int .i64 10)).setCell ⟨w.heap.size, 6, none⟩ (.slice (some ⟨w1.heap.size, 0, none⟩) 3 3)).setCell ⟨w.heap.size, 7, none⟩ (.slice (some ⟨w4.heap.size, 0, none⟩) 2 2)).alloc (.cells #[.int .i64 0, .int .i64 18, .int .i64 22, .int .i64 6, .int .i64 (-3), .int .i64 4] 71)).alloc (.cells (BC 10 5 4 (-1) 2 10 (.slice (some ⟨w1.heap.size, 0, none⟩) 3 3) (.slice (some ⟨w4.heap.size, 0, none⟩) 2 2)) 44)) w1.heap.size = some (.cells #[.int .i64 (-4), .int .i64 (-5), .int .i64 (-4)] 3 (0, 0)) from blk_keep _ (blk_keep _ (by rw [blk_set _ _ _ _ hne, blk_set _ _ _ _ hne, blk_set _ _ _ _ hne, blk_set _ _ _ _ hne, blk_set _ _ _ _ hne, blk_set _ _ _ _ hne, blk_set _ _ _ _ hne, blk_set _ _ _ _ hne]; exact g0)))
  have GL := Lib.hid (show mblk ((((((((((w4.setCell ⟨w.heap.size, 0, none⟩ (.int .i64 10)).setCell ⟨w.heap.size, 1, none⟩ (.int .i64 5)).setCell ⟨w.heap.size, 2, none⟩ (.int .i64 4)).setCell ⟨w.heap.size, 3, none⟩ (.int .i64 (-1))).setCell ⟨w.heap.size, 4, none⟩ (.int .i64 2)).setCell ⟨w.heap.size, 5, none⟩ (.int .i64 10)).setCell ⟨w.heap.size, 6, none⟩ (.slice (some ⟨w1.heap.size, 0, none⟩) 3 3)).setCell ⟨w.heap.size, 7, none⟩ (.slice (some ⟨w4.heap.size, 0, none⟩) 2 2)).alloc (.cells #[.int .i64 0, .int .i64 18, .int .i64 22, .int .i64 6, .int .i64 (-3), .int .i64 4] 71)).alloc (.cells (BC 10 5 4 (-1) 2 10 (.slice (some ⟨w1.heap.size, 0, none⟩) 3 3) (.slice (some ⟨w4.heap.size, 0, none⟩) 2 2)) 44)) w4.heap.size = some (.cells #[.int .i64 0, .int .i64 18, .int .i64 22, .int .i64 6, .int .i64 (-3), .int .i64 4] 71 (0, 0)) from blk_keep _ (blk_new _ _ _ hsz.symm))
  have hgx := blk_lt g0
  clear V2 hsz hne g0
  go_wp2_with fail
  have cc := C.out
  refine bodyPost_ret (v := BV 10 5 4 (-1) 2 10 (.slice (some ⟨w1.heap.size, 0, none⟩) 3 3) (.slice (some ⟨w4.heap.size, 0, none⟩) 2 2)) (by simp [results, Try.results52, go_sem, cc]) rfl ⟨_, _, rfl, UE, k1lt, Nat.lt_trans k1lt hgx, hgx, GS.out, GL.out⟩

theorem kn_looks {w : World} {g : Nat} {t0 l0 h0 t1 l1 h1 : Int} (k : mblk w g = some (.cells #[.int .i64 t0, .int .i64 l0, .int .i64 h0, .int .i64 t1, .int .i64 l1, .int .i64 h1] 71 (0, 0))) : Lks w (.slice (some ⟨g, 0, none⟩) 2 2) [(t0, l0, h0), (t1, l1, h1)] := by
  refine ⟨⟨_, _, rfl, Nat.le_refl _, by simp, fun _ => ⟨_, 0, rfl, blk_lt k, fun j hj => ?_⟩⟩⟩
  have : j = 0 ∨ j = 1 := by simp at hj; omega
  rw [cellB k, cellB k, cellB k]
  rcases this with rfl | rfl <;> exact ⟨rfl, rfl, rfl⟩
theorem kn_st {w : World} {g : Nat} {x y z : Int} (k : mblk w g = some (.cells #[.int .i64 x, .int .i64 y, .int .i64 z] 3 (0, 0))) : Ints w (.slice (some ⟨g, 0, none⟩) 3 3) [x, y, z] := by
  refine Ints.new (cap := 3) (xs := [x, y, z]) k (by simp) (by simp) fun j hj => ?_
  have : j = 0 ∨ j = 1 ∨ j = 2 := by have : j < 3 := hj; omega
  rcases this with rfl | rfl | rfl <;> rfl
theorem kn_st1 {w : World} {g : Nat} {x : Int} (k : mblk w g = some (.cells #[.int .i64 x] 3 (0, 0))) : Ints w (.slice (some ⟨g, 0, none⟩) 1 1) [x] := by
  refine Ints.new (cap := 1) (xs := [x]) k (by simp) (by simp) fun j hj => ?_
  have : j = 0 := by have : j < 1 := hj; omega
  subst this
  rfl
theorem kn_bad {W : World} {q p3 p4 g1 h1 g2 h2 g3 h3 g4 h4 g5 h5 g6 h6 : Nat} (kq : mblk W q = some (.cells #[(.int .i64 0), (.int .i64 0), (.int .i64 0), (.int .i64 0), (.int .i64 0), (.int .i64 0), (.slice none 0 0), (.slice none 0 0), (.int .i64 10), (.int .i64 5), (.int .i64 4), (.int .i64 (-1)), (.int .i64 2), (.int .i64 61), (.slice (some ⟨g1, 0, none⟩) 3 3), (.slice (some ⟨h1, 0, none⟩) 2 2), (.int .i64 10), (.int .i64 5), (.int .i64 4), (.int .i64 (-1)), (.int .i64 2), (.int .i64 2), (.slice (some ⟨g2, 0, none⟩) 3 3), (.slice (some ⟨h2, 0, none⟩) 2 2), (.int .i64 10), (.int .i64 5), (.int .i64 4), (.int .i64 (-1)), (.int .i64 2), (.int .i64 10), (.slice (some ⟨p3, 0, none⟩) 3 3), (.slice (some ⟨h3, 0, none⟩) 2 2), (.int .i64 10), (.int .i64 5), (.int .i64 4), (.int .i64 (-1)), (.int .i64 2), (.int .i64 10), (.slice (some ⟨p4, 0, none⟩) 1 1), (.slice (some ⟨h4, 0, none⟩) 2 2), (.int .i64 10), (.int .i64 5), (.int .i64 4), (.int .i64 (-1)), (.int .i64 2), (.int .i64 10), (.slice (some ⟨g5, 0, none⟩) 3 3), (.slice (some ⟨h5, 0, none⟩) 2 2), (.int .i64 10), (.int .i64 5), (.int .i64 4), (.int .i64 (-1)), (.int .i64 2), (.int .i64 10), (.slice (some ⟨g6, 0, none⟩) 3 3), (.slice (some ⟨h6, 0, none⟩) 2 2)] 44 (0, 0))) (s1 : mblk W g1 = some (.cells #[.int .i64 (-4), .int .i64 (-5), .int .i64 (-4)] 3 (0, 0))) (l1 : mblk W h1 = some (.cells #[.int .i64 0, .int .i64 18, .int .i64 22, .int .i64 6, .int .i64 (-3), .int .i64 4] 71 (0, 0))) (s2 : mblk W g2 = some (.cells #[.int .i64 (-4), .int .i64 (-5), .int .i64 (-4)] 3 (0, 0))) (l2 : mblk W h2 = some (.cells #[.int .i64 0, .int .i64 18, .int .i64 22, .int .i64 6, .int .i64 (-3), .int .i64 4] 71 (0, 0))) (_s3 : mblk W g3 = some (.cells #[.int .i64 (-4), .int .i64 (-5), .int .i64 (-4)] 3 (0, 0))) (l3 : mblk W h3 = some (.cells #[.int .i64 0, .int .i64 18, .int .i64 22, .int .i64 6, .int .i64 (-3), .int .i64 4] 71 (0, 0))) (_s4 : mblk W g4 = some (.cells #[.int .i64 (-4), .int .i64 (-5), .int .i64 (-4)] 3 (0, 0))) (l4 : mblk W h4 = some (.cells #[.int .i64 0, .int .i64 18, .int .i64 22, .int .i64 6, .int .i64 (-3), .int .i64 4] 71 (0, 0))) (s5 : mblk W g5 = some (.cells #[.int .i64 (-4), .int .i64 (-5), .int .i64 (-4)] 3 (0, 0))) (l5 : mblk W h5 = some (.cells #[.int .i64 0, .int .i64 18, .int .i64 22, .int .i64 11, .int .i64 (-3), .int .i64 4] 71 (0, 0))) (s6 : mblk W g6 = some (.cells #[.int .i64 (-4), .int .i64 (-5), .int .i64 (-4)] 3 (0, 0))) (l6 : mblk W h6 = some (.cells #[.int .i64 0, .int .i64 0, .int .i64 20001, .int .i64 6, .int .i64 (-3), .int .i64 4] 71 (0, 0))) (r3 : mblk W p3 = some (.cells #[.int .i64 (-4), .int .i64 (-5), .int .i64 (-10)] 3 (0, 0))) (r4 : mblk W p4 = some (.cells #[.int .i64 5] 3 (0, 0))) : ∀ i, i < 7 → Kn.Bad W q i := fun i hi => by
  have : i = 0 ∨ i = 1 ∨ i = 2 ∨ i = 3 ∨ i = 4 ∨ i = 5 ∨ i = 6 := by omega
  rcases this with rfl | rfl | rfl | rfl | rfl | rfl | rfl
  · exact ⟨0, 0, 0, 0, 0, 0, none, 0, 0, none, 0, 0, [], [], ⟨by rw [cellB kq]; rfl, by rw [cellB kq]; rfl, by rw [cellB kq]; rfl, by rw [cellB kq]; rfl, by rw [cellB kq]; rfl, by rw [cellB kq]; rfl, by rw [cellB kq]; rfl, by rw [cellB kq]; rfl⟩, Ints.nil W, ⟨none, 0, rfl, Nat.le_refl _, by simp, fun h => absurd h (by simp)⟩, by kernel_rfl⟩
  · exact ⟨10, 5, 4, -1, 2, 61, some ⟨g1, 0, none⟩, 3, 3, some ⟨h1, 0, none⟩, 2, 2, exSt, exLk, ⟨by rw [cellB kq]; rfl, by rw [cellB kq]; rfl, by rw [cellB kq]; rfl, by rw [cellB kq]; rfl, by rw [cellB kq]; rfl, by rw [cellB kq]; rfl, by rw [cellB kq]; rfl, by rw [cellB kq]; rfl⟩, kn_st s1, kn_looks l1, by kernel_rfl⟩
  · exact ⟨10, 5, 4, -1, 2, 2, some ⟨g2, 0, none⟩, 3, 3, some ⟨h2, 0, none⟩, 2, 2, exSt, exLk, ⟨by rw [cellB kq]; rfl, by rw [cellB kq]; rfl, by rw [cellB kq]; rfl, by rw [cellB kq]; rfl, by rw [cellB kq]; rfl, by rw [cellB kq]; rfl, by rw [cellB kq]; rfl, by rw [cellB kq]; rfl⟩, kn_st s2, kn_looks l2, by kernel_rfl⟩
  · exact ⟨10, 5, 4, -1, 2, 10, some ⟨p3, 0, none⟩, 3, 3, some ⟨h3, 0, none⟩, 2, 2, [-4, -5, -10], exLk, ⟨by rw [cellB kq]; rfl, by rw [cellB kq]; rfl, by rw [cellB kq]; rfl, by rw [cellB kq]; rfl, by rw [cellB kq]; rfl, by rw [cellB kq]; rfl, by rw [cellB kq]; rfl, by rw [cellB kq]; rfl⟩, kn_st r3, kn_looks l3, by kernel_rfl⟩
  · exact ⟨10, 5, 4, -1, 2, 10, some ⟨p4, 0, none⟩, 1, 1, some ⟨h4, 0, none⟩, 2, 2, [5], exLk, ⟨by rw [cellB kq]; rfl, by rw [cellB kq]; rfl, by rw [cellB kq]; rfl, by rw [cellB kq]; rfl, by rw [cellB kq]; rfl, by rw [cellB kq]; rfl, by rw [cellB kq]; rfl, by rw [cellB kq]; rfl⟩, kn_st1 r4, kn_looks l4, by kernel_rfl⟩
  · exact ⟨10, 5, 4, -1, 2, 10, some ⟨g5, 0, none⟩, 3, 3, some ⟨h5, 0, none⟩, 2, 2, exSt, [(0, 18, 22), (11, -3, 4)], ⟨by rw [cellB kq]; rfl, by rw [cellB kq]; rfl, by rw [cellB kq]; rfl, by rw [cellB kq]; rfl, by rw [cellB kq]; rfl, by rw [cellB kq]; rfl, by rw [cellB kq]; rfl, by rw [cellB kq]; rfl⟩, kn_st s5, kn_looks l5, by kernel_rfl⟩
  · exact ⟨10, 5, 4, -1, 2, 10, some ⟨g6, 0, none⟩, 3, 3, some ⟨h6, 0, none⟩, 2, 2, exSt, [(0, 0, 20001), (6, -3, 4)], ⟨by rw [cellB kq]; rfl, by rw [cellB kq]; rfl, by rw [cellB kq]; rfl, by rw [cellB kq]; rfl, by rw [cellB kq]; rfl, by rw [cellB kq]; rfl, by rw [cellB kq]; rfl, by rw [cellB kq]; rfl⟩, kn_st s6, kn_looks l6, by kernel_rfl⟩

set_option maxRecDepth 1000000 in
set_option maxHeartbeats 4000000 in
set_option linter.unusedSimpArgs false in
theorem kn_tail12 (c0 c1 c2 c3 c4 c5 c6 c7 c8 c9 c10 c11 c12 c13 c14 c15 c16 c17 c18 c19 c20 c21 c22 c23 c24 c25 c26 c27 c28 c29 c30 c31 c32 c33 c34 c35 c36 c37 c38 c39 c40 c41 c42 c43 c44 c45 c46 c47 c48 c49 c50 c51 c52 c53 c54 c55 c56 c57 c58 c59 c60 c61 c62 c63 c64 c65 c66 c67 c68 c69 c70 c71 c72 c73 c74 c75 c76 c77 c78 c79 c80 c81 c82 c83 c84 c85 c86 c87 c88 c89 c90 c91 c92 c93 c94 c95 c96 c97 c98 c99 c100 c101 c102 c103 c104 c105 c106 c107 c108 c109 c110 c111 c112 c113 c114 c115 c116 c117 c118 c119 c120 c121 c122 c123 c124 c125 c126 c127 c128 : Value) {w0 w : World} (U0 : Up w0 w) : Code.wp Try.prog (Kn.rt 3 Kn.body) (bodyPost Try.prog Try.f15 fun e w' => e = .returned (.bool true) ∧ Up w0 w') ⟨#[c0, c1, c2, c3, c4, c5, c6, c7, c8, c9, c10, c11, c12, c13, c14, c15, c16, c17, c18, c19, c20, c21, c22, c23, c24, c25, c26, c27, c28, c29, c30, c31, c32, c33, c34, c35, c36, c37, c38, c39, c40, c41, c42, c43, c44, c45, c46, c47, c48, c49, c50, c51, c52, c53, c54, c55, c56, c57, c58, c59, c60, c61, c62, c63, c64, c65, c66, c67, c68, c69, c70, c71, c72, c73, c74, c75, c76, c77, c78, c79, c80, c81, c82, c83, c84, c85, c86, c87, c88, c89, c90, c91, c92, c93, c94, c95, c96, c97, c98, c99, c100, c101, c102, c103, c104, c105, c106, c107, c108, c109, c110, c111, c112, c113, c114, c115, c116, c117, c118, c119, c120, c121, c122, c123, c124, c125, c126, c127, c128, undef, undef, undef, undef, undef, undef, undef, undef, undef, undef, undef, undef, undef, undef, undef, undef, undef, undef, undef, undef, undef, undef, undef, undef, undef, undef, undef, undef, undef, undef, undef, undef, undef, undef, undef, undef, undef, undef, undef, undef, undef, undef, undef, undef, undef, undef, undef, undef, undef, undef, undef, undef, undef, undef, undef, undef, undef, undef, undef, undef, undef, undef, undef, undef, undef, undef, undef, undef, undef, undef, undef, undef, undef, undef, undef, undef, undef, undef, undef, undef, undef, undef, undef, undef, undef, undef, undef, undef, undef, undef, undef, undef, undef, undef, undef, undef, undef, undef, undef, undef, undef, undef, undef, undef, undef, undef, undef, undef, undef, undef, undef, undef, undef, undef, undef, undef, undef, undef, undef, undef, undef, undef, undef, undef, undef, undef, undef, undef, undef, undef, undef, undef, undef, undef, undef, undef, undef, undef, undef, undef, undef, undef, undef, undef, undef, undef, undef, undef, undef, undef, undef, undef, undef, undef, undef, undef, undef, undef, undef, undef, undef, undef, undef, undef, undef, undef, undef, undef, undef, undef, undef, undef, undef, undef, undef, undef, undef, undef, undef, undef, undef, undef, undef, undef, undef, undef, undef, undef, undef, undef, undef, undef, undef, undef, undef, undef, undef, undef, undef, undef, undef, undef, undef, undef, undef, undef, undef, undef, undef, undef, undef, undef, undef, undef, undef, undef, undef, undef, undef, undef, undef, undef, undef, undef, undef, undef, undef, undef, undef, undef, undef, undef, undef, undef, undef, undef, undef, undef, undef, undef, undef, undef, undef, undef, undef, undef, undef, undef, undef, undef, undef, undef, undef, undef, undef, undef, undef, undef, undef, undef, undef, undef, undef, undef, undef, undef, undef, undef, undef, undef, undef, undef, undef, undef, undef, undef, undef, undef, undef, undef, undef, undef, undef, undef, undef, undef, undef, undef, undef, undef, undef, undef, undef, undef, undef, undef, undef, undef, undef, undef, undef, undef, undef, undef, undef, undef, undef, undef, undef, undef], []⟩ w := by
  have HTo := Lib.hid (fun w => B_To_any 0 20001 w)
  have U := U0
  clear U0
  conv => arg 2; whnf
  go_wp2_with fail
  refine (kn_bookB _).mono ?_
  rintro e x1 ⟨g1, h1, rfl, u, a1, b1, d1, s1, l1⟩
  have z1 := U.size
  have t1 := blk_lt s1
  have v1 := blk_lt l1
  replace U := U.trans u
  clear u
  go_wp2_with fail
  refine (kn_bookB _).mono ?_
  rintro e x2 ⟨g2, h2, rfl, u, a2, b2, d2, s2, l2⟩
  replace s1 := u.blk s1
  replace l1 := u.blk l1
  have z2 := U.size
  have t2 := blk_lt s2
  have v2 := blk_lt l2
  replace U := U.trans u
  clear u
  go_wp2_with fail
  refine (kn_bookB _).mono ?_
  rintro e x3 ⟨g3, h3, rfl, u, a3, b3, d3, s3, l3⟩
  replace s1 := u.blk s1
  replace l1 := u.blk l1
  replace s2 := u.blk s2
  replace l2 := u.blk l2
  have z3 := U.size
  have t3 := blk_lt s3
  have v3 := blk_lt l3
  replace U := U.trans u
  clear u
  go_wp2_with fail
  refine (kn_bookB _).mono ?_
  rintro e x4 ⟨g4, h4, rfl, u, a4, b4, d4, s4, l4⟩
  replace s1 := u.blk s1
  replace l1 := u.blk l1
  replace s2 := u.blk s2
  replace l2 := u.blk l2
  replace s3 := u.blk s3
  replace l3 := u.blk l3
  have z4 := U.size
  have t4 := blk_lt s4
  have v4 := blk_lt l4
  replace U := U.trans u
  clear u
  go_wp2_with fail
  refine (kn_bookB _).mono ?_
  rintro e x5 ⟨g5, h5, rfl, u, a5, b5, d5, s5, l5⟩
  replace s1 := u.blk s1
  replace l1 := u.blk l1
  replace s2 := u.blk s2
  replace l2 := u.blk l2
  replace s3 := u.blk s3
  replace l3 := u.blk l3
  replace s4 := u.blk s4
  replace l4 := u.blk l4
  have z5 := U.size
  have t5 := blk_lt s5
  have v5 := blk_lt l5
  replace U := U.trans u
  clear u
  go_wp2_with fail
  refine (kn_bookB _).mono ?_
  rintro e x6 ⟨g6, h6, rfl, u, a6, b6, d6, s6, l6⟩
  replace s1 := u.blk s1
  replace l1 := u.blk l1
  replace s2 := u.blk s2
  replace l2 := u.blk l2
  replace s3 := u.blk s3
  replace l3 := u.blk l3
  replace s4 := u.blk s4
  replace l4 := u.blk l4
  replace s5 := u.blk s5
  replace l5 := u.blk l5
  have z6 := U.size
  have t6 := blk_lt s6
  have v6 := blk_lt l6
  replace U := U.trans u
  clear u
  have y1 := blk_lt s1
  have e1 := blk_lt l1
  have y2 := blk_lt s2
  have e2 := blk_lt l2
  have y3 := blk_lt s3
  have e3 := blk_lt l3
  have y4 := blk_lt s4
  have e4 := blk_lt l4
  have y5 := blk_lt s5
  have e5 := blk_lt l5
  have y6 := blk_lt s6
  have e6 := blk_lt l6
  have kq := blk_new x6 (.cells #[(.int .i64 0), (.int .i64 0), (.int .i64 0), (.int .i64 0), (.int .i64 0), (.int .i64 0), (.slice none 0 0), (.slice none 0 0), (.int .i64 10), (.int .i64 5), (.int .i64 4), (.int .i64 (-1)), (.int .i64 2), (.int .i64 10), (.slice (some ⟨g1, 0, none⟩) 3 3), (.slice (some ⟨h1, 0, none⟩) 2 2), (.int .i64 10), (.int .i64 5), (.int .i64 4), (.int .i64 (-1)), (.int .i64 2), (.int .i64 10), (.slice (some ⟨g2, 0, none⟩) 3 3), (.slice (some ⟨h2, 0, none⟩) 2 2), (.int .i64 10), (.int .i64 5), (.int .i64 4), (.int .i64 (-1)), (.int .i64 2), (.int .i64 10), (.slice (some ⟨g3, 0, none⟩) 3 3), (.slice (some ⟨h3, 0, none⟩) 2 2), (.int .i64 10), (.int .i64 5), (.int .i64 4), (.int .i64 (-1)), (.int .i64 2), (.int .i64 10), (.slice (some ⟨g4, 0, none⟩) 3 3), (.slice (some ⟨h4, 0, none⟩) 2 2), (.int .i64 10), (.int .i64 5), (.int .i64 4), (.int .i64 (-1)), (.int .i64 2), (.int .i64 10), (.slice (some ⟨g5, 0, none⟩) 3 3), (.slice (some ⟨h5, 0, none⟩) 2 2), (.int .i64 10), (.int .i64 5), (.int .i64 4), (.int .i64 (-1)), (.int .i64 2), (.int .i64 10), (.slice (some ⟨g6, 0, none⟩) 3 3), (.slice (some ⟨h6, 0, none⟩) 2 2)] 44) _ rfl
  replace s1 := blk_keep (.cells #[(.int .i64 0), (.int .i64 0), (.int .i64 0), (.int .i64 0), (.int .i64 0), (.int .i64 0), (.slice none 0 0), (.slice none 0 0), (.int .i64 10), (.int .i64 5), (.int .i64 4), (.int .i64 (-1)), (.int .i64 2), (.int .i64 10), (.slice (some ⟨g1, 0, none⟩) 3 3), (.slice (some ⟨h1, 0, none⟩) 2 2), (.int .i64 10), (.int .i64 5), (.int .i64 4), (.int .i64 (-1)), (.int .i64 2), (.int .i64 10), (.slice (some ⟨g2, 0, none⟩) 3 3), (.slice (some ⟨h2, 0, none⟩) 2 2), (.int .i64 10), (.int .i64 5), (.int .i64 4), (.int .i64 (-1)), (.int .i64 2), (.int .i64 10), (.slice (some ⟨g3, 0, none⟩) 3 3), (.slice (some ⟨h3, 0, none⟩) 2 2), (.int .i64 10), (.int .i64 5), (.int .i64 4), (.int .i64 (-1)), (.int .i64 2), (.int .i64 10), (.slice (some ⟨g4, 0, none⟩) 3 3), (.slice (some ⟨h4, 0, none⟩) 2 2), (.int .i64 10), (.int .i64 5), (.int .i64 4), (.int .i64 (-1)), (.int .i64 2), (.int .i64 10), (.slice (some ⟨g5, 0, none⟩) 3 3), (.slice (some ⟨h5, 0, none⟩) 2 2), (.int .i64 10), (.int .i64 5), (.int .i64 4), (.int .i64 (-1)), (.int .i64 2), (.int .i64 10), (.slice (some ⟨g6, 0, none⟩) 3 3), (.slice (some ⟨h6, 0, none⟩) 2 2)] 44) s1
  replace l1 := blk_keep (.cells #[(.int .i64 0), (.int .i64 0), (.int .i64 0), (.int .i64 0), (.int .i64 0), (.int .i64 0), (.slice none 0 0), (.slice none 0 0), (.int .i64 10), (.int .i64 5), (.int .i64 4), (.int .i64 (-1)), (.int .i64 2), (.int .i64 10), (.slice (some ⟨g1, 0, none⟩) 3 3), (.slice (some ⟨h1, 0, none⟩) 2 2), (.int .i64 10), (.int .i64 5), (.int .i64 4), (.int .i64 (-1)), (.int .i64 2), (.int .i64 10), (.slice (some ⟨g2, 0, none⟩) 3 3), (.slice (some ⟨h2, 0, none⟩) 2 2), (.int .i64 10), (.int .i64 5), (.int .i64 4), (.int .i64 (-1)), (.int .i64 2), (.int .i64 10), (.slice (some ⟨g3, 0, none⟩) 3 3), (.slice (some ⟨h3, 0, none⟩) 2 2), (.int .i64 10), (.int .i64 5), (.int .i64 4), (.int .i64 (-1)), (.int .i64 2), (.int .i64 10), (.slice (some ⟨g4, 0, none⟩) 3 3), (.slice (some ⟨h4, 0, none⟩) 2 2), (.int .i64 10), (.int .i64 5), (.int .i64 4), (.int .i64 (-1)), (.int .i64 2), (.int .i64 10), (.slice (some ⟨g5, 0, none⟩) 3 3), (.slice (some ⟨h5, 0, none⟩) 2 2), (.int .i64 10), (.int .i64 5), (.int .i64 4), (.int .i64 (-1)), (.int .i64 2), (.int .i64 10), (.slice (some ⟨g6, 0, none⟩) 3 3), (.slice (some ⟨h6, 0, none⟩) 2 2)] 44) l1
  replace s2 := blk_keep (.cells #[(.int .i64 0), (.int .i64 0), (.int .i64 0), (.int .i64 0), (.int .i64 0), (.int .i64 0), (.slice none 0 0), (.slice none 0 0), (.int .i64 10), (.int .i64 5), (.int .i64 4), (.int .i64 (-1)), (.int .i64 2), (.int .i64 10), (.slice (some ⟨g1, 0, none⟩) 3 3), (.slice (some ⟨h1, 0, none⟩) 2 2), (.int .i64 10), (.int .i64 5), (.int .i64 4), (.int .i64 (-1)), (.int .i64 2), (.int .i64 10), (.slice (some ⟨g2, 0, none⟩) 3 3), (.slice (some ⟨h2, 0, none⟩) 2 2), (.int .i64 10), (.int .i64 5), (.int .i64 4), (.int .i64 (-1)), (.int .i64 2), (.int .i64 10), (.slice (some ⟨g3, 0, none⟩) 3 3), (.slice (some ⟨h3, 0, none⟩) 2 2), (.int .i64 10), (.int .i64 5), (.int .i64 4), (.int .i64 (-1)), (.int .i64 2), (.int .i64 10), (.slice (some ⟨g4, 0, none⟩) 3 3), (.slice (some ⟨h4, 0, none⟩) 2 2), (.int .i64 10), (.int .i64 5), (.int .i64 4), (.int .i64 (-1)), (.int .i64 2), (.int .i64 10), (.slice (some ⟨g5, 0, none⟩) 3 3), (.slice (some ⟨h5, 0, none⟩) 2 2), (.int .i64 10), (.int .i64 5), (.int .i64 4), (.int .i64 (-1)), (.int .i64 2), (.int .i64 10), (.slice (some ⟨g6, 0, none⟩) 3 3), (.slice (some ⟨h6, 0, none⟩) 2 2)] 44) s2
  replace l2 := blk_keep (.cells #[(.int .i64 0), (.int .i64 0), (.int .i64 0), (.int .i64 0), (.int .i64 0), (.int .i64 0), (.slice none 0 0), (.slice none 0 0), (.int .i64 10), (.int .i64 5), (.int .i64 4), (.int .i64 (-1)), (.int .i64 2), (.int .i64 10), (.slice (some ⟨g1, 0, none⟩) 3 3), (.slice (some ⟨h1, 0, none⟩) 2 2), (.int .i64 10), (.int .i64 5), (.int .i64 4), (.int .i64 (-1)), (.int .i64 2), (.int .i64 10), (.slice (some ⟨g2, 0, none⟩) 3 3), (.slice (some ⟨h2, 0, none⟩) 2 2), (.int .i64 10), (.int .i64 5), (.int .i64 4), (.int .i64 (-1)), (.int .i64 2), (.int .i64 10), (.slice (some ⟨g3, 0, none⟩) 3 3), (.slice (some ⟨h3, 0, none⟩) 2 2), (.int .i64 10), (.int .i64 5), (.int .i64 4), (.int .i64 (-1)), (.int .i64 2), (.int .i64 10), (.slice (some ⟨g4, 0, none⟩) 3 3), (.slice (some ⟨h4, 0, none⟩) 2 2), (.int .i64 10), (.int .i64 5), (.int .i64 4), (.int .i64 (-1)), (.int .i64 2), (.int .i64 10), (.slice (some ⟨g5, 0, none⟩) 3 3), (.slice (some ⟨h5, 0, none⟩) 2 2), (.int .i64 10), (.int .i64 5), (.int .i64 4), (.int .i64 (-1)), (.int .i64 2), (.int .i64 10), (.slice (some ⟨g6, 0, none⟩) 3 3), (.slice (some ⟨h6, 0, none⟩) 2 2)] 44) l2
  replace s3 := blk_keep (.cells #[(.int .i64 0), (.int .i64 0), (.int .i64 0), (.int .i64 0), (.int .i64 0), (.int .i64 0), (.slice none 0 0), (.slice none 0 0), (.int .i64 10), (.int .i64 5), (.int .i64 4), (.int .i64 (-1)), (.int .i64 2), (.int .i64 10), (.slice (some ⟨g1, 0, none⟩) 3 3), (.slice (some ⟨h1, 0, none⟩) 2 2), (.int .i64 10), (.int .i64 5), (.int .i64 4), (.int .i64 (-1)), (.int .i64 2), (.int .i64 10), (.slice (some ⟨g2, 0, none⟩) 3 3), (.slice (some ⟨h2, 0, none⟩) 2 2), (.int .i64 10), (.int .i64 5), (.int .i64 4), (.int .i64 (-1)), (.int .i64 2), (.int .i64 10), (.slice (some ⟨g3, 0, none⟩) 3 3), (.slice (some ⟨h3, 0, none⟩) 2 2), (.int .i64 10), (.int .i64 5), (.int .i64 4), (.int .i64 (-1)), (.int .i64 2), (.int .i64 10), (.slice (some ⟨g4, 0, none⟩) 3 3), (.slice (some ⟨h4, 0, none⟩) 2 2), (.int .i64 10), (.int .i64 5), (.int .i64 4), (.int .i64 (-1)), (.int .i64 2), (.int .i64 10), (.slice (some ⟨g5, 0, none⟩) 3 3), (.slice (some ⟨h5, 0, none⟩) 2 2), (.int .i64 10), (.int .i64 5), (.int .i64 4), (.int .i64 (-1)), (.int .i64 2), (.int .i64 10), (.slice (some ⟨g6, 0, none⟩) 3 3), (.slice (some ⟨h6, 0, none⟩) 2 2)] 44) s3
  replace l3 := blk_keep (.cells #[(.int .i64 0), (.int .i64 0), (.int .i64 0), (.int .i64 0), (.int .i64 0), (.int .i64 0), (.slice none 0 0), (.slice none 0 0), (.int .i64 10), (.int .i64 5), (.int .i64 4), (.int .i64 (-1)), (.int .i64 2), (.int .i64 10), (.slice (some ⟨g1, 0, none⟩) 3 3), (.slice (some ⟨h1, 0, none⟩) 2 2), (.int .i64 10), (.int .i64 5), (.int .i64 4), (.int .i64 (-1)), (.int .i64 2), (.int .i64 10), (.slice (some ⟨g2, 0, none⟩) 3 3), (.slice (some ⟨h2, 0, none⟩) 2 2), (.int .i64 10), (.int .i64 5), (.int .i64 4), (.int .i64 (-1)), (.int .i64 2), (.int .i64 10), (.slice (some ⟨g3, 0, none⟩) 3 3), (.slice (some ⟨h3, 0, none⟩) 2 2), (.int .i64 10), (.int .i64 5), (.int .i64 4), (.int .i64 (-1)), (.int .i64 2), (.int .i64 10), (.slice (some ⟨g4, 0, none⟩) 3 3), (.slice (some ⟨h4, 0, none⟩) 2 2), (.int .i64 10), (.int .i64 5), (.int .i64 4), (.int .i64 (-1)), (.int .i64 2), (.int .i64 10), (.slice (some ⟨g5, 0, none⟩) 3 3), (.slice (some ⟨h5, 0, none⟩) 2 2), (.int .i64 10), (.int .i64 5), (.int .i64 4), (.int .i64 (-1)), (.int .i64 2), (.int .i64 10), (.slice (some ⟨g6, 0, none⟩) 3 3), (.slice (some ⟨h6, 0, none⟩) 2 2)] 44) l3
  replace s4 := blk_keep (.cells #[(.int .i64 0), (.int .i64 0), (.int .i64 0), (.int .i64 0), (.int .i64 0), (.int .i64 0), (.slice none 0 0), (.slice none 0 0), (.int .i64 10), (.int .i64 5), (.int .i64 4), (.int .i64 (-1)), (.int .i64 2), (.int .i64 10), (.slice (some ⟨g1, 0, none⟩) 3 3), (.slice (some ⟨h1, 0, none⟩) 2 2), (.int .i64 10), (.int .i64 5), (.int .i64 4), (.int .i64 (-1)), (.int .i64 2), (.int .i64 10), (.slice (some ⟨g2, 0, none⟩) 3 3), (.slice (some ⟨h2, 0, none⟩) 2 2), (.int .i64 10), (.int .i64 5), (.int .i64 4), (.int .i64 (-1)), (.int .i64 2), (.int .i64 10), (.slice (some ⟨g3, 0, none⟩) 3 3), (.slice (some ⟨h3, 0, none⟩) 2 2), (.int .i64 10), (.int .i64 5), (.int .i64 4), (.int .i64 (-1)), (.int .i64 2), (.int .i64 10), (.slice (some ⟨g4, 0, none⟩) 3 3), (.slice (some ⟨h4, 0, none⟩) 2 2), (.int .i64 10), (.int .i64 5), (.int .i64 4), (.int .i64 (-1)), (.int .i64 2), (.int .i64 10), (.slice (some ⟨g5, 0, none⟩) 3 3), (.slice (some ⟨h5, 0, none⟩) 2 2), (.int .i64 10), (.int .i64 5), (.int .i64 4), (.int .i64 (-1)), (.int .i64 2), (.int .i64 10), (.slice (some ⟨g6, 0, none⟩) 3 3), (.slice (some ⟨h6, 0, none⟩) 2 2)] 44) s4
  replace l4 := blk_keep (.cells #[(.int .i64 0), (.int .i64 0), (.int .i64 0), (.int .i64 0), (.int .i64 0), (.int .i64 0), (.slice none 0 0), (.slice none 0 0), (.int .i64 10), (.int .i64 5), (.int .i64 4), (.int .i64 (-1)), (.int .i64 2), (.int .i64 10), (.slice (some ⟨g1, 0, none⟩) 3 3), (.slice (some ⟨h1, 0, none⟩) 2 2), (.int .i64 10), (.int .i64 5), (.int .i64 4), (.int .i64 (-1)), (.int .i64 2), (.int .i64 10), (.slice (some ⟨g2, 0, none⟩) 3 3), (.slice (some ⟨h2, 0, none⟩) 2 2), (.int .i64 10), (.int .i64 5), (.int .i64 4), (.int .i64 (-1)), (.int .i64 2), (.int .i64 10), (.slice (some ⟨g3, 0, none⟩) 3 3), (.slice (some ⟨h3, 0, none⟩) 2 2), (.int .i64 10), (.int .i64 5), (.int .i64 4), (.int .i64 (-1)), (.int .i64 2), (.int .i64 10), (.slice (some ⟨g4, 0, none⟩) 3 3), (.slice (some ⟨h4, 0, none⟩) 2 2), (.int .i64 10), (.int .i64 5), (.int .i64 4), (.int .i64 (-1)), (.int .i64 2), (.int .i64 10), (.slice (some ⟨g5, 0, none⟩) 3 3), (.slice (some ⟨h5, 0, none⟩) 2 2), (.int .i64 10), (.int .i64 5), (.int .i64 4), (.int .i64 (-1)), (.int .i64 2), (.int .i64 10), (.slice (some ⟨g6, 0, none⟩) 3 3), (.slice (some ⟨h6, 0, none⟩) 2 2)] 44) l4
  replace s5 := blk_keep (.cells #[(.int .i64 0), (.int .i64 0), (.int .i64 0), (.int .i64 0), (.int .i64 0), (.int .i64 0), (.slice none 0 0), (.slice none 0 0), (.int .i64 10), (.int .i64 5), (.int .i64 4), (.int .i64 (-1)), (.int .i64 2), (.int .i64 10), (.slice (some ⟨g1, 0, none⟩) 3 3), (.slice (some ⟨h1, 0, none⟩) 2 2), (.int .i64 10), (.int .i64 5), (.int .i64 4), (.int .i64 (-1)), (.int .i64 2), (.int .i64 10), (.slice (some ⟨g2, 0, none⟩) 3 3), (.slice (some ⟨h2, 0, none⟩) 2 2), (.int .i64 10), (.int .i64 5), (.int .i64 4), (.int .i64 (-1)), (.int .i64 2), (.int .i64 10), (.slice (some ⟨g3, 0, none⟩) 3 3), (.slice (some ⟨h3, 0, none⟩) 2 2), (.int .i64 10), (.int .i64 5), (.int .i64 4), (.int .i64 (-1)), (.int .i64 2), (.int .i64 10), (.slice (some ⟨g4, 0, none⟩) 3 3), (.slice (some ⟨h4, 0, none⟩) 2 2), (.int .i64 10), (.int .i64 5), (.int .i64 4), (.int .i64 (-1)), (.int .i64 2), (.int .i64 10), (.slice (some ⟨g5, 0, none⟩) 3 3), (.slice (some ⟨h5, 0, none⟩) 2 2), (.int .i64 10), (.int .i64 5), (.int .i64 4), (.int .i64 (-1)), (.int .i64 2), (.int .i64 10), (.slice (some ⟨g6, 0, none⟩) 3 3), (.slice (some ⟨h6, 0, none⟩) 2 2)] 44) s5
  replace l5 := blk_keep (.cells #[(.int .i64 0), (.int .i64 0), (.int .i64 0), (.int .i64 0), (.int .i64 0), (.int .i64 0), (.slice none 0 0), (.slice none 0 0), (.int .i64 10), (.int .i64 5), (.int .i64 4), (.int .i64 (-1)), (.int .i64 2), (.int .i64 10), (.slice (some ⟨g1, 0, none⟩) 3 3), (.slice (some ⟨h1, 0, none⟩) 2 2), (.int .i64 10), (.int .i64 5), (.int .i64 4), (.int .i64 (-1)), (.int .i64 2), (.int .i64 10), (.slice (some ⟨g2, 0, none⟩) 3 3), (.slice (some ⟨h2, 0, none⟩) 2 2), (.int .i64 10), (.int .i64 5), (.int .i64 4), (.int .i64 (-1)), (.int .i64 2), (.int .i64 10), (.slice (some ⟨g3, 0, none⟩) 3 3), (.slice (some ⟨h3, 0, none⟩) 2 2), (.int .i64 10), (.int .i64 5), (.int .i64 4), (.int .i64 (-1)), (.int .i64 2), (.int .i64 10), (.slice (some ⟨g4, 0, none⟩) 3 3), (.slice (some ⟨h4, 0, none⟩) 2 2), (.int .i64 10), (.int .i64 5), (.int .i64 4), (.int .i64 (-1)), (.int .i64 2), (.int .i64 10), (.slice (some ⟨g5, 0, none⟩) 3 3), (.slice (some ⟨h5, 0, none⟩) 2 2), (.int .i64 10), (.int .i64 5), (.int .i64 4), (.int .i64 (-1)), (.int .i64 2), (.int .i64 10), (.slice (some ⟨g6, 0, none⟩) 3 3), (.slice (some ⟨h6, 0, none⟩) 2 2)] 44) l5
  replace s6 := blk_keep (.cells #[(.int .i64 0), (.int .i64 0), (.int .i64 0), (.int .i64 0), (.int .i64 0), (.int .i64 0), (.slice none 0 0), (.slice none 0 0), (.int .i64 10), (.int .i64 5), (.int .i64 4), (.int .i64 (-1)), (.int .i64 2), (.int .i64 10), (.slice (some ⟨g1, 0, none⟩) 3 3), (.slice (some ⟨h1, 0, none⟩) 2 2), (.int .i64 10), (.int .i64 5), (.int .i64 4), (.int .i64 (-1)), (.int .i64 2), (.int .i64 10), (.slice (some ⟨g2, 0, none⟩) 3 3), (.slice (some ⟨h2, 0, none⟩) 2 2), (.int .i64 10), (.int .i64 5), (.int .i64 4), (.int .i64 (-1)), (.int .i64 2), (.int .i64 10), (.slice (some ⟨g3, 0, none⟩) 3 3), (.slice (some ⟨h3, 0, none⟩) 2 2), (.int .i64 10), (.int .i64 5), (.int .i64 4), (.int .i64 (-1)), (.int .i64 2), (.int .i64 10), (.slice (some ⟨g4, 0, none⟩) 3 3), (.slice (some ⟨h4, 0, none⟩) 2 2), (.int .i64 10), (.int .i64 5), (.int .i64 4), (.int .i64 (-1)), (.int .i64 2), (.int .i64 10), (.slice (some ⟨g5, 0, none⟩) 3 3), (.slice (some ⟨h5, 0, none⟩) 2 2), (.int .i64 10), (.int .i64 5), (.int .i64 4), (.int .i64 (-1)), (.int .i64 2), (.int .i64 10), (.slice (some ⟨g6, 0, none⟩) 3 3), (.slice (some ⟨h6, 0, none⟩) 2 2)] 44) s6
  replace l6 := blk_keep (.cells #[(.int .i64 0), (.int .i64 0), (.int .i64 0), (.int .i64 0), (.int .i64 0), (.int .i64 0), (.slice none 0 0), (.slice none 0 0), (.int .i64 10), (.int .i64 5), (.int .i64 4), (.int .i64 (-1)), (.int .i64 2), (.int .i64 10), (.slice (some ⟨g1, 0, none⟩) 3 3), (.slice (some ⟨h1, 0, none⟩) 2 2), (.int .i64 10), (.int .i64 5), (.int .i64 4), (.int .i64 (-1)), (.int .i64 2), (.int .i64 10), (.slice (some ⟨g2, 0, none⟩) 3 3), (.slice (some ⟨h2, 0, none⟩) 2 2), (.int .i64 10), (.int .i64 5), (.int .i64 4), (.int .i64 (-1)), (.int .i64 2), (.int .i64 10), (.slice (some ⟨g3, 0, none⟩) 3 3), (.slice (some ⟨h3, 0, none⟩) 2 2), (.int .i64 10), (.int .i64 5), (.int .i64 4), (.int .i64 (-1)), (.int .i64 2), (.int .i64 10), (.slice (some ⟨g4, 0, none⟩) 3 3), (.slice (some ⟨h4, 0, none⟩) 2 2), (.int .i64 10), (.int .i64 5), (.int .i64 4), (.int .i64 (-1)), (.int .i64 2), (.int .i64 10), (.slice (some ⟨g5, 0, none⟩) 3 3), (.slice (some ⟨h5, 0, none⟩) 2 2), (.int .i64 10), (.int .i64 5), (.int .i64 4), (.int .i64 (-1)), (.int .i64 2), (.int .i64 10), (.slice (some ⟨g6, 0, none⟩) 3 3), (.slice (some ⟨h6, 0, none⟩) 2 2)] 44) l6
  replace U := U.alloc (.cells #[(.int .i64 0), (.int .i64 0), (.int .i64 0), (.int .i64 0), (.int .i64 0), (.int .i64 0), (.slice none 0 0), (.slice none 0 0), (.int .i64 10), (.int .i64 5), (.int .i64 4), (.int .i64 (-1)), (.int .i64 2), (.int .i64 10), (.slice (some ⟨g1, 0, none⟩) 3 3), (.slice (some ⟨h1, 0, none⟩) 2 2), (.int .i64 10), (.int .i64 5), (.int .i64 4), (.int .i64 (-1)), (.int .i64 2), (.int .i64 10), (.slice (some ⟨g2, 0, none⟩) 3 3), (.slice (some ⟨h2, 0, none⟩) 2 2), (.int .i64 10), (.int .i64 5), (.int .i64 4), (.int .i64 (-1)), (.int .i64 2), (.int .i64 10), (.slice (some ⟨g3, 0, none⟩) 3 3), (.slice (some ⟨h3, 0, none⟩) 2 2), (.int .i64 10), (.int .i64 5), (.int .i64 4), (.int .i64 (-1)), (.int .i64 2), (.int .i64 10), (.slice (some ⟨g4, 0, none⟩) 3 3), (.slice (some ⟨h4, 0, none⟩) 2 2), (.int .i64 10), (.int .i64 5), (.int .i64 4), (.int .i64 (-1)), (.int .i64 2), (.int .i64 10), (.slice (some ⟨g5, 0, none⟩) 3 3), (.slice (some ⟨h5, 0, none⟩) 2 2), (.int .i64 10), (.int .i64 5), (.int .i64 4), (.int .i64 (-1)), (.int .i64 2), (.int .i64 10), (.slice (some ⟨g6, 0, none⟩) 3 3), (.slice (some ⟨h6, 0, none⟩) 2 2)] 44)
  go_upto_region 13 with (fail)
  obtain ⟨q, hq⟩ : ∃ q, x6.heap.size = q := ⟨_, rfl⟩
  obtain ⟨W1, hW⟩ : ∃ X, x6.alloc (.cells #[(.int .i64 0), (.int .i64 0), (.int .i64 0), (.int .i64 0), (.int .i64 0), (.int .i64 0), (.slice none 0 0), (.slice none 0 0), (.int .i64 10), (.int .i64 5), (.int .i64 4), (.int .i64 (-1)), (.int .i64 2), (.int .i64 10), (.slice (some ⟨g1, 0, none⟩) 3 3), (.slice (some ⟨h1, 0, none⟩) 2 2), (.int .i64 10), (.int .i64 5), (.int .i64 4), (.int .i64 (-1)), (.int .i64 2), (.int .i64 10), (.slice (some ⟨g2, 0, none⟩) 3 3), (.slice (some ⟨h2, 0, none⟩) 2 2), (.int .i64 10), (.int .i64 5), (.int .i64 4), (.int .i64 (-1)), (.int .i64 2), (.int .i64 10), (.slice (some ⟨g3, 0, none⟩) 3 3), (.slice (some ⟨h3, 0, none⟩) 2 2), (.int .i64 10), (.int .i64 5), (.int .i64 4), (.int .i64 (-1)), (.int .i64 2), (.int .i64 10), (.slice (some ⟨g4, 0, none⟩) 3 3), (.slice (some ⟨h4, 0, none⟩) 2 2), (.int .i64 10), (.int .i64 5), (.int .i64 4), (.int .i64 (-1)), (.int .i64 2), (.int .i64 10), (.slice (some ⟨g5, 0, none⟩) 3 3), (.slice (some ⟨h5, 0, none⟩) 2 2), (.int .i64 10), (.int .i64 5), (.int .i64 4), (.int .i64 (-1)), (.int .i64 2), (.int .i64 10), (.slice (some ⟨g6, 0, none⟩) 3 3), (.slice (some ⟨h6, 0, none⟩) 2 2)] 44) = X := ⟨_, rfl⟩
  rw [hq] at kq y1 e1 y2 e2 y3 e3 y4 e4 y5 e5 y6 e6
  rw [hW] at kq U s1 l1 s2 l2 s3 l3 s4 l4 s5 l5 s6 l6
  rw [hW, hq]
  have hwq : w0.heap.size ≤ q := by omega
  clear hW
  have zq := frozB kq
  go_upto_region 14 with (fail)
  clear zq
  obtain ⟨W2, hW⟩ : ∃ X, W1.setCell ⟨q, 13, none⟩ (.int .i64 61) = X := ⟨_, rfl⟩
  replace U : Up w0 W2 := by rw [← hW]; exact Up.set U (p := ⟨q, 13, none⟩) hwq _
  replace kq : mblk W2 q = some (.cells #[(.int .i64 0), (.int .i64 0), (.int .i64 0), (.int .i64 0), (.int .i64 0), (.int .i64 0), (.slice none 0 0), (.slice none 0 0), (.int .i64 10), (.int .i64 5), (.int .i64 4), (.int .i64 (-1)), (.int .i64 2), (.int .i64 61), (.slice (some ⟨g1, 0, none⟩) 3 3), (.slice (some ⟨h1, 0, none⟩) 2 2), (.int .i64 10), (.int .i64 5), (.int .i64 4), (.int .i64 (-1)), (.int .i64 2), (.int .i64 10), (.slice (some ⟨g2, 0, none⟩) 3 3), (.slice (some ⟨h2, 0, none⟩) 2 2), (.int .i64 10), (.int .i64 5), (.int .i64 4), (.int .i64 (-1)), (.int .i64 2), (.int .i64 10), (.slice (some ⟨g3, 0, none⟩) 3 3), (.slice (some ⟨h3, 0, none⟩) 2 2), (.int .i64 10), (.int .i64 5), (.int .i64 4), (.int .i64 (-1)), (.int .i64 2), (.int .i64 10), (.slice (some ⟨g4, 0, none⟩) 3 3), (.slice (some ⟨h4, 0, none⟩) 2 2), (.int .i64 10), (.int .i64 5), (.int .i64 4), (.int .i64 (-1)), (.int .i64 2), (.int .i64 10), (.slice (some ⟨g5, 0, none⟩) 3 3), (.slice (some ⟨h5, 0, none⟩) 2 2), (.int .i64 10), (.int .i64 5), (.int .i64 4), (.int .i64 (-1)), (.int .i64 2), (.int .i64 10), (.slice (some ⟨g6, 0, none⟩) 3 3), (.slice (some ⟨h6, 0, none⟩) 2 2)] 44 (0, 0)) := by rw [← hW]; exact blk_put kq 13 _
  replace s1 : mblk W2 g1 = some (.cells #[.int .i64 (-4), .int .i64 (-5), .int .i64 (-4)] 3 (0, 0)) := by rw [← hW]; exact (blk_set _ _ _ _ (show g1 ≠ q by omega)).trans s1
  replace l1 : mblk W2 h1 = some (.cells #[.int .i64 0, .int .i64 18, .int .i64 22, .int .i64 6, .int .i64 (-3), .int .i64 4] 71 (0, 0)) := by rw [← hW]; exact (blk_set _ _ _ _ (show h1 ≠ q by omega)).trans l1
  replace s2 : mblk W2 g2 = some (.cells #[.int .i64 (-4), .int .i64 (-5), .int .i64 (-4)] 3 (0, 0)) := by rw [← hW]; exact (blk_set _ _ _ _ (show g2 ≠ q by omega)).trans s2
  replace l2 : mblk W2 h2 = some (.cells #[.int .i64 0, .int .i64 18, .int .i64 22, .int .i64 6, .int .i64 (-3), .int .i64 4] 71 (0, 0)) := by rw [← hW]; exact (blk_set _ _ _ _ (show h2 ≠ q by omega)).trans l2
  replace s3 : mblk W2 g3 = some (.cells #[.int .i64 (-4), .int .i64 (-5), .int .i64 (-4)] 3 (0, 0)) := by rw [← hW]; exact (blk_set _ _ _ _ (show g3 ≠ q by omega)).trans s3
  replace l3 : mblk W2 h3 = some (.cells #[.int .i64 0, .int .i64 18, .int .i64 22, .int .i64 6, .int .i64 (-3), .int .i64 4] 71 (0, 0)) := by rw [← hW]; exact (blk_set _ _ _ _ (show h3 ≠ q by omega)).trans l3
  replace s4 : mblk W2 g4 = some (.cells #[.int .i64 (-4), .int .i64 (-5), .int .i64 (-4)] 3 (0, 0)) := by rw [← hW]; exact (blk_set _ _ _ _ (show g4 ≠ q by omega)).trans s4
  replace l4 : mblk W2 h4 = some (.cells #[.int .i64 0, .int .i64 18, .int .i64 22, .int .i64 6, .int .i64 (-3), .int .i64 4] 71 (0, 0)) := by rw [← hW]; exact (blk_set _ _ _ _ (show h4 ≠ q by omega)).trans l4
  replace s5 : mblk W2 g5 = some (.cells #[.int .i64 (-4), .int .i64 (-5), .int .i64 (-4)] 3 (0, 0)) := by rw [← hW]; exact (blk_set _ _ _ _ (show g5 ≠ q by omega)).trans s5
  replace l5 : mblk W2 h5 = some (.cells #[.int .i64 0, .int .i64 18, .int .i64 22, .int .i64 6, .int .i64 (-3), .int .i64 4] 71 (0, 0)) := by rw [← hW]; exact (blk_set _ _ _ _ (show h5 ≠ q by omega)).trans l5
  replace s6 : mblk W2 g6 = some (.cells #[.int .i64 (-4), .int .i64 (-5), .int .i64 (-4)] 3 (0, 0)) := by rw [← hW]; exact (blk_set _ _ _ _ (show g6 ≠ q by omega)).trans s6
  replace l6 : mblk W2 h6 = some (.cells #[.int .i64 0, .int .i64 18, .int .i64 22, .int .i64 6, .int .i64 (-3), .int .i64 4] 71 (0, 0)) := by rw [← hW]; exact (blk_set _ _ _ _ (show h6 ≠ q by omega)).trans l6
  rw [hW]
  clear hW
  have zq := frozB kq
  go_upto_region 15 with (fail)
  clear zq
  obtain ⟨W3, hW⟩ : ∃ X, W2.setCell ⟨q, 21, none⟩ (.int .i64 2) = X := ⟨_, rfl⟩
  replace U : Up w0 W3 := by rw [← hW]; exact Up.set U (p := ⟨q, 21, none⟩) hwq _
  replace kq : mblk W3 q = some (.cells #[(.int .i64 0), (.int .i64 0), (.int .i64 0), (.int .i64 0), (.int .i64 0), (.int .i64 0), (.slice none 0 0), (.slice none 0 0), (.int .i64 10), (.int .i64 5), (.int .i64 4), (.int .i64 (-1)), (.int .i64 2), (.int .i64 61), (.slice (some ⟨g1, 0, none⟩) 3 3), (.slice (some ⟨h1, 0, none⟩) 2 2), (.int .i64 10), (.int .i64 5), (.int .i64 4), (.int .i64 (-1)), (.int .i64 2), (.int .i64 2), (.slice (some ⟨g2, 0, none⟩) 3 3), (.slice (some ⟨h2, 0, none⟩) 2 2), (.int .i64 10), (.int .i64 5), (.int .i64 4), (.int .i64 (-1)), (.int .i64 2), (.int .i64 10), (.slice (some ⟨g3, 0, none⟩) 3 3), (.slice (some ⟨h3, 0, none⟩) 2 2), (.int .i64 10), (.int .i64 5), (.int .i64 4), (.int .i64 (-1)), (.int .i64 2), (.int .i64 10), (.slice (some ⟨g4, 0, none⟩) 3 3), (.slice (some ⟨h4, 0, none⟩) 2 2), (.int .i64 10), (.int .i64 5), (.int .i64 4), (.int .i64 (-1)), (.int .i64 2), (.int .i64 10), (.slice (some ⟨g5, 0, none⟩) 3 3), (.slice (some ⟨h5, 0, none⟩) 2 2), (.int .i64 10), (.int .i64 5), (.int .i64 4), (.int .i64 (-1)), (.int .i64 2), (.int .i64 10), (.slice (some ⟨g6, 0, none⟩) 3 3), (.slice (some ⟨h6, 0, none⟩) 2 2)] 44 (0, 0)) := by rw [← hW]; exact blk_put kq 21 _
  replace s1 : mblk W3 g1 = some (.cells #[.int .i64 (-4), .int .i64 (-5), .int .i64 (-4)] 3 (0, 0)) := by rw [← hW]; exact (blk_set _ _ _ _ (show g1 ≠ q by omega)).trans s1
  replace l1 : mblk W3 h1 = some (.cells #[.int .i64 0, .int .i64 18, .int .i64 22, .int .i64 6, .int .i64 (-3), .int .i64 4] 71 (0, 0)) := by rw [← hW]; exact (blk_set _ _ _ _ (show h1 ≠ q by omega)).trans l1
  replace s2 : mblk W3 g2 = some (.cells #[.int .i64 (-4), .int .i64 (-5), .int .i64 (-4)] 3 (0, 0)) := by rw [← hW]; exact (blk_set _ _ _ _ (show g2 ≠ q by omega)).trans s2
  replace l2 : mblk W3 h2 = some (.cells #[.int .i64 0, .int .i64 18, .int .i64 22, .int .i64 6, .int .i64 (-3), .int .i64 4] 71 (0, 0)) := by rw [← hW]; exact (blk_set _ _ _ _ (show h2 ≠ q by omega)).trans l2
  replace s3 : mblk W3 g3 = some (.cells #[.int .i64 (-4), .int .i64 (-5), .int .i64 (-4)] 3 (0, 0)) := by rw [← hW]; exact (blk_set _ _ _ _ (show g3 ≠ q by omega)).trans s3
  replace l3 : mblk W3 h3 = some (.cells #[.int .i64 0, .int .i64 18, .int .i64 22, .int .i64 6, .int .i64 (-3), .int .i64 4] 71 (0, 0)) := by rw [← hW]; exact (blk_set _ _ _ _ (show h3 ≠ q by omega)).trans l3
  replace s4 : mblk W3 g4 = some (.cells #[.int .i64 (-4), .int .i64 (-5), .int .i64 (-4)] 3 (0, 0)) := by rw [← hW]; exact (blk_set _ _ _ _ (show g4 ≠ q by omega)).trans s4
  replace l4 : mblk W3 h4 = some (.cells #[.int .i64 0, .int .i64 18, .int .i64 22, .int .i64 6, .int .i64 (-3), .int .i64 4] 71 (0, 0)) := by rw [← hW]; exact (blk_set _ _ _ _ (show h4 ≠ q by omega)).trans l4
  replace s5 : mblk W3 g5 = some (.cells #[.int .i64 (-4), .int .i64 (-5), .int .i64 (-4)] 3 (0, 0)) := by rw [← hW]; exact (blk_set _ _ _ _ (show g5 ≠ q by omega)).trans s5
  replace l5 : mblk W3 h5 = some (.cells #[.int .i64 0, .int .i64 18, .int .i64 22, .int .i64 6, .int .i64 (-3), .int .i64 4] 71 (0, 0)) := by rw [← hW]; exact (blk_set _ _ _ _ (show h5 ≠ q by omega)).trans l5
  replace s6 : mblk W3 g6 = some (.cells #[.int .i64 (-4), .int .i64 (-5), .int .i64 (-4)] 3 (0, 0)) := by rw [← hW]; exact (blk_set _ _ _ _ (show g6 ≠ q by omega)).trans s6
  replace l6 : mblk W3 h6 = some (.cells #[.int .i64 0, .int .i64 18, .int .i64 22, .int .i64 6, .int .i64 (-3), .int .i64 4] 71 (0, 0)) := by rw [← hW]; exact (blk_set _ _ _ _ (show h6 ≠ q by omega)).trans l6
  rw [hW]
  clear hW
  have zq := frozB kq
  have zr := frozB (blk_keep (.cells #[.int .i64 (-4), .int .i64 (-5), .int .i64 (-10)] 3) kq)
  go_upto_region 16 with (fail)
  clear zq zr
  have yq := blk_lt kq
  obtain ⟨p3, hp⟩ : ∃ p, W3.heap.size = p := ⟨_, rfl⟩
  rw [hp]
  rw [hp] at yq
  obtain ⟨W4, hW⟩ : ∃ X, (W3.alloc (.cells #[.int .i64 (-4), .int .i64 (-5), .int .i64 (-10)] 3)).setCell ⟨q, 30, none⟩ (.slice (some ⟨p3, 0, none⟩) 3 3) = X := ⟨_, rfl⟩
  replace U : Up w0 W4 := by rw [← hW]; exact Up.set (U.alloc (.cells #[.int .i64 (-4), .int .i64 (-5), .int .i64 (-10)] 3)) (p := ⟨q, 30, none⟩) hwq _
  replace kq : mblk W4 q = some (.cells #[(.int .i64 0), (.int .i64 0), (.int .i64 0), (.int .i64 0), (.int .i64 0), (.int .i64 0), (.slice none 0 0), (.slice none 0 0), (.int .i64 10), (.int .i64 5), (.int .i64 4), (.int .i64 (-1)), (.int .i64 2), (.int .i64 61), (.slice (some ⟨g1, 0, none⟩) 3 3), (.slice (some ⟨h1, 0, none⟩) 2 2), (.int .i64 10), (.int .i64 5), (.int .i64 4), (.int .i64 (-1)), (.int .i64 2), (.int .i64 2), (.slice (some ⟨g2, 0, none⟩) 3 3), (.slice (some ⟨h2, 0, none⟩) 2 2), (.int .i64 10), (.int .i64 5), (.int .i64 4), (.int .i64 (-1)), (.int .i64 2), (.int .i64 10), (.slice (some ⟨p3, 0, none⟩) 3 3), (.slice (some ⟨h3, 0, none⟩) 2 2), (.int .i64 10), (.int .i64 5), (.int .i64 4), (.int .i64 (-1)), (.int .i64 2), (.int .i64 10), (.slice (some ⟨g4, 0, none⟩) 3 3), (.slice (some ⟨h4, 0, none⟩) 2 2), (.int .i64 10), (.int .i64 5), (.int .i64 4), (.int .i64 (-1)), (.int .i64 2), (.int .i64 10), (.slice (some ⟨g5, 0, none⟩) 3 3), (.slice (some ⟨h5, 0, none⟩) 2 2), (.int .i64 10), (.int .i64 5), (.int .i64 4), (.int .i64 (-1)), (.int .i64 2), (.int .i64 10), (.slice (some ⟨g6, 0, none⟩) 3 3), (.slice (some ⟨h6, 0, none⟩) 2 2)] 44 (0, 0)) := by rw [← hW]; exact blk_put (blk_keep (.cells #[.int .i64 (-4), .int .i64 (-5), .int .i64 (-10)] 3) kq) 30 _
  replace s1 : mblk W4 g1 = some (.cells #[.int .i64 (-4), .int .i64 (-5), .int .i64 (-4)] 3 (0, 0)) := by rw [← hW]; exact (blk_set _ _ _ _ (show g1 ≠ q by omega)).trans (blk_keep (.cells #[.int .i64 (-4), .int .i64 (-5), .int .i64 (-10)] 3) s1)
  replace l1 : mblk W4 h1 = some (.cells #[.int .i64 0, .int .i64 18, .int .i64 22, .int .i64 6, .int .i64 (-3), .int .i64 4] 71 (0, 0)) := by rw [← hW]; exact (blk_set _ _ _ _ (show h1 ≠ q by omega)).trans (blk_keep (.cells #[.int .i64 (-4), .int .i64 (-5), .int .i64 (-10)] 3) l1)
  replace s2 : mblk W4 g2 = some (.cells #[.int .i64 (-4), .int .i64 (-5), .int .i64 (-4)] 3 (0, 0)) := by rw [← hW]; exact (blk_set _ _ _ _ (show g2 ≠ q by omega)).trans (blk_keep (.cells #[.int .i64 (-4), .int .i64 (-5), .int .i64 (-10)] 3) s2)
  replace l2 : mblk W4 h2 = some (.cells #[.int .i64 0, .int .i64 18, .int .i64 22, .int .i64 6, .int .i64 (-3), .int .i64 4] 71 (0, 0)) := by rw [← hW]; exact (blk_set _ _ _ _ (show h2 ≠ q by omega)).trans (blk_keep (.cells #[.int .i64 (-4), .int .i64 (-5), .int .i64 (-10)] 3) l2)
  replace s3 : mblk W4 g3 = some (.cells #[.int .i64 (-4), .int .i64 (-5), .int .i64 (-4)] 3 (0, 0)) := by rw [← hW]; exact (blk_set _ _ _ _ (show g3 ≠ q by omega)).trans (blk_keep (.cells #[.int .i64 (-4), .int .i64 (-5), .int .i64 (-10)] 3) s3)
  replace l3 : mblk W4 h3 = some (.cells #[.int .i64 0, .int .i64 18, .int .i64 22, .int .i64 6, .int .i64 (-3), .int .i64 4] 71 (0, 0)) := by rw [← hW]; exact (blk_set _ _ _ _ (show h3 ≠ q by omega)).trans (blk_keep (.cells #[.int .i64 (-4), .int .i64 (-5), .int .i64 (-10)] 3) l3)
  replace s4 : mblk W4 g4 = some (.cells #[.int .i64 (-4), .int .i64 (-5), .int .i64 (-4)] 3 (0, 0)) := by rw [← hW]; exact (blk_set _ _ _ _ (show g4 ≠ q by omega)).trans (blk_keep (.cells #[.int .i64 (-4), .int .i64 (-5), .int .i64 (-10)] 3) s4)
  replace l4 : mblk W4 h4 = some (.cells #[.int .i64 0, .int .i64 18, .int .i64 22, .int .i64 6, .int .i64 (-3), .int .i64 4] 71 (0, 0)) := by rw [← hW]; exact (blk_set _ _ _ _ (show h4 ≠ q by omega)).trans (blk_keep (.cells #[.int .i64 (-4), .int .i64 (-5), .int .i64 (-10)] 3) l4)
  replace s5 : mblk W4 g5 = some (.cells #[.int .i64 (-4), .int .i64 (-5), .int .i64 (-4)] 3 (0, 0)) := by rw [← hW]; exact (blk_set _ _ _ _ (show g5 ≠ q by omega)).trans (blk_keep (.cells #[.int .i64 (-4), .int .i64 (-5), .int .i64 (-10)] 3) s5)
  replace l5 : mblk W4 h5 = some (.cells #[.int .i64 0, .int .i64 18, .int .i64 22, .int .i64 6, .int .i64 (-3), .int .i64 4] 71 (0, 0)) := by rw [← hW]; exact (blk_set _ _ _ _ (show h5 ≠ q by omega)).trans (blk_keep (.cells #[.int .i64 (-4), .int .i64 (-5), .int .i64 (-10)] 3) l5)
  replace s6 : mblk W4 g6 = some (.cells #[.int .i64 (-4), .int .i64 (-5), .int .i64 (-4)] 3 (0, 0)) := by rw [← hW]; exact (blk_set _ _ _ _ (show g6 ≠ q by omega)).trans (blk_keep (.cells #[.int .i64 (-4), .int .i64 (-5), .int .i64 (-10)] 3) s6)
  replace l6 : mblk W4 h6 = some (.cells #[.int .i64 0, .int .i64 18, .int .i64 22, .int .i64 6, .int .i64 (-3), .int .i64 4] 71 (0, 0)) := by rw [← hW]; exact (blk_set _ _ _ _ (show h6 ≠ q by omega)).trans (blk_keep (.cells #[.int .i64 (-4), .int .i64 (-5), .int .i64 (-10)] 3) l6)
  have r3 : mblk W4 p3 = some (.cells #[.int .i64 (-4), .int .i64 (-5), .int .i64 (-10)] 3 (0, 0)) := by rw [← hW]; exact (blk_set _ _ _ _ (show p3 ≠ q by omega)).trans (blk_new _ _ _ hp.symm)
  have nr3 : q < p3 := yq
  rw [hW]
  clear hW hp yq
  have zq := frozB kq
  have zr := frozB (blk_keep (.cells #[.int .i64 5] 3) kq)
  go_upto_region 17 with (fail)
  clear zq zr
  have yq := blk_lt kq
  obtain ⟨p4, hp⟩ : ∃ p, W4.heap.size = p := ⟨_, rfl⟩
  rw [hp]
  rw [hp] at yq
  obtain ⟨W5, hW⟩ : ∃ X, (W4.alloc (.cells #[.int .i64 5] 3)).setCell ⟨q, 38, none⟩ (.slice (some ⟨p4, 0, none⟩) 1 1) = X := ⟨_, rfl⟩
  replace U : Up w0 W5 := by rw [← hW]; exact Up.set (U.alloc (.cells #[.int .i64 5] 3)) (p := ⟨q, 38, none⟩) hwq _
  replace kq : mblk W5 q = some (.cells #[(.int .i64 0), (.int .i64 0), (.int .i64 0), (.int .i64 0), (.int .i64 0), (.int .i64 0), (.slice none 0 0), (.slice none 0 0), (.int .i64 10), (.int .i64 5), (.int .i64 4), (.int .i64 (-1)), (.int .i64 2), (.int .i64 61), (.slice (some ⟨g1, 0, none⟩) 3 3), (.slice (some ⟨h1, 0, none⟩) 2 2), (.int .i64 10), (.int .i64 5), (.int .i64 4), (.int .i64 (-1)), (.int .i64 2), (.int .i64 2), (.slice (some ⟨g2, 0, none⟩) 3 3), (.slice (some ⟨h2, 0, none⟩) 2 2), (.int .i64 10), (.int .i64 5), (.int .i64 4), (.int .i64 (-1)), (.int .i64 2), (.int .i64 10), (.slice (some ⟨p3, 0, none⟩) 3 3), (.slice (some ⟨h3, 0, none⟩) 2 2), (.int .i64 10), (.int .i64 5), (.int .i64 4), (.int .i64 (-1)), (.int .i64 2), (.int .i64 10), (.slice (some ⟨p4, 0, none⟩) 1 1), (.slice (some ⟨h4, 0, none⟩) 2 2), (.int .i64 10), (.int .i64 5), (.int .i64 4), (.int .i64 (-1)), (.int .i64 2), (.int .i64 10), (.slice (some ⟨g5, 0, none⟩) 3 3), (.slice (some ⟨h5, 0, none⟩) 2 2), (.int .i64 10), (.int .i64 5), (.int .i64 4), (.int .i64 (-1)), (.int .i64 2), (.int .i64 10), (.slice (some ⟨g6, 0, none⟩) 3 3), (.slice (some ⟨h6, 0, none⟩) 2 2)] 44 (0, 0)) := by rw [← hW]; exact blk_put (blk_keep (.cells #[.int .i64 5] 3) kq) 38 _
  replace s1 : mblk W5 g1 = some (.cells #[.int .i64 (-4), .int .i64 (-5), .int .i64 (-4)] 3 (0, 0)) := by rw [← hW]; exact (blk_set _ _ _ _ (show g1 ≠ q by omega)).trans (blk_keep (.cells #[.int .i64 5] 3) s1)
  replace l1 : mblk W5 h1 = some (.cells #[.int .i64 0, .int .i64 18, .int .i64 22, .int .i64 6, .int .i64 (-3), .int .i64 4] 71 (0, 0)) := by rw [← hW]; exact (blk_set _ _ _ _ (show h1 ≠ q by omega)).trans (blk_keep (.cells #[.int .i64 5] 3) l1)
  replace s2 : mblk W5 g2 = some (.cells #[.int .i64 (-4), .int .i64 (-5), .int .i64 (-4)] 3 (0, 0)) := by rw [← hW]; exact (blk_set _ _ _ _ (show g2 ≠ q by omega)).trans (blk_keep (.cells #[.int .i64 5] 3) s2)
  replace l2 : mblk W5 h2 = some (.cells #[.int .i64 0, .int .i64 18, .int .i64 22, .int .i64 6, .int .i64 (-3), .int .i64 4] 71 (0, 0)) := by rw [← hW]; exact (blk_set _ _ _ _ (show h2 ≠ q by omega)).trans (blk_keep (.cells #[.int .i64 5] 3) l2)
  replace s3 : mblk W5 g3 = some (.cells #[.int .i64 (-4), .int .i64 (-5), .int .i64 (-4)] 3 (0, 0)) := by rw [← hW]; exact (blk_set _ _ _ _ (show g3 ≠ q by omega)).trans (blk_keep (.cells #[.int .i64 5] 3) s3)
  replace l3 : mblk W5 h3 = some (.cells #[.int .i64 0, .int .i64 18, .int .i64 22, .int .i64 6, .int .i64 (-3), .int .i64 4] 71 (0, 0)) := by rw [← hW]; exact (blk_set _ _ _ _ (show h3 ≠ q by omega)).trans (blk_keep (.cells #[.int .i64 5] 3) l3)
  replace s4 : mblk W5 g4 = some (.cells #[.int .i64 (-4), .int .i64 (-5), .int .i64 (-4)] 3 (0, 0)) := by rw [← hW]; exact (blk_set _ _ _ _ (show g4 ≠ q by omega)).trans (blk_keep (.cells #[.int .i64 5] 3) s4)
  replace l4 : mblk W5 h4 = some (.cells #[.int .i64 0, .int .i64 18, .int .i64 22, .int .i64 6, .int .i64 (-3), .int .i64 4] 71 (0, 0)) := by rw [← hW]; exact (blk_set _ _ _ _ (show h4 ≠ q by omega)).trans (blk_keep (.cells #[.int .i64 5] 3) l4)
  replace s5 : mblk W5 g5 = some (.cells #[.int .i64 (-4), .int .i64 (-5), .int .i64 (-4)] 3 (0, 0)) := by rw [← hW]; exact (blk_set _ _ _ _ (show g5 ≠ q by omega)).trans (blk_keep (.cells #[.int .i64 5] 3) s5)
  replace l5 : mblk W5 h5 = some (.cells #[.int .i64 0, .int .i64 18, .int .i64 22, .int .i64 6, .int .i64 (-3), .int .i64 4] 71 (0, 0)) := by rw [← hW]; exact (blk_set _ _ _ _ (show h5 ≠ q by omega)).trans (blk_keep (.cells #[.int .i64 5] 3) l5)
  replace s6 : mblk W5 g6 = some (.cells #[.int .i64 (-4), .int .i64 (-5), .int .i64 (-4)] 3 (0, 0)) := by rw [← hW]; exact (blk_set _ _ _ _ (show g6 ≠ q by omega)).trans (blk_keep (.cells #[.int .i64 5] 3) s6)
  replace l6 : mblk W5 h6 = some (.cells #[.int .i64 0, .int .i64 18, .int .i64 22, .int .i64 6, .int .i64 (-3), .int .i64 4] 71 (0, 0)) := by rw [← hW]; exact (blk_set _ _ _ _ (show h6 ≠ q by omega)).trans (blk_keep (.cells #[.int .i64 5] 3) l6)
  replace r3 : mblk W5 p3 = some (.cells #[.int .i64 (-4), .int .i64 (-5), .int .i64 (-10)] 3 (0, 0)) := by rw [← hW]; exact (blk_set _ _ _ _ (show p3 ≠ q by omega)).trans (blk_keep (.cells #[.int .i64 5] 3) r3)
  have r4 : mblk W5 p4 = some (.cells #[.int .i64 5] 3 (0, 0)) := by rw [← hW]; exact (blk_set _ _ _ _ (show p4 ≠ q by omega)).trans (blk_new _ _ _ hp.symm)
  have nr4 : q < p4 := yq
  rw [hW]
  clear hW hp yq
  have zq := frozB l5
  go_upto_region 18 with (fail)
  clear zq
  obtain ⟨W6, hW⟩ : ∃ X, W5.setCell ⟨h5, 3, none⟩ (.int .i64 11) = X := ⟨_, rfl⟩
  replace U : Up w0 W6 := by rw [← hW]; exact Up.set U (p := ⟨h5, 3, none⟩) (show w0.heap.size ≤ h5 by omega) _
  replace kq : mblk W6 q = some (.cells #[(.int .i64 0), (.int .i64 0), (.int .i64 0), (.int .i64 0), (.int .i64 0), (.int .i64 0), (.slice none 0 0), (.slice none 0 0), (.int .i64 10), (.int .i64 5), (.int .i64 4), (.int .i64 (-1)), (.int .i64 2), (.int .i64 61), (.slice (some ⟨g1, 0, none⟩) 3 3), (.slice (some ⟨h1, 0, none⟩) 2 2), (.int .i64 10), (.int .i64 5), (.int .i64 4), (.int .i64 (-1)), (.int .i64 2), (.int .i64 2), (.slice (some ⟨g2, 0, none⟩) 3 3), (.slice (some ⟨h2, 0, none⟩) 2 2), (.int .i64 10), (.int .i64 5), (.int .i64 4), (.int .i64 (-1)), (.int .i64 2), (.int .i64 10), (.slice (some ⟨p3, 0, none⟩) 3 3), (.slice (some ⟨h3, 0, none⟩) 2 2), (.int .i64 10), (.int .i64 5), (.int .i64 4), (.int .i64 (-1)), (.int .i64 2), (.int .i64 10), (.slice (some ⟨p4, 0, none⟩) 1 1), (.slice (some ⟨h4, 0, none⟩) 2 2), (.int .i64 10), (.int .i64 5), (.int .i64 4), (.int .i64 (-1)), (.int .i64 2), (.int .i64 10), (.slice (some ⟨g5, 0, none⟩) 3 3), (.slice (some ⟨h5, 0, none⟩) 2 2), (.int .i64 10), (.int .i64 5), (.int .i64 4), (.int .i64 (-1)), (.int .i64 2), (.int .i64 10), (.slice (some ⟨g6, 0, none⟩) 3 3), (.slice (some ⟨h6, 0, none⟩) 2 2)] 44 (0, 0)) := by rw [← hW]; exact (blk_set _ _ _ _ (show q ≠ h5 by omega)).trans kq
  replace s1 : mblk W6 g1 = some (.cells #[.int .i64 (-4), .int .i64 (-5), .int .i64 (-4)] 3 (0, 0)) := by rw [← hW]; exact (blk_set _ _ _ _ (show g1 ≠ h5 by omega)).trans s1
  replace l1 : mblk W6 h1 = some (.cells #[.int .i64 0, .int .i64 18, .int .i64 22, .int .i64 6, .int .i64 (-3), .int .i64 4] 71 (0, 0)) := by rw [← hW]; exact (blk_set _ _ _ _ (show h1 ≠ h5 by omega)).trans l1
  replace s2 : mblk W6 g2 = some (.cells #[.int .i64 (-4), .int .i64 (-5), .int .i64 (-4)] 3 (0, 0)) := by rw [← hW]; exact (blk_set _ _ _ _ (show g2 ≠ h5 by omega)).trans s2
  replace l2 : mblk W6 h2 = some (.cells #[.int .i64 0, .int .i64 18, .int .i64 22, .int .i64 6, .int .i64 (-3), .int .i64 4] 71 (0, 0)) := by rw [← hW]; exact (blk_set _ _ _ _ (show h2 ≠ h5 by omega)).trans l2
  replace s3 : mblk W6 g3 = some (.cells #[.int .i64 (-4), .int .i64 (-5), .int .i64 (-4)] 3 (0, 0)) := by rw [← hW]; exact (blk_set _ _ _ _ (show g3 ≠ h5 by omega)).trans s3
  replace l3 : mblk W6 h3 = some (.cells #[.int .i64 0, .int .i64 18, .int .i64 22, .int .i64 6, .int .i64 (-3), .int .i64 4] 71 (0, 0)) := by rw [← hW]; exact (blk_set _ _ _ _ (show h3 ≠ h5 by omega)).trans l3
  replace s4 : mblk W6 g4 = some (.cells #[.int .i64 (-4), .int .i64 (-5), .int .i64 (-4)] 3 (0, 0)) := by rw [← hW]; exact (blk_set _ _ _ _ (show g4 ≠ h5 by omega)).trans s4
  replace l4 : mblk W6 h4 = some (.cells #[.int .i64 0, .int .i64 18, .int .i64 22, .int .i64 6, .int .i64 (-3), .int .i64 4] 71 (0, 0)) := by rw [← hW]; exact (blk_set _ _ _ _ (show h4 ≠ h5 by omega)).trans l4
  replace s5 : mblk W6 g5 = some (.cells #[.int .i64 (-4), .int .i64 (-5), .int .i64 (-4)] 3 (0, 0)) := by rw [← hW]; exact (blk_set _ _ _ _ (show g5 ≠ h5 by omega)).trans s5
  replace l5 : mblk W6 h5 = some (.cells #[.int .i64 0, .int .i64 18, .int .i64 22, .int .i64 11, .int .i64 (-3), .int .i64 4] 71 (0, 0)) := by rw [← hW]; exact blk_put l5 3 _
  replace s6 : mblk W6 g6 = some (.cells #[.int .i64 (-4), .int .i64 (-5), .int .i64 (-4)] 3 (0, 0)) := by rw [← hW]; exact (blk_set _ _ _ _ (show g6 ≠ h5 by omega)).trans s6
  replace l6 : mblk W6 h6 = some (.cells #[.int .i64 0, .int .i64 18, .int .i64 22, .int .i64 6, .int .i64 (-3), .int .i64 4] 71 (0, 0)) := by rw [← hW]; exact (blk_set _ _ _ _ (show h6 ≠ h5 by omega)).trans l6
  replace r3 : mblk W6 p3 = some (.cells #[.int .i64 (-4), .int .i64 (-5), .int .i64 (-10)] 3 (0, 0)) := by rw [← hW]; exact (blk_set _ _ _ _ (show p3 ≠ h5 by omega)).trans r3
  replace r4 : mblk W6 p4 = some (.cells #[.int .i64 5] 3 (0, 0)) := by rw [← hW]; exact (blk_set _ _ _ _ (show p4 ≠ h5 by omega)).trans r4
  rw [hW]
  clear hW
  have HH := Lib.hid (show mblk W6 g1 = some (.cells #[.int .i64 (-4), .int .i64 (-5), .int .i64 (-4)] 3 (0, 0)) ∧ mblk W6 h1 = some (.cells #[.int .i64 0, .int .i64 18, .int .i64 22, .int .i64 6, .int .i64 (-3), .int .i64 4] 71 (0, 0)) ∧ mblk W6 g2 = some (.cells #[.int .i64 (-4), .int .i64 (-5), .int .i64 (-4)] 3 (0, 0)) ∧ mblk W6 h2 = some (.cells #[.int .i64 0, .int .i64 18, .int .i64 22, .int .i64 6, .int .i64 (-3), .int .i64 4] 71 (0, 0)) ∧ mblk W6 g3 = some (.cells #[.int .i64 (-4), .int .i64 (-5), .int .i64 (-4)] 3 (0, 0)) ∧ mblk W6 h3 = some (.cells #[.int .i64 0, .int .i64 18, .int .i64 22, .int .i64 6, .int .i64 (-3), .int .i64 4] 71 (0, 0)) ∧ mblk W6 g4 = some (.cells #[.int .i64 (-4), .int .i64 (-5), .int .i64 (-4)] 3 (0, 0)) ∧ mblk W6 h4 = some (.cells #[.int .i64 0, .int .i64 18, .int .i64 22, .int .i64 6, .int .i64 (-3), .int .i64 4] 71 (0, 0)) ∧ mblk W6 g5 = some (.cells #[.int .i64 (-4), .int .i64 (-5), .int .i64 (-4)] 3 (0, 0)) ∧ mblk W6 h5 = some (.cells #[.int .i64 0, .int .i64 18, .int .i64 22, .int .i64 11, .int .i64 (-3), .int .i64 4] 71 (0, 0)) ∧ mblk W6 g6 = some (.cells #[.int .i64 (-4), .int .i64 (-5), .int .i64 (-4)] 3 (0, 0)) ∧ mblk W6 p3 = some (.cells #[.int .i64 (-4), .int .i64 (-5), .int .i64 (-10)] 3 (0, 0)) ∧ mblk W6 p4 = some (.cells #[.int .i64 5] 3 (0, 0)) from ⟨s1, l1, s2, l2, s3, l3, s4, l4, s5, l5, s6, r3, r4⟩)
  clear s1 l1 s2 l2 s3 l3 s4 l4 s5 l5 s6 r3 r4
  have HS := Lib.hid (show Up w0 W6 ∧ mblk W6 q = some (.cells #[(.int .i64 0), (.int .i64 0), (.int .i64 0), (.int .i64 0), (.int .i64 0), (.int .i64 0), (.slice none 0 0), (.slice none 0 0), (.int .i64 10), (.int .i64 5), (.int .i64 4), (.int .i64 (-1)), (.int .i64 2), (.int .i64 61), (.slice (some ⟨g1, 0, none⟩) 3 3), (.slice (some ⟨h1, 0, none⟩) 2 2), (.int .i64 10), (.int .i64 5), (.int .i64 4), (.int .i64 (-1)), (.int .i64 2), (.int .i64 2), (.slice (some ⟨g2, 0, none⟩) 3 3), (.slice (some ⟨h2, 0, none⟩) 2 2), (.int .i64 10), (.int .i64 5), (.int .i64 4), (.int .i64 (-1)), (.int .i64 2), (.int .i64 10), (.slice (some ⟨p3, 0, none⟩) 3 3), (.slice (some ⟨h3, 0, none⟩) 2 2), (.int .i64 10), (.int .i64 5), (.int .i64 4), (.int .i64 (-1)), (.int .i64 2), (.int .i64 10), (.slice (some ⟨p4, 0, none⟩) 1 1), (.slice (some ⟨h4, 0, none⟩) 2 2), (.int .i64 10), (.int .i64 5), (.int .i64 4), (.int .i64 (-1)), (.int .i64 2), (.int .i64 10), (.slice (some ⟨g5, 0, none⟩) 3 3), (.slice (some ⟨h5, 0, none⟩) 2 2), (.int .i64 10), (.int .i64 5), (.int .i64 4), (.int .i64 (-1)), (.int .i64 2), (.int .i64 10), (.slice (some ⟨g6, 0, none⟩) 3 3), (.slice (some ⟨h6, 0, none⟩) 2 2)] 44 (0, 0)) ∧ mblk W6 h6 = some (.cells #[.int .i64 0, .int .i64 18, .int .i64 22, .int .i64 6, .int .i64 (-3), .int .i64 4] 71 (0, 0)) from ⟨U, kq, l6⟩)
  clear U kq l6
  apply S.mergeA (fun w' (_ _ : Nat) => Up w0 w' ∧ q < w'.heap.size ∧ ∀ i, i < 7 → Kn.Bad w' q i)
  · intro HKey
    refine (wpIn_wide (n := 5)).1 ?_
    refine wpIn_nrm ?_
    refine regionG (fun w' => Up w0 w' ∧ Up W6 w' ∧ mblk w' q = some (.cells #[(.int .i64 0), (.int .i64 0), (.int .i64 0), (.int .i64 0), (.int .i64 0), (.int .i64 0), (.slice none 0 0), (.slice none 0 0), (.int .i64 10), (.int .i64 5), (.int .i64 4), (.int .i64 (-1)), (.int .i64 2), (.int .i64 61), (.slice (some ⟨g1, 0, none⟩) 3 3), (.slice (some ⟨h1, 0, none⟩) 2 2), (.int .i64 10), (.int .i64 5), (.int .i64 4), (.int .i64 (-1)), (.int .i64 2), (.int .i64 2), (.slice (some ⟨g2, 0, none⟩) 3 3), (.slice (some ⟨h2, 0, none⟩) 2 2), (.int .i64 10), (.int .i64 5), (.int .i64 4), (.int .i64 (-1)), (.int .i64 2), (.int .i64 10), (.slice (some ⟨p3, 0, none⟩) 3 3), (.slice (some ⟨h3, 0, none⟩) 2 2), (.int .i64 10), (.int .i64 5), (.int .i64 4), (.int .i64 (-1)), (.int .i64 2), (.int .i64 10), (.slice (some ⟨p4, 0, none⟩) 1 1), (.slice (some ⟨h4, 0, none⟩) 2 2), (.int .i64 10), (.int .i64 5), (.int .i64 4), (.int .i64 (-1)), (.int .i64 2), (.int .i64 10), (.slice (some ⟨g5, 0, none⟩) 3 3), (.slice (some ⟨h5, 0, none⟩) 2 2), (.int .i64 10), (.int .i64 5), (.int .i64 4), (.int .i64 (-1)), (.int .i64 2), (.int .i64 10), (.slice (some ⟨g6, 0, none⟩) 3 3), (.slice (some ⟨h6, 0, none⟩) 2 2)] 44 (0, 0)) ∧ mblk w' h6 = some (.cells #[.int .i64 0, .int .i64 18, .int .i64 22, .int .i64 6, .int .i64 (-3), .int .i64 4] 71 (0, 0))) 7 (by kernel_rfl) ⟨HS.out.1.drew, (Up.refl W6).drew, by rw [blk_drew]; exact HS.out.2.1, by rw [blk_drew]; exact HS.out.2.2⟩ (fun hHeld hCl => ?_)
    refine takeG (i := 0) (d := (some 157)) (v := ?v1) rfl rfl (by kernel_rfl) (by kernel_rfl) (by decide) hCl (by kernel_rfl) (by kernel_rfl) (by kernel_rfl) (fun _ _ _ h => h) (by rfl) ?hy1 (fun _ _ _ => trivial) (by assumption) (fun hCl' => ?_)
    case hy1 => ((intro w hSw; (try dsimp only at hSw); (try go_split_ands); go_simp); try with_reducible rfl)
    simp only [Act.put, List.setIfInBounds_toArray, List.set_cons_zero, List.set_cons_succ]
    replace hCl := hCl'; clear hCl'
    refine takeG (i := 1) (d := (some 158)) (v := ?v2) rfl rfl (by kernel_rfl) (by kernel_rfl) (by decide) hCl (by kernel_rfl) (by kernel_rfl) (by kernel_rfl) (fun _ _ _ h => h) (by rfl) ?hy2 (fun _ _ _ => trivial) (by assumption) (fun hCl' => ?_)
    case hy2 => ((intro w hSw; (try dsimp only at hSw); (try go_split_ands); go_simp); try with_reducible rfl)
    simp only [Act.put, List.setIfInBounds_toArray, List.set_cons_zero, List.set_cons_succ]
    replace hCl := hCl'; clear hCl'
    refine takeG (i := 2) (d := (some 159)) (v := ?v3) rfl rfl (by kernel_rfl) (by kernel_rfl) (by decide) hCl (by kernel_rfl) (by kernel_rfl) (by kernel_rfl) (fun _ _ _ h => h) (by rfl) ?hy3 (fun _ _ _ => trivial) (by assumption) (fun hCl' => ?_)
    case hy3 => ((intro w hSw; (try dsimp only at hSw); (try go_split_ands); go_simp); try with_reducible rfl)
    simp only [Act.put, List.setIfInBounds_toArray, List.set_cons_zero, List.set_cons_succ]
    replace hCl := hCl'; clear hCl'
    refine takeG (i := 3) (d := (some 160)) (v := ?v4) rfl rfl (by kernel_rfl) (by kernel_rfl) (by decide) hCl (by kernel_rfl) (by kernel_rfl) (by kernel_rfl) (fun _ _ _ h => h) (by rfl) ?hy4 (fun _ _ _ => trivial) (by assumption) (fun hCl' => ?_)
    case hy4 => ((intro w hSw; (try dsimp only at hSw); (try go_split_ands); go_simp); try with_reducible rfl)
    simp only [Act.put, List.setIfInBounds_toArray, List.set_cons_zero, List.set_cons_succ]
    replace hCl := hCl'; clear hCl'
    refine nextG (i := 4) (by kernel_rfl) rfl (by rfl) hCl (fun K hK => ?_)
    go_simp
    refine ⟨trivial, (callsIn_wide.2 (HTo.out _)).mono ?_⟩
    rintro e y ⟨rfl, u⟩
    refine hK.out _ _ ⟨hHeld.1.trans u, hHeld.2.1.trans u, u.blk hHeld.2.2.1, u.blk hHeld.2.2.2⟩ (fun hHeld hCl => ?_)
    clear hK K u
    try simp only [Act.put, List.setIfInBounds_toArray, List.set_cons_zero, List.set_cons_succ]
    refine takeG (i := 5) (d := (some 162)) (v := ?v6) rfl rfl (by kernel_rfl) (by kernel_rfl) (by decide) hCl (by kernel_rfl) (by kernel_rfl) (by kernel_rfl) (fun _ _ _ h => h) (by rfl) ?hy6 (fun _ _ _ => trivial) (by assumption) (fun hCl' => ?_)
    case hy6 => ((intro w hSw; (try dsimp only at hSw); (try go_split_ands); go_simp); try with_reducible rfl)
    simp only [Act.put, List.setIfInBounds_toArray, List.set_cons_zero, List.set_cons_succ]
    replace hCl := hCl'; clear hCl'
    refine takeG (i := 6) (d := (some 163)) (v := ?v7) rfl rfl (by kernel_rfl) (by kernel_rfl) (by decide) hCl (by kernel_rfl) (by kernel_rfl) (by kernel_rfl) (fun _ _ _ h => h) (by rfl) ?hy7 (fun _ _ _ => trivial) (by assumption) (fun hCl' => ?_)
    case hy7 => ((intro w hSw; (try dsimp only at hSw); (try go_split_ands); go_simp); try with_reducible rfl)
    simp only [Act.put, List.setIfInBounds_toArray, List.set_cons_zero, List.set_cons_succ]
    replace hCl := hCl'; clear hCl'
    obtain ⟨U, UW, kq, l6⟩ := hHeld
    have zf := frozB l6
    clear hCl
    refine lastG (i := 7) (by kernel_rfl) rfl (by rfl) (by decide) (fun K hK => ?_)
    go_simp
    obtain ⟨Z, hW⟩ : ∃ X, (y.setCell ⟨h6, 1, none⟩ (.int .i64 0)).setCell ⟨h6, 2, none⟩ (.int .i64 20001) = X := ⟨_, rfl⟩
    obtain ⟨s1, l1, s2, l2, s3, l3, s4, l4, s5, l5, s6, r3, r4⟩ := HH.out
    replace U : Up w0 Z := by rw [← hW]; exact Up.set (Up.set U (p := ⟨h6, 1, none⟩) (show w0.heap.size ≤ h6 by omega) _) (p := ⟨h6, 2, none⟩) (show w0.heap.size ≤ h6 by omega) _
    replace kq : mblk Z q = some (.cells #[(.int .i64 0), (.int .i64 0), (.int .i64 0), (.int .i64 0), (.int .i64 0), (.int .i64 0), (.slice none 0 0), (.slice none 0 0), (.int .i64 10), (.int .i64 5), (.int .i64 4), (.int .i64 (-1)), (.int .i64 2), (.int .i64 61), (.slice (some ⟨g1, 0, none⟩) 3 3), (.slice (some ⟨h1, 0, none⟩) 2 2), (.int .i64 10), (.int .i64 5), (.int .i64 4), (.int .i64 (-1)), (.int .i64 2), (.int .i64 2), (.slice (some ⟨g2, 0, none⟩) 3 3), (.slice (some ⟨h2, 0, none⟩) 2 2), (.int .i64 10), (.int .i64 5), (.int .i64 4), (.int .i64 (-1)), (.int .i64 2), (.int .i64 10), (.slice (some ⟨p3, 0, none⟩) 3 3), (.slice (some ⟨h3, 0, none⟩) 2 2), (.int .i64 10), (.int .i64 5), (.int .i64 4), (.int .i64 (-1)), (.int .i64 2), (.int .i64 10), (.slice (some ⟨p4, 0, none⟩) 1 1), (.slice (some ⟨h4, 0, none⟩) 2 2), (.int .i64 10), (.int .i64 5), (.int .i64 4), (.int .i64 (-1)), (.int .i64 2), (.int .i64 10), (.slice (some ⟨g5, 0, none⟩) 3 3), (.slice (some ⟨h5, 0, none⟩) 2 2), (.int .i64 10), (.int .i64 5), (.int .i64 4), (.int .i64 (-1)), (.int .i64 2), (.int .i64 10), (.slice (some ⟨g6, 0, none⟩) 3 3), (.slice (some ⟨h6, 0, none⟩) 2 2)] 44 (0, 0)) := by rw [← hW]; exact (blk_set _ _ _ _ (show q ≠ h6 by omega)).trans ((blk_set _ _ _ _ (show q ≠ h6 by omega)).trans kq)
    replace l6 : mblk Z h6 = some (.cells #[.int .i64 0, .int .i64 0, .int .i64 20001, .int .i64 6, .int .i64 (-3), .int .i64 4] 71 (0, 0)) := by rw [← hW]; exact blk_put (blk_put l6 1 _) 2 _
    replace s1 : mblk Z g1 = some (.cells #[.int .i64 (-4), .int .i64 (-5), .int .i64 (-4)] 3 (0, 0)) := by rw [← hW]; exact (blk_set _ _ _ _ (show g1 ≠ h6 by omega)).trans ((blk_set _ _ _ _ (show g1 ≠ h6 by omega)).trans (UW.blk s1))
    replace l1 : mblk Z h1 = some (.cells #[.int .i64 0, .int .i64 18, .int .i64 22, .int .i64 6, .int .i64 (-3), .int .i64 4] 71 (0, 0)) := by rw [← hW]; exact (blk_set _ _ _ _ (show h1 ≠ h6 by omega)).trans ((blk_set _ _ _ _ (show h1 ≠ h6 by omega)).trans (UW.blk l1))
    replace s2 : mblk Z g2 = some (.cells #[.int .i64 (-4), .int .i64 (-5), .int .i64 (-4)] 3 (0, 0)) := by rw [← hW]; exact (blk_set _ _ _ _ (show g2 ≠ h6 by omega)).trans ((blk_set _ _ _ _ (show g2 ≠ h6 by omega)).trans (UW.blk s2))
    replace l2 : mblk Z h2 = some (.cells #[.int .i64 0, .int .i64 18, .int .i64 22, .int .i64 6, .int .i64 (-3), .int .i64 4] 71 (0, 0)) := by rw [← hW]; exact (blk_set _ _ _ _ (show h2 ≠ h6 by omega)).trans ((blk_set _ _ _ _ (show h2 ≠ h6 by omega)).trans (UW.blk l2))
    replace s3 : mblk Z g3 = some (.cells #[.int .i64 (-4), .int .i64 (-5), .int .i64 (-4)] 3 (0, 0)) := by rw [← hW]; exact (blk_set _ _ _ _ (show g3 ≠ h6 by omega)).trans ((blk_set _ _ _ _ (show g3 ≠ h6 by omega)).trans (UW.blk s3))
    replace l3 : mblk Z h3 = some (.cells #[.int .i64 0, .int .i64 18, .int .i64 22, .int .i64 6, .int .i64 (-3), .int .i64 4] 71 (0, 0)) := by rw [← hW]; exact (blk_set _ _ _ _ (show h3 ≠ h6 by omega)).trans ((blk_set _ _ _ _ (show h3 ≠ h6 by omega)).trans (UW.blk l3))
    replace s4 : mblk Z g4 = some (.cells #[.int .i64 (-4), .int .i64 (-5), .int .i64 (-4)] 3 (0, 0)) := by rw [← hW]; exact (blk_set _ _ _ _ (show g4 ≠ h6 by omega)).trans ((blk_set _ _ _ _ (show g4 ≠ h6 by omega)).trans (UW.blk s4))
    replace l4 : mblk Z h4 = some (.cells #[.int .i64 0, .int .i64 18, .int .i64 22, .int .i64 6, .int .i64 (-3), .int .i64 4] 71 (0, 0)) := by rw [← hW]; exact (blk_set _ _ _ _ (show h4 ≠ h6 by omega)).trans ((blk_set _ _ _ _ (show h4 ≠ h6 by omega)).trans (UW.blk l4))
    replace s5 : mblk Z g5 = some (.cells #[.int .i64 (-4), .int .i64 (-5), .int .i64 (-4)] 3 (0, 0)) := by rw [← hW]; exact (blk_set _ _ _ _ (show g5 ≠ h6 by omega)).trans ((blk_set _ _ _ _ (show g5 ≠ h6 by omega)).trans (UW.blk s5))
    replace l5 : mblk Z h5 = some (.cells #[.int .i64 0, .int .i64 18, .int .i64 22, .int .i64 11, .int .i64 (-3), .int .i64 4] 71 (0, 0)) := by rw [← hW]; exact (blk_set _ _ _ _ (show h5 ≠ h6 by omega)).trans ((blk_set _ _ _ _ (show h5 ≠ h6 by omega)).trans (UW.blk l5))
    replace s6 : mblk Z g6 = some (.cells #[.int .i64 (-4), .int .i64 (-5), .int .i64 (-4)] 3 (0, 0)) := by rw [← hW]; exact (blk_set _ _ _ _ (show g6 ≠ h6 by omega)).trans ((blk_set _ _ _ _ (show g6 ≠ h6 by omega)).trans (UW.blk s6))
    replace r3 : mblk Z p3 = some (.cells #[.int .i64 (-4), .int .i64 (-5), .int .i64 (-10)] 3 (0, 0)) := by rw [← hW]; exact (blk_set _ _ _ _ (show p3 ≠ h6 by omega)).trans ((blk_set _ _ _ _ (show p3 ≠ h6 by omega)).trans (UW.blk r3))
    replace r4 : mblk Z p4 = some (.cells #[.int .i64 5] 3 (0, 0)) := by rw [← hW]; exact (blk_set _ _ _ _ (show p4 ≠ h6 by omega)).trans ((blk_set _ _ _ _ (show p4 ≠ h6 by omega)).trans (UW.blk r4))
    rw [hW]
    refine hK.out _ _ ?_
    clear hK K hW
    refine doneG (by kernel_rfl) ?_ _
    refine S.nrm_intro ?_
    obtain ⟨n1, hn1⟩ : ∃ n : Nat, n = 0 := ⟨_, rfl⟩
    obtain ⟨n2, hn2⟩ : ∃ n : Nat, n = 0 := ⟨_, rfl⟩
    exact HKey.out _ n1 n2 ⟨U, blk_lt kq, kn_bad kq s1 l1 s2 l2 s3 l3 s4 l4 s5 l5 s6 l6 r3 r4⟩
  intro Z _ _ ⟨UZ, hqZ, HB⟩
  replace HB := Lib.hid HB
  go_step
  go_step
  exact kn_tail19 _ _ _ _ _ _ _ _ _ _ _ _ _ _ _ _ _ _ _ _ _ _ _ _ _ _ _ _ _ _ _ _ _ _ _ _ _ _ _ _ _ _ _ _ _ _ _ _ _ _ _ _ _ _ _ _ _ _ _ _ _ _ _ _ _ _ _ _ _ _ _ _ _ _ _ _ _ _ _ _ _ _ _ _ _ _ _ _ _ _ _ _ _ _ _ _ _ _ _ _ _ _ _ _ _ _ _ _ _ _ _ _ _ _ _ _ _ _ _ _ _ _ _ _ _ _ _ _ _ _ _ _ _ _ _ _ _ _ _ _ _ _ _ _ _ _ _ _ _ _ _ _ _ _ _ _ _ _ _ _ _ _ _ UZ hqZ HB.out

end Go.Proofs.Ytcadpdbadgejfaa
