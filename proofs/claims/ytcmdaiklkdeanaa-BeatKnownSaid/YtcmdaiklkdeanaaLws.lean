import Derived.Test.YtcmdaiklkdeanaaExa
import Derived.Test.YtcmdaiklkdeanaaLce
/- The contract of the laws' works: the chapter's examples come out. -/
namespace Go.Proofs.Ytcmdaiklkdeanaa
open Go.RowKit Go.Shelf
attribute [local go_sem] Oper.semAt_some

theorem ints_one {w : World} (x : Int) : Ints (w.alloc (.cells #[.int .i64 x] 3)) (.slice (some ⟨w.heap.size, 0, none⟩) 1 1) [x] := ints1 (blk_new _ _ _ rfl)
set_option maxRecDepth 100000 in
set_option maxHeartbeats 4000000 in
theorem l_works_any (w : World) : Calls Try.prog 21 #[] w fun e w' => e = .returned (.bool true) ∧ Up w w' := by
  go_enter Try.func21, Try.ntmps21
  go_wp2_with fail
  refine (l_cellar_nil _).mono ?_
  rintro e v0 ⟨⟨a0, b0, c0, rfl, I0, J0, K0⟩, u0⟩
  go_wp2_with fail
  refine (ex_Offset I0 J0 K0).mono ?_
  rintro e x0 ⟨rfl, y0⟩
  have t0 := u0.trans y0
  have U := t0
  clear u0 y0 t0 I0 J0 K0
  go_wp2_with fail
  obtain ⟨W0, hW⟩ : ∃ z, x0.alloc (.cells #[.int .i64 98, .int .i64 105] 34) = z := ⟨_, rfl⟩
  obtain ⟨r0, hr⟩ : ∃ z, x0.heap.size = z := ⟨_, rfl⟩
  have k0 : mblk W0 r0 = some (.cells #[.int .i64 98, .int .i64 105] 34 (0, 0)) := by rw [← hW]; exact blk_new _ _ _ hr.symm
  have s0 : Up x0 W0 := by rw [← hW]; exact (Up.refl _).alloc _
  rw [hW, hr]
  replace U := U.trans s0
  clear hW hr s0
  go_wp2_with fail
  refine (l_cellar_nil _).mono ?_
  rintro e v1 ⟨⟨a1, b1, c1, rfl, I1, J1, K1⟩, u1⟩
  go_wp2_with fail
  refine (ex_Apart I1 J1 K1).mono ?_
  rintro e x1 ⟨rfl, y1⟩
  have t1 := u1.trans y1
  replace U := U.trans t1
  replace k0 := t1.blk k0
  clear u1 y1 t1 I1 J1 K1
  go_wp2_with fail
  obtain ⟨W1, hW⟩ : ∃ z, x1.alloc (.cells #[.int .i64 34, .int .i64 50] 34) = z := ⟨_, rfl⟩
  obtain ⟨r1, hr⟩ : ∃ z, x1.heap.size = z := ⟨_, rfl⟩
  have k1 : mblk W1 r1 = some (.cells #[.int .i64 34, .int .i64 50] 34 (0, 0)) := by rw [← hW]; exact blk_new _ _ _ hr.symm
  have s1 : Up x1 W1 := by rw [← hW]; exact (Up.refl _).alloc _
  rw [hW, hr]
  replace U := U.trans s1
  replace k0 := s1.blk k0
  clear hW hr s1
  go_wp2_with fail
  refine (l_cellar_nil _).mono ?_
  rintro e v2 ⟨⟨a2, b2, c2, rfl, I2, J2, K2⟩, u2⟩
  go_wp2_with fail
  refine (ex_Drift I2 J2 K2).mono ?_
  rintro e x2 ⟨rfl, y2⟩
  have t2 := u2.trans y2
  replace U := U.trans t2
  replace k0 := t2.blk k0
  replace k1 := t2.blk k1
  clear u2 y2 t2 I2 J2 K2
  go_wp2_with fail
  obtain ⟨W2, hW⟩ : ∃ z, x2.alloc (.cells #[.int .i64 (-60), .int .i64 60] 34) = z := ⟨_, rfl⟩
  obtain ⟨r2, hr⟩ : ∃ z, x2.heap.size = z := ⟨_, rfl⟩
  have k2 : mblk W2 r2 = some (.cells #[.int .i64 (-60), .int .i64 60] 34 (0, 0)) := by rw [← hW]; exact blk_new _ _ _ hr.symm
  have s2 : Up x2 W2 := by rw [← hW]; exact (Up.refl _).alloc _
  rw [hW, hr]
  replace U := U.trans s2
  replace k0 := s2.blk k0
  replace k1 := s2.blk k1
  clear hW hr s2
  go_wp2_with fail
  refine (l_cellar_nil _).mono ?_
  rintro e v3 ⟨⟨a3, b3, c3, rfl, I3, J3, K3⟩, u3⟩
  go_wp2_with fail
  refine (ex_Case I3 J3 K3).mono ?_
  rintro e x3 ⟨⟨lv, rows, rfl, R, hl, hk, h5⟩, y3⟩
  have t3 := u3.trans y3
  replace U := U.trans t3
  replace k0 := t3.blk k0
  replace k1 := t3.blk k1
  replace k2 := t3.blk k2
  clear u3 y3 t3 I3 J3 K3
  have HL := Lib.hid (And.intro hl (And.intro hk h5))
  clear hl hk h5
  go_wp2_with fail
  refine (l_torn_any _).mono ?_
  rintro e v4 ⟨⟨g4, rfl, hM, _⟩, u4⟩
  go_wp2_with fail
  refine (l_cellar_torn hM).mono ?_
  rintro e z4 ⟨⟨a4, b4, pv, rfl, I4, J4, K4⟩, q4⟩
  obtain ⟨pa, pc, epv⟩ : ∃ pa pc, pv = .slice pa 5 pc := by
    obtain ⟨a', c', e, _⟩ := K4.is
    exact ⟨a', c', e⟩
  subst epv
  go_wp2_with fail
  refine (ex_Wrong I4 J4 K4).mono ?_
  rintro e x4 ⟨⟨wv, rfl, IW⟩, y4⟩
  have t4 := (u4.trans q4).trans y4
  replace U := U.trans t4
  replace R := R.up t4
  replace k0 := t4.blk k0
  replace k1 := t4.blk k1
  replace k2 := t4.blk k2
  clear u4 q4 y4 t4 I4 J4 K4 hM
  go_wp2_with fail
  refine (l_cellar_nil _).mono ?_
  rintro e v5 ⟨⟨a5, b5, c5, rfl, I5, J5, K5⟩, u5⟩
  go_wp2_with fail
  refine (ex_Best I5 J5 K5).mono ?_
  rintro e x5 ⟨rfl, y5⟩
  have t5 := u5.trans y5
  replace U := U.trans t5
  replace k0 := t5.blk k0
  replace k1 := t5.blk k1
  replace k2 := t5.blk k2
  replace R := R.up t5
  replace IW := IW.up t5
  clear u5 y5 t5 I5 J5 K5
  go_wp2_with fail
  refine wp_region_held_drew (S := fun w' => Up w w' ∧ mblk w' r0 = some (.cells #[.int .i64 98, .int .i64 105] 34 (0, 0)) ∧ mblk w' r1 = some (.cells #[.int .i64 34, .int .i64 50] 34 (0, 0)) ∧ mblk w' r2 = some (.cells #[.int .i64 (-60), .int .i64 60] 34 (0, 0)) ∧ Ints w' wv [1] ∧ T.Rows w' lv rows) (by kernel_rfl) ⟨U.drew, k0, k1, k2, IW.up (Up.refl _).drew, R.up (Up.refl _).drew⟩ (fun hHeld => ?_)
  clear U k0 k1 k2 IW R
  refine takeH (i := 0) (d := (some 47)) (v := ?v1) rfl rfl (by kernel_rfl) (by kernel_rfl) (by kernel_rfl) (fun _ _ _ h => h) (by rfl) ?hy1 (by assumption) ?_
  case hy1 => ((intro w hSw; (try dsimp only at hSw); (try go_split_ands); go_simp); try with_reducible rfl)
  simp only [Act.put, List.setIfInBounds_toArray, List.set_cons_zero, List.set_cons_succ]
  refine takeH (i := 1) (d := (some 48)) (v := ?v2) rfl rfl (by kernel_rfl) (by kernel_rfl) (by kernel_rfl) (fun _ _ _ h => h) (by rfl) ?hy2 (by assumption) ?_
  case hy2 => ((intro w hSw; (try dsimp only at hSw); (try go_split_ands); go_simp); try with_reducible rfl)
  simp only [Act.put, List.setIfInBounds_toArray, List.set_cons_zero, List.set_cons_succ]
  refine takeH (i := 2) (d := (some 49)) (v := ?v3) rfl rfl (by kernel_rfl) (by kernel_rfl) (by kernel_rfl) (fun _ _ _ h => h) (by rfl) ?hy3 (by assumption) ?_
  case hy3 => ((intro w hSw; (try dsimp only at hSw); (try go_split_ands); go_simp); try with_reducible rfl)
  simp only [Act.put, List.setIfInBounds_toArray, List.set_cons_zero, List.set_cons_succ]
  refine takeH (i := 3) (d := (some 50)) (v := ?v4) rfl rfl (by kernel_rfl) (by kernel_rfl) (by kernel_rfl) (fun _ _ _ h => h) (by rfl) ?hy4 (by assumption) ?_
  case hy4 => ((intro w hSw; (try dsimp only at hSw); (try go_split_ands); go_simp); try with_reducible rfl)
  simp only [Act.put, List.setIfInBounds_toArray, List.set_cons_zero, List.set_cons_succ]
  refine takeH (i := 4) (d := (some 51)) (v := ?v5) rfl rfl (by kernel_rfl) (by kernel_rfl) (by kernel_rfl) (fun _ _ _ h => h) (by rfl) ?hy5 (by assumption) ?_
  case hy5 => ((intro w hSw; (try dsimp only at hSw); (try go_split_ands); go_simp); try with_reducible rfl)
  simp only [Act.put, List.setIfInBounds_toArray, List.set_cons_zero, List.set_cons_succ]
  refine takeH (i := 5) (d := (some 52)) (v := ?v6) rfl rfl (by kernel_rfl) (by kernel_rfl) (by kernel_rfl) (fun _ _ _ h => h) (by rfl) ?hy6 (by assumption) ?_
  case hy6 => ((intro w hSw; (try dsimp only at hSw); (try go_split_ands); go_simp); try with_reducible rfl)
  simp only [Act.put, List.setIfInBounds_toArray, List.set_cons_zero, List.set_cons_succ]
  refine takeH (i := 6) (d := (some 53)) (v := ?v7) rfl rfl (by kernel_rfl) (by kernel_rfl) (by kernel_rfl) (fun _ _ _ h => h) (by rfl) ?hy7 (by assumption) ?_
  case hy7 => ((intro w hSw; (try dsimp only at hSw); (try go_split_ands); go_simp); try with_reducible rfl)
  simp only [Act.put, List.setIfInBounds_toArray, List.set_cons_zero, List.set_cons_succ]
  refine takeH (i := 7) (d := (some 54)) (v := ?v8) rfl rfl (by kernel_rfl) (by kernel_rfl) (by kernel_rfl) (fun _ _ _ h => h) (by rfl) ?hy8 (by assumption) ?_
  case hy8 => ((intro w hSw; (try dsimp only at hSw); (try go_split_ands); go_simp); try with_reducible rfl)
  simp only [Act.put, List.setIfInBounds_toArray, List.set_cons_zero, List.set_cons_succ]
  refine takeH (i := 8) (d := (some 55)) (v := ?v9) rfl rfl (by kernel_rfl) (by kernel_rfl) (by kernel_rfl) (fun _ _ _ h => h) (by rfl) ?hy9 (by assumption) ?_
  case hy9 => ((intro w hSw; (try dsimp only at hSw); (try go_split_ands); go_simp); try with_reducible rfl)
  simp only [Act.put, List.setIfInBounds_toArray, List.set_cons_zero, List.set_cons_succ]
  refine takeH (i := 9) (d := (some 56)) (v := ?v10) rfl rfl (by kernel_rfl) (by kernel_rfl) (by kernel_rfl) (fun _ _ _ h => h) (by rfl) ?hy10 (by assumption) ?_
  case hy10 => ((intro w hSw; (try dsimp only at hSw); (try go_split_ands); go_simp); try with_reducible rfl)
  simp only [Act.put, List.setIfInBounds_toArray, List.set_cons_zero, List.set_cons_succ]
  refine takeH (i := 10) (d := (some 57)) (v := ?v11) rfl rfl (by kernel_rfl) (by kernel_rfl) (by kernel_rfl) (fun _ _ _ h => h) (by rfl) ?hy11 (by assumption) ?_
  case hy11 => ((intro w hSw; (try dsimp only at hSw); (try go_split_ands); go_simp); try with_reducible rfl)
  simp only [Act.put, List.setIfInBounds_toArray, List.set_cons_zero, List.set_cons_succ]
  refine takeH (i := 11) (d := (some 58)) (v := ?v12) rfl rfl (by kernel_rfl) (by kernel_rfl) (by kernel_rfl) (fun _ _ _ h => h) (by rfl) ?hy12 (by assumption) ?_
  case hy12 => ((intro w hSw; (try dsimp only at hSw); (try go_split_ands); go_simp); try with_reducible rfl)
  simp only [Act.put, List.setIfInBounds_toArray, List.set_cons_zero, List.set_cons_succ]
  refine takeH (i := 12) (d := (some 59)) (v := ?v13) rfl rfl (by kernel_rfl) (by kernel_rfl) (by kernel_rfl) (fun _ _ _ h => h) (by rfl) ?hy13 (by assumption) ?_
  case hy13 => ((intro w hSw; (try dsimp only at hSw); (try go_split_ands); go_simp); try with_reducible rfl)
  simp only [Act.put, List.setIfInBounds_toArray, List.set_cons_zero, List.set_cons_succ]
  refine takeH (i := 13) (d := (some 60)) (v := ?v14) rfl rfl (by kernel_rfl) (by kernel_rfl) (by kernel_rfl) (fun _ _ _ h => h) (by rfl) ?hy14 (by assumption) ?_
  case hy14 => ((intro w hSw; (try dsimp only at hSw); (try go_split_ands); go_simp); try with_reducible rfl)
  simp only [Act.put, List.setIfInBounds_toArray, List.set_cons_zero, List.set_cons_succ]
  refine takeH (i := 14) (d := (some 61)) (v := ?v15) rfl rfl (by kernel_rfl) (by kernel_rfl) (by kernel_rfl) (fun _ _ _ h => h) (by rfl) ?hy15 (by assumption) ?_
  case hy15 => ((intro w hSw; (try dsimp only at hSw); (try go_split_ands); go_simp); try with_reducible rfl)
  simp only [Act.put, List.setIfInBounds_toArray, List.set_cons_zero, List.set_cons_succ]
  refine takeH (i := 15) (d := (some 62)) (v := ?v16) rfl rfl (by kernel_rfl) (by kernel_rfl) (by kernel_rfl) (fun _ _ _ h => h) (by rfl) ?hy16 (by assumption) ?_
  case hy16 => ((intro w hSw; (try dsimp only at hSw); (try go_split_ands); go_simp); try with_reducible rfl)
  simp only [Act.put, List.setIfInBounds_toArray, List.set_cons_zero, List.set_cons_succ]
  refine takeH (i := 16) (d := (some 63)) (v := ?v17) rfl rfl (by kernel_rfl) (by kernel_rfl) (by kernel_rfl) (fun _ _ _ h => h) (by rfl) ?hy17 (by assumption) ?_
  case hy17 => ((intro w hSw; (try dsimp only at hSw); (try go_split_ands); go_simp); try with_reducible rfl)
  simp only [Act.put, List.setIfInBounds_toArray, List.set_cons_zero, List.set_cons_succ]
  refine takeH (i := 17) (d := (some 64)) (v := ?v18) rfl rfl (by kernel_rfl) (by kernel_rfl) (by kernel_rfl) (fun _ _ _ h => h) (by rfl) ?hy18 (by assumption) ?_
  case hy18 => ((intro w hSw; (try dsimp only at hSw); (try go_split_ands); go_simp); try with_reducible rfl)
  simp only [Act.put, List.setIfInBounds_toArray, List.set_cons_zero, List.set_cons_succ]
  refine takeH (i := 18) (d := (some 65)) (v := ?v19) rfl rfl (by kernel_rfl) (by kernel_rfl) (by kernel_rfl) (fun _ _ _ h => h) (by rfl) ?hy19 (by assumption) ?_
  case hy19 => ((intro w hSw; (try dsimp only at hSw); (try go_split_ands); go_simp); try with_reducible rfl)
  simp only [Act.put, List.setIfInBounds_toArray, List.set_cons_zero, List.set_cons_succ]
  refine takeH (i := 19) (d := (some 66)) (v := ?v20) rfl rfl (by kernel_rfl) (by kernel_rfl) (by kernel_rfl) (fun _ _ _ h => h) (by rfl) ?hy20 (by assumption) ?_
  case hy20 => ((intro w hSw; (try dsimp only at hSw); (try go_split_ands); go_simp); try with_reducible rfl)
  simp only [Act.put, List.setIfInBounds_toArray, List.set_cons_zero, List.set_cons_succ]
  refine takeH (i := 20) (d := (some 67)) (v := ?v21) rfl rfl (by kernel_rfl) (by kernel_rfl) (by kernel_rfl) (fun _ _ _ h => h) (by rfl) ?hy21 (by assumption) ?_
  case hy21 => ((intro w hSw; (try dsimp only at hSw); (try go_split_ands); go_simp); try with_reducible rfl)
  simp only [Act.put, List.setIfInBounds_toArray, List.set_cons_zero, List.set_cons_succ]
  refine takeH (i := 21) (d := (some 68)) (v := ?v22) rfl rfl (by kernel_rfl) (by kernel_rfl) (by kernel_rfl) (fun _ _ _ h => h) (by rfl) ?hy22 (by assumption) ?_
  case hy22 => ((intro w hSw; (try dsimp only at hSw); (try go_split_ands); go_simp); try with_reducible rfl)
  simp only [Act.put, List.setIfInBounds_toArray, List.set_cons_zero, List.set_cons_succ]
  refine takeH (i := 22) (d := (some 69)) (v := ?v23) rfl rfl (by kernel_rfl) (by kernel_rfl) (by kernel_rfl) (fun _ _ _ h => h) (by rfl) ?hy23 (by assumption) ?_
  case hy23 => ((intro w hSw; (try dsimp only at hSw); (try go_split_ands); go_simp); try with_reducible rfl)
  simp only [Act.put, List.setIfInBounds_toArray, List.set_cons_zero, List.set_cons_succ]
  refine takeH (i := 23) (d := (some 70)) (v := ?v24) rfl rfl (by kernel_rfl) (by kernel_rfl) (by kernel_rfl) (fun _ _ _ h => h) (by rfl) ?hy24 (by assumption) ?_
  case hy24 => ((intro w hSw; (try dsimp only at hSw); (try go_split_ands); go_simp); try with_reducible rfl)
  simp only [Act.put, List.setIfInBounds_toArray, List.set_cons_zero, List.set_cons_succ]
  refine wpAnyH_ready (rs := [24]) (by kernel_rfl) (by simp) ?_
  refine AllReadyH.cons rfl (fun K hK => ?_) AllReadyH.nil
  go_simp
  refine (B_To_any _ _ _).mono ?_
  rintro e y24 ⟨rfl, u⟩
  go_wp2_with fail
  refine hK.out _ _ ⟨hHeld.1.trans u, (u).blk hHeld.2.1, (u).blk hHeld.2.2.1, (u).blk hHeld.2.2.2.1, hHeld.2.2.2.2.1.up u, hHeld.2.2.2.2.2.up u⟩ (fun hHeld => ?_)
  clear hK K u
  refine takeH (i := 25) (d := (some 72)) (v := ?v26) rfl rfl (by kernel_rfl) (by kernel_rfl) (by kernel_rfl) (fun _ _ _ h => h) (by rfl) ?hy26 (by assumption) ?_
  case hy26 => ((intro w hSw; (try dsimp only at hSw); (try go_split_ands); go_simp); try with_reducible rfl)
  simp only [Act.put, List.setIfInBounds_toArray, List.set_cons_zero, List.set_cons_succ]
  refine takeH (i := 26) (d := (some 73)) (v := ?v27) rfl rfl (by kernel_rfl) (by kernel_rfl) (by kernel_rfl) (fun _ _ _ h => h) (by rfl) ?hy27 (by assumption) ?_
  case hy27 => ((intro w hSw; (try dsimp only at hSw); (try go_split_ands); go_simp); try with_reducible rfl)
  simp only [Act.put, List.setIfInBounds_toArray, List.set_cons_zero, List.set_cons_succ]
  refine takeH (i := 27) (d := (some 74)) (v := ?v28) rfl rfl (by kernel_rfl) (by kernel_rfl) (by kernel_rfl) (fun _ _ _ h => h) (by rfl) ?hy28 (by assumption) ?_
  case hy28 => ((intro w hSw; (try dsimp only at hSw); (try go_split_ands); go_simp); try with_reducible rfl)
  simp only [Act.put, List.setIfInBounds_toArray, List.set_cons_zero, List.set_cons_succ]
  refine takeH (i := 28) (d := (some 75)) (v := ?v29) rfl rfl (by kernel_rfl) (by kernel_rfl) (by kernel_rfl) (fun _ _ _ h => h) (by rfl) ?hy29 (by assumption) ?_
  case hy29 => ((intro w hSw; (try dsimp only at hSw); (try go_split_ands); go_simp); try with_reducible rfl)
  simp only [Act.put, List.setIfInBounds_toArray, List.set_cons_zero, List.set_cons_succ]
  refine wpAnyH_ready (rs := [29]) (by kernel_rfl) (by simp) ?_
  refine AllReadyH.cons rfl (fun K hK => ?_) AllReadyH.nil
  go_simp
  refine (B_To_any _ _ _).mono ?_
  rintro e y29 ⟨rfl, u⟩
  go_wp2_with fail
  refine hK.out _ _ ⟨hHeld.1.trans u, (u).blk hHeld.2.1, (u).blk hHeld.2.2.1, (u).blk hHeld.2.2.2.1, hHeld.2.2.2.2.1.up u, hHeld.2.2.2.2.2.up u⟩ (fun hHeld => ?_)
  clear hK K u
  refine takeH (i := 30) (d := (some 77)) (v := ?v31) rfl rfl (by kernel_rfl) (by kernel_rfl) (by kernel_rfl) (fun _ _ _ h => h) (by rfl) ?hy31 (by assumption) ?_
  case hy31 => ((intro w hSw; (try dsimp only at hSw); (try go_split_ands); go_simp); try with_reducible rfl)
  simp only [Act.put, List.setIfInBounds_toArray, List.set_cons_zero, List.set_cons_succ]
  refine takeH (i := 31) (d := (some 78)) (v := ?v32) rfl rfl (by kernel_rfl) (by kernel_rfl) (by kernel_rfl) (fun _ _ _ h => h) (by rfl) ?hy32 (by assumption) ?_
  case hy32 => ((intro w hSw; (try dsimp only at hSw); (try go_split_ands); go_simp); try with_reducible rfl)
  simp only [Act.put, List.setIfInBounds_toArray, List.set_cons_zero, List.set_cons_succ]
  refine takeH (i := 32) (d := (some 79)) (v := ?v33) rfl rfl (by kernel_rfl) (by kernel_rfl) (by kernel_rfl) (fun _ _ _ h => h) (by rfl) ?hy33 (by assumption) ?_
  case hy33 => ((intro w hSw; (try dsimp only at hSw); (try go_split_ands); go_simp); try with_reducible rfl)
  simp only [Act.put, List.setIfInBounds_toArray, List.set_cons_zero, List.set_cons_succ]
  refine takeH (i := 33) (d := (some 80)) (v := ?v34) rfl rfl (by kernel_rfl) (by kernel_rfl) (by kernel_rfl) (fun _ _ _ h => h) (by rfl) ?hy34 (by assumption) ?_
  case hy34 => ((intro w hSw; (try dsimp only at hSw); (try go_split_ands); go_simp); try with_reducible rfl)
  simp only [Act.put, List.setIfInBounds_toArray, List.set_cons_zero, List.set_cons_succ]
  refine wpAnyH_ready (rs := [34]) (by kernel_rfl) (by simp) ?_
  refine AllReadyH.cons rfl (fun K hK => ?_) AllReadyH.nil
  go_simp
  refine (B_To_any _ _ _).mono ?_
  rintro e y34 ⟨rfl, u⟩
  go_wp2_with fail
  refine hK.out _ _ ⟨hHeld.1.trans u, (u).blk hHeld.2.1, (u).blk hHeld.2.2.1, (u).blk hHeld.2.2.2.1, hHeld.2.2.2.2.1.up u, hHeld.2.2.2.2.2.up u⟩ (fun hHeld => ?_)
  clear hK K u
  refine takeH (i := 35) (d := (some 82)) (v := ?v36) rfl rfl (by kernel_rfl) (by kernel_rfl) (by kernel_rfl) (fun _ _ _ h => h) (by rfl) ?hy36 (by assumption) ?_
  case hy36 => ((intro w hSw; (try dsimp only at hSw); (try go_split_ands); go_simp); try with_reducible rfl)
  simp only [Act.put, List.setIfInBounds_toArray, List.set_cons_zero, List.set_cons_succ]
  refine takeH (i := 36) (d := (some 83)) (v := ?v37) rfl rfl (by kernel_rfl) (by kernel_rfl) (by kernel_rfl) (fun _ _ _ h => h) (by rfl) ?hy37 (by assumption) ?_
  case hy37 => ((intro w hSw; (try dsimp only at hSw); (try go_split_ands); go_simp); try with_reducible rfl)
  simp only [Act.put, List.setIfInBounds_toArray, List.set_cons_zero, List.set_cons_succ]
  refine takeH (i := 37) (d := (some 84)) (v := ?v38) rfl rfl (by kernel_rfl) (by kernel_rfl) (by kernel_rfl) (fun _ _ _ h => h) (by rfl) ?hy38 (by assumption) ?_
  case hy38 => ((intro w hSw; (try dsimp only at hSw); (try go_split_ands); go_simp); try with_reducible rfl)
  simp only [Act.put, List.setIfInBounds_toArray, List.set_cons_zero, List.set_cons_succ]
  refine takeH (i := 38) (d := (some 85)) (v := ?v39) rfl rfl (by kernel_rfl) (by kernel_rfl) (by kernel_rfl) (fun _ _ _ h => h) (by rfl) ?hy39 (by assumption) ?_
  case hy39 => ((intro w hSw; (try dsimp only at hSw); (try go_split_ands); go_simp); try with_reducible rfl)
  simp only [Act.put, List.setIfInBounds_toArray, List.set_cons_zero, List.set_cons_succ]
  refine wpAnyH_ready (rs := [39]) (by kernel_rfl) (by simp) ?_
  refine AllReadyH.cons rfl (fun K hK => ?_) AllReadyH.nil
  go_simp
  have SB := ints_one (w := y34) 1
  have SA := hHeld.2.2.2.2.1.up ((Up.refl y34).alloc (.cells #[.int .i64 1] 3))
  have ua : Up y34 (y34.alloc (.cells #[.int .i64 1] 3)) := (Up.refl y34).alloc _
  refine hK.out _ _ ⟨hHeld.1.trans ua, (ua).blk hHeld.2.1, (ua).blk hHeld.2.2.1, (ua).blk hHeld.2.2.2.1, hHeld.2.2.2.2.1.up ua, hHeld.2.2.2.2.2.up ua⟩ (fun hHeld => ?_)
  clear hK K ua
  refine wpAnyH_ready (rs := [40]) (by kernel_rfl) (by simp) ?_
  refine AllReadyH.cons rfl (fun K hK => ?_) AllReadyH.nil
  go_simp
  refine (B_Alike_any SA SB).mono ?_
  rintro e y40 ⟨rfl, u⟩
  go_wp2_with fail
  refine hK.out _ _ ⟨hHeld.1.trans u, (u).blk hHeld.2.1, (u).blk hHeld.2.2.1, (u).blk hHeld.2.2.2.1, hHeld.2.2.2.2.1.up u, hHeld.2.2.2.2.2.up u⟩ (fun hHeld => ?_)
  clear hK K SA SB u
  refine takeH (i := 41) (d := (some 88)) (v := ?v42) rfl rfl (by kernel_rfl) (by kernel_rfl) (by kernel_rfl) (fun _ _ _ h => h) (by rfl) ?hy42 (by assumption) ?_
  case hy42 => ((intro w hSw; (try dsimp only at hSw); (try go_split_ands); go_simp); try with_reducible rfl)
  simp only [Act.put, List.setIfInBounds_toArray, List.set_cons_zero, List.set_cons_succ]
  refine takeH (i := 42) (d := (some 89)) (v := ?v43) rfl rfl (by kernel_rfl) (by kernel_rfl) (by kernel_rfl) (fun _ _ _ h => h) (by rfl) ?hy43 (by assumption) ?_
  case hy43 => ((intro w hSw; (try dsimp only at hSw); (try go_split_ands); go_simp); try with_reducible rfl)
  simp only [Act.put, List.setIfInBounds_toArray, List.set_cons_zero, List.set_cons_succ]
  refine takeH (i := 43) (d := (some 90)) (v := ?v44) rfl rfl (by kernel_rfl) (by kernel_rfl) (by kernel_rfl) (fun _ _ _ h => h) (by rfl) ?hy44 (by assumption) ?_
  case hy44 => ((intro w hSw; (try dsimp only at hSw); (try go_split_ands); go_simp); try with_reducible rfl)
  simp only [Act.put, List.setIfInBounds_toArray, List.set_cons_zero, List.set_cons_succ]
  refine takeH (i := 44) (d := (some 91)) (v := ?v45) rfl rfl (by kernel_rfl) (by kernel_rfl) (by kernel_rfl) (fun _ _ _ h => h) (by rfl) ?hy45 (by assumption) ?_
  case hy45 => ((intro w hSw; (try dsimp only at hSw); (try go_split_ands); go_simp); try with_reducible rfl)
  simp only [Act.put, List.setIfInBounds_toArray, List.set_cons_zero, List.set_cons_succ]
  refine takeH (i := 45) (d := (some 92)) (v := ?v46) rfl rfl (by kernel_rfl) (by kernel_rfl) (by kernel_rfl) (fun _ _ _ h => h) (by rfl) ?hy46 (by assumption) ?_
  case hy46 => ((intro w hSw; (try dsimp only at hSw); (try go_split_ands); go_simp); try with_reducible rfl)
  simp only [Act.put, List.setIfInBounds_toArray, List.set_cons_zero, List.set_cons_succ]
  refine takeH (i := 46) (d := (some 93)) (v := ?v47) rfl rfl (by kernel_rfl) (by kernel_rfl) (by kernel_rfl) (fun _ _ _ h => h) (by rfl) ?hy47 (by assumption) ?_
  case hy47 => ((intro w hSw; (try dsimp only at hSw); (try go_split_ands); go_simp); try with_reducible rfl)
  simp only [Act.put, List.setIfInBounds_toArray, List.set_cons_zero, List.set_cons_succ]
  refine takeH (i := 47) (d := (some 94)) (v := ?v48) rfl rfl (by kernel_rfl) (by kernel_rfl) (by kernel_rfl) (fun _ _ _ h => h) (by rfl) ?hy48 (by assumption) ?_
  case hy48 => ((intro w hSw; (try dsimp only at hSw); (try go_split_ands); go_simp); try with_reducible rfl)
  simp only [Act.put, List.setIfInBounds_toArray, List.set_cons_zero, List.set_cons_succ]
  refine takeH (i := 48) (d := (some 95)) (v := ?v49) rfl rfl (by kernel_rfl) (by kernel_rfl) (by kernel_rfl) (fun _ _ _ h => h) (by rfl) ?hy49 (by assumption) ?_
  case hy49 => ((intro w hSw; (try dsimp only at hSw); (try go_split_ands); go_simp); try with_reducible rfl)
  simp only [Act.put, List.setIfInBounds_toArray, List.set_cons_zero, List.set_cons_succ]
  refine takeH (i := 49) (d := (some 96)) (v := ?v50) rfl rfl (by kernel_rfl) (by kernel_rfl) (by kernel_rfl) (fun _ _ _ h => h) (by rfl) ?hy50 (by assumption) ?_
  case hy50 => ((intro w hSw; (try dsimp only at hSw); (try go_split_ands); go_simp); try with_reducible rfl)
  simp only [Act.put, List.setIfInBounds_toArray, List.set_cons_zero, List.set_cons_succ]
  refine takeH (i := 50) (d := (some 97)) (v := ?v51) rfl rfl (by kernel_rfl) (by kernel_rfl) (by kernel_rfl) (fun _ _ _ h => h) (by rfl) ?hy51 (by assumption) ?_
  case hy51 => ((intro w hSw; (try dsimp only at hSw); (try go_split_ands); go_simp); try with_reducible rfl)
  simp only [Act.put, List.setIfInBounds_toArray, List.set_cons_zero, List.set_cons_succ]
  refine wpAnyH_done (by kernel_rfl) ?_ _
  obtain ⟨U, _, _, _, _, R⟩ := hHeld
  go_wp2_with fail
  refine (l_cellar_nil _).mono ?_
  rintro e v9 ⟨⟨a9, b9, c9, rfl, I9, J9, K9⟩, u9⟩
  go_wp2_with fail
  obtain ⟨la, lc, elv⟩ : ∃ la lc, lv = .slice la rows.length lc := by
    obtain ⟨a', c', e, _⟩ := R.is
    exact ⟨a', c', e⟩
  subst elv
  replace R := R.up u9
  refine (ex_IsTruth I9 J9 K9 R HL.out.1 HL.out.2.1).mono ?_
  rintro e x9 ⟨rfl, y9⟩
  replace R := R.up y9
  replace U := U.trans (u9.trans y9)
  clear u9 y9 I9 J9 K9
  obtain ⟨a', c', e', hc1, hc2, hm⟩ := R.is
  injection e' with ea eb ec
  subst ea ec
  have h3 := HL.out.1.1
  obtain ⟨g, off, ga, gl, hx⟩ := hm (by omega)
  subst ga
  obtain ⟨v2, cv2, I2⟩ := hx 2 (by omega)
  obtain ⟨b', d', f', hd1, hd2, hn⟩ := I2.is
  have h4 : (rows.getD 2 []).length = 4 := by
    refine HL.out.1.2 _ ?_
    rw [List.getD_eq_getElem?_getD, List.getElem?_eq_getElem (show 2 < rows.length by omega)]
    exact List.getElem_mem _
  rw [h4] at f' hd1
  subst f'
  obtain ⟨g', off', gb, gl', hy⟩ := hn (by omega)
  subst gb
  have cv1 := hy 1 (by omega)
  rw [HL.out.2.2] at cv1
  rw [h3]
  clear hx hy hm hn I2 R HL h3 h4 hd1 hd2 hc1 hc2
  go_wp2
  go_ret
  exact ⟨rfl, U⟩

end Go.Proofs.Ytcmdaiklkdeanaa
