import Derived.Test.YtlpkheoljbdajaaBkE
/- The contract of the laws' works: the chapter's examples come out. -/
namespace Go.Proofs.Ytlpkheoljbdajaa
open Go.RowKit Go.Shelf
attribute [local go_sem] Oper.semAt_some

theorem ints_one {w : World} (x : Int) : Ints (w.alloc (.cells #[.int .i64 x] 3)) (.slice (some ⟨w.heap.size, 0, none⟩) 1 1) [x] := ints1 (blk_new _ _ _ rfl)
set_option maxRecDepth 100000 in
set_option maxHeartbeats 4000000 in
theorem l_works_any (w : World) : Calls Try.prog 23 #[] w fun e w' => e = .returned (.bool true) ∧ Up w w' := by
  go_enter Try.func23, Try.ntmps23
  go_wp2_with fail
  refine (l_book_nil _).mono ?_
  rintro e v1 ⟨⟨a1, b1, c1, d1, rfl, I1, J1, K1⟩, u1⟩
  go_wp2_with fail
  refine (l_truth_any _).mono ?_
  rintro e z1 ⟨⟨aO, aE, aA, rfl, IO, IE, IA⟩, q1⟩
  replace I1 := I1.up q1
  replace J1 := J1.up q1
  replace K1 := K1.up q1
  replace u1 := u1.trans q1
  clear q1
  go_wp2_with fail
  refine (ex_IsTruth I1 J1 K1 IO IE IA).mono ?_
  rintro e x1 ⟨rfl, y1⟩
  have t1 := u1.trans y1
  have U := t1
  clear u1 y1 t1 I1 J1 K1
  clear IO IE IA
  go_wp2_with fail
  refine (l_book_nil _).mono ?_
  rintro e v2 ⟨⟨a2, b2, c2, d2, rfl, I2, J2, K2⟩, u2⟩
  go_wp2_with fail
  refine (ex_Offset I2 J2 K2).mono ?_
  rintro e x2 ⟨rfl, y2⟩
  have t2 := u2.trans y2
  replace U := U.trans t2
  clear u2 y2 t2 I2 J2 K2
  go_wp2_with fail
  obtain ⟨W2, hW⟩ : ∃ z, x2.alloc (.cells #[.int .i64 50, .int .i64 105] 23) = z := ⟨_, rfl⟩
  obtain ⟨r2, hr⟩ : ∃ z, x2.heap.size = z := ⟨_, rfl⟩
  have k2 : mblk W2 r2 = some (.cells #[.int .i64 50, .int .i64 105] 23 (0, 0)) := by rw [← hW]; exact blk_new _ _ _ hr.symm
  have s2 : Up x2 W2 := by rw [← hW]; exact (Up.refl _).alloc _
  rw [hW, hr]
  replace U := U.trans s2
  clear hW hr s2
  go_wp2_with fail
  refine (l_book_nil _).mono ?_
  rintro e v3 ⟨⟨a3, b3, c3, d3, rfl, I3, J3, K3⟩, u3⟩
  go_wp2_with fail
  refine (ex_Between I3 J3 K3).mono ?_
  rintro e x3 ⟨rfl, y3⟩
  have t3 := u3.trans y3
  replace U := U.trans t3
  replace k2 := t3.blk k2
  clear u3 y3 t3 I3 J3 K3
  go_wp2_with fail
  obtain ⟨W3, hW⟩ : ∃ z, x3.alloc (.cells #[.int .i64 (-40), .int .i64 (-20)] 23) = z := ⟨_, rfl⟩
  obtain ⟨r3, hr⟩ : ∃ z, x3.heap.size = z := ⟨_, rfl⟩
  have k3 : mblk W3 r3 = some (.cells #[.int .i64 (-40), .int .i64 (-20)] 23 (0, 0)) := by rw [← hW]; exact blk_new _ _ _ hr.symm
  have s3 : Up x3 W3 := by rw [← hW]; exact (Up.refl _).alloc _
  rw [hW, hr]
  replace U := U.trans s3
  replace k2 := s3.blk k2
  clear hW hr s3
  go_wp2_with fail
  refine (l_book_nil _).mono ?_
  rintro e v4 ⟨⟨a4, b4, c4, d4, rfl, I4, J4, K4⟩, u4⟩
  go_wp2_with fail
  refine (ex_Person I4 J4 K4).mono ?_
  rintro e x4 ⟨rfl, y4⟩
  have t4 := u4.trans y4
  replace U := U.trans t4
  replace k2 := t4.blk k2
  replace k3 := t4.blk k3
  clear u4 y4 t4 I4 J4 K4
  go_wp2_with fail
  obtain ⟨W4, hW⟩ : ∃ z, x4.alloc (.cells #[.int .i64 (-40), .int .i64 15] 23) = z := ⟨_, rfl⟩
  obtain ⟨r4, hr⟩ : ∃ z, x4.heap.size = z := ⟨_, rfl⟩
  have k4 : mblk W4 r4 = some (.cells #[.int .i64 (-40), .int .i64 15] 23 (0, 0)) := by rw [← hW]; exact blk_new _ _ _ hr.symm
  have s4 : Up x4 W4 := by rw [← hW]; exact (Up.refl _).alloc _
  rw [hW, hr]
  replace U := U.trans s4
  replace k2 := s4.blk k2
  replace k3 := s4.blk k3
  clear hW hr s4
  go_wp2_with fail
  refine (l_book_nil _).mono ?_
  rintro e v5 ⟨⟨a5, b5, c5, d5, rfl, I5, J5, K5⟩, u5⟩
  go_wp2_with fail
  refine (ex_Path I5 J5 K5).mono ?_
  rintro e x5 ⟨rfl, y5⟩
  have t5 := u5.trans y5
  replace U := U.trans t5
  replace k2 := t5.blk k2
  replace k3 := t5.blk k3
  replace k4 := t5.blk k4
  clear u5 y5 t5 I5 J5 K5
  go_wp2_with fail
  obtain ⟨W5, hW⟩ : ∃ z, x5.alloc (.cells #[.int .i64 30, .int .i64 60] 23) = z := ⟨_, rfl⟩
  obtain ⟨r5, hr⟩ : ∃ z, x5.heap.size = z := ⟨_, rfl⟩
  have k5 : mblk W5 r5 = some (.cells #[.int .i64 30, .int .i64 60] 23 (0, 0)) := by rw [← hW]; exact blk_new _ _ _ hr.symm
  have s5 : Up x5 W5 := by rw [← hW]; exact (Up.refl _).alloc _
  rw [hW, hr]
  replace U := U.trans s5
  replace k2 := s5.blk k2
  replace k3 := s5.blk k3
  replace k4 := s5.blk k4
  clear hW hr s5
  refine wp_region_held_drew (S := fun w' => Up w w' ∧ mblk w' r2 = some (.cells #[.int .i64 50, .int .i64 105] 23 (0, 0)) ∧ mblk w' r3 = some (.cells #[.int .i64 (-40), .int .i64 (-20)] 23 (0, 0)) ∧ mblk w' r4 = some (.cells #[.int .i64 (-40), .int .i64 15] 23 (0, 0)) ∧ mblk w' r5 = some (.cells #[.int .i64 30, .int .i64 60] 23 (0, 0))) (by kernel_rfl) ⟨U.drew, k2, k3, k4, k5⟩ (fun hHeld => ?_)
  clear U k2 k3 k4 k5
  refine takeH (i := 0) (d := (some 42)) (v := ?v1) rfl rfl (by kernel_rfl) (by kernel_rfl) (by kernel_rfl) (fun _ _ _ h => h) (by rfl) ?hy1 (by assumption) ?_
  case hy1 => ((intro w hSw; (try dsimp only at hSw); (try go_split_ands); go_simp); try with_reducible rfl)
  simp only [Act.put, List.setIfInBounds_toArray, List.set_cons_zero, List.set_cons_succ]
  refine takeH (i := 1) (d := (some 43)) (v := ?v2) rfl rfl (by kernel_rfl) (by kernel_rfl) (by kernel_rfl) (fun _ _ _ h => h) (by rfl) ?hy2 (by assumption) ?_
  case hy2 => ((intro w hSw; (try dsimp only at hSw); (try go_split_ands); go_simp); try with_reducible rfl)
  simp only [Act.put, List.setIfInBounds_toArray, List.set_cons_zero, List.set_cons_succ]
  refine takeH (i := 2) (d := (some 44)) (v := ?v3) rfl rfl (by kernel_rfl) (by kernel_rfl) (by kernel_rfl) (fun _ _ _ h => h) (by rfl) ?hy3 (by assumption) ?_
  case hy3 => ((intro w hSw; (try dsimp only at hSw); (try go_split_ands); go_simp); try with_reducible rfl)
  simp only [Act.put, List.setIfInBounds_toArray, List.set_cons_zero, List.set_cons_succ]
  refine takeH (i := 3) (d := (some 45)) (v := ?v4) rfl rfl (by kernel_rfl) (by kernel_rfl) (by kernel_rfl) (fun _ _ _ h => h) (by rfl) ?hy4 (by assumption) ?_
  case hy4 => ((intro w hSw; (try dsimp only at hSw); (try go_split_ands); go_simp); try with_reducible rfl)
  simp only [Act.put, List.setIfInBounds_toArray, List.set_cons_zero, List.set_cons_succ]
  refine takeH (i := 4) (d := (some 46)) (v := ?v5) rfl rfl (by kernel_rfl) (by kernel_rfl) (by kernel_rfl) (fun _ _ _ h => h) (by rfl) ?hy5 (by assumption) ?_
  case hy5 => ((intro w hSw; (try dsimp only at hSw); (try go_split_ands); go_simp); try with_reducible rfl)
  simp only [Act.put, List.setIfInBounds_toArray, List.set_cons_zero, List.set_cons_succ]
  refine takeH (i := 5) (d := (some 47)) (v := ?v6) rfl rfl (by kernel_rfl) (by kernel_rfl) (by kernel_rfl) (fun _ _ _ h => h) (by rfl) ?hy6 (by assumption) ?_
  case hy6 => ((intro w hSw; (try dsimp only at hSw); (try go_split_ands); go_simp); try with_reducible rfl)
  simp only [Act.put, List.setIfInBounds_toArray, List.set_cons_zero, List.set_cons_succ]
  refine takeH (i := 6) (d := (some 48)) (v := ?v7) rfl rfl (by kernel_rfl) (by kernel_rfl) (by kernel_rfl) (fun _ _ _ h => h) (by rfl) ?hy7 (by assumption) ?_
  case hy7 => ((intro w hSw; (try dsimp only at hSw); (try go_split_ands); go_simp); try with_reducible rfl)
  simp only [Act.put, List.setIfInBounds_toArray, List.set_cons_zero, List.set_cons_succ]
  refine takeH (i := 7) (d := (some 49)) (v := ?v8) rfl rfl (by kernel_rfl) (by kernel_rfl) (by kernel_rfl) (fun _ _ _ h => h) (by rfl) ?hy8 (by assumption) ?_
  case hy8 => ((intro w hSw; (try dsimp only at hSw); (try go_split_ands); go_simp); try with_reducible rfl)
  simp only [Act.put, List.setIfInBounds_toArray, List.set_cons_zero, List.set_cons_succ]
  refine takeH (i := 8) (d := (some 50)) (v := ?v9) rfl rfl (by kernel_rfl) (by kernel_rfl) (by kernel_rfl) (fun _ _ _ h => h) (by rfl) ?hy9 (by assumption) ?_
  case hy9 => ((intro w hSw; (try dsimp only at hSw); (try go_split_ands); go_simp); try with_reducible rfl)
  simp only [Act.put, List.setIfInBounds_toArray, List.set_cons_zero, List.set_cons_succ]
  refine takeH (i := 9) (d := (some 51)) (v := ?v10) rfl rfl (by kernel_rfl) (by kernel_rfl) (by kernel_rfl) (fun _ _ _ h => h) (by rfl) ?hy10 (by assumption) ?_
  case hy10 => ((intro w hSw; (try dsimp only at hSw); (try go_split_ands); go_simp); try with_reducible rfl)
  simp only [Act.put, List.setIfInBounds_toArray, List.set_cons_zero, List.set_cons_succ]
  refine takeH (i := 10) (d := (some 52)) (v := ?v11) rfl rfl (by kernel_rfl) (by kernel_rfl) (by kernel_rfl) (fun _ _ _ h => h) (by rfl) ?hy11 (by assumption) ?_
  case hy11 => ((intro w hSw; (try dsimp only at hSw); (try go_split_ands); go_simp); try with_reducible rfl)
  simp only [Act.put, List.setIfInBounds_toArray, List.set_cons_zero, List.set_cons_succ]
  refine takeH (i := 11) (d := (some 53)) (v := ?v12) rfl rfl (by kernel_rfl) (by kernel_rfl) (by kernel_rfl) (fun _ _ _ h => h) (by rfl) ?hy12 (by assumption) ?_
  case hy12 => ((intro w hSw; (try dsimp only at hSw); (try go_split_ands); go_simp); try with_reducible rfl)
  simp only [Act.put, List.setIfInBounds_toArray, List.set_cons_zero, List.set_cons_succ]
  refine takeH (i := 12) (d := (some 54)) (v := ?v13) rfl rfl (by kernel_rfl) (by kernel_rfl) (by kernel_rfl) (fun _ _ _ h => h) (by rfl) ?hy13 (by assumption) ?_
  case hy13 => ((intro w hSw; (try dsimp only at hSw); (try go_split_ands); go_simp); try with_reducible rfl)
  simp only [Act.put, List.setIfInBounds_toArray, List.set_cons_zero, List.set_cons_succ]
  refine takeH (i := 13) (d := (some 55)) (v := ?v14) rfl rfl (by kernel_rfl) (by kernel_rfl) (by kernel_rfl) (fun _ _ _ h => h) (by rfl) ?hy14 (by assumption) ?_
  case hy14 => ((intro w hSw; (try dsimp only at hSw); (try go_split_ands); go_simp); try with_reducible rfl)
  simp only [Act.put, List.setIfInBounds_toArray, List.set_cons_zero, List.set_cons_succ]
  refine takeH (i := 14) (d := (some 56)) (v := ?v15) rfl rfl (by kernel_rfl) (by kernel_rfl) (by kernel_rfl) (fun _ _ _ h => h) (by rfl) ?hy15 (by assumption) ?_
  case hy15 => ((intro w hSw; (try dsimp only at hSw); (try go_split_ands); go_simp); try with_reducible rfl)
  simp only [Act.put, List.setIfInBounds_toArray, List.set_cons_zero, List.set_cons_succ]
  refine takeH (i := 15) (d := (some 57)) (v := ?v16) rfl rfl (by kernel_rfl) (by kernel_rfl) (by kernel_rfl) (fun _ _ _ h => h) (by rfl) ?hy16 (by assumption) ?_
  case hy16 => ((intro w hSw; (try dsimp only at hSw); (try go_split_ands); go_simp); try with_reducible rfl)
  simp only [Act.put, List.setIfInBounds_toArray, List.set_cons_zero, List.set_cons_succ]
  refine takeH (i := 16) (d := (some 58)) (v := ?v17) rfl rfl (by kernel_rfl) (by kernel_rfl) (by kernel_rfl) (fun _ _ _ h => h) (by rfl) ?hy17 (by assumption) ?_
  case hy17 => ((intro w hSw; (try dsimp only at hSw); (try go_split_ands); go_simp); try with_reducible rfl)
  simp only [Act.put, List.setIfInBounds_toArray, List.set_cons_zero, List.set_cons_succ]
  refine takeH (i := 17) (d := (some 59)) (v := ?v18) rfl rfl (by kernel_rfl) (by kernel_rfl) (by kernel_rfl) (fun _ _ _ h => h) (by rfl) ?hy18 (by assumption) ?_
  case hy18 => ((intro w hSw; (try dsimp only at hSw); (try go_split_ands); go_simp); try with_reducible rfl)
  simp only [Act.put, List.setIfInBounds_toArray, List.set_cons_zero, List.set_cons_succ]
  refine takeH (i := 18) (d := (some 60)) (v := ?v19) rfl rfl (by kernel_rfl) (by kernel_rfl) (by kernel_rfl) (fun _ _ _ h => h) (by rfl) ?hy19 (by assumption) ?_
  case hy19 => ((intro w hSw; (try dsimp only at hSw); (try go_split_ands); go_simp); try with_reducible rfl)
  simp only [Act.put, List.setIfInBounds_toArray, List.set_cons_zero, List.set_cons_succ]
  refine takeH (i := 19) (d := (some 61)) (v := ?v20) rfl rfl (by kernel_rfl) (by kernel_rfl) (by kernel_rfl) (fun _ _ _ h => h) (by rfl) ?hy20 (by assumption) ?_
  case hy20 => ((intro w hSw; (try dsimp only at hSw); (try go_split_ands); go_simp); try with_reducible rfl)
  simp only [Act.put, List.setIfInBounds_toArray, List.set_cons_zero, List.set_cons_succ]
  refine takeH (i := 20) (d := (some 62)) (v := ?v21) rfl rfl (by kernel_rfl) (by kernel_rfl) (by kernel_rfl) (fun _ _ _ h => h) (by rfl) ?hy21 (by assumption) ?_
  case hy21 => ((intro w hSw; (try dsimp only at hSw); (try go_split_ands); go_simp); try with_reducible rfl)
  simp only [Act.put, List.setIfInBounds_toArray, List.set_cons_zero, List.set_cons_succ]
  refine takeH (i := 21) (d := (some 63)) (v := ?v22) rfl rfl (by kernel_rfl) (by kernel_rfl) (by kernel_rfl) (fun _ _ _ h => h) (by rfl) ?hy22 (by assumption) ?_
  case hy22 => ((intro w hSw; (try dsimp only at hSw); (try go_split_ands); go_simp); try with_reducible rfl)
  simp only [Act.put, List.setIfInBounds_toArray, List.set_cons_zero, List.set_cons_succ]
  refine takeH (i := 22) (d := (some 64)) (v := ?v23) rfl rfl (by kernel_rfl) (by kernel_rfl) (by kernel_rfl) (fun _ _ _ h => h) (by rfl) ?hy23 (by assumption) ?_
  case hy23 => ((intro w hSw; (try dsimp only at hSw); (try go_split_ands); go_simp); try with_reducible rfl)
  simp only [Act.put, List.setIfInBounds_toArray, List.set_cons_zero, List.set_cons_succ]
  refine takeH (i := 23) (d := (some 65)) (v := ?v24) rfl rfl (by kernel_rfl) (by kernel_rfl) (by kernel_rfl) (fun _ _ _ h => h) (by rfl) ?hy24 (by assumption) ?_
  case hy24 => ((intro w hSw; (try dsimp only at hSw); (try go_split_ands); go_simp); try with_reducible rfl)
  simp only [Act.put, List.setIfInBounds_toArray, List.set_cons_zero, List.set_cons_succ]
  refine wpAnyH_ready (rs := [24]) (by kernel_rfl) (by simp) ?_
  refine AllReadyH.cons rfl (fun K hK => ?_) AllReadyH.nil
  go_simp
  refine (B_To_any _ _ _).mono ?_
  rintro e y24 ⟨rfl, u⟩
  go_wp2_with fail
  refine hK.out _ _ ⟨hHeld.1.trans u, (u).blk hHeld.2.1, (u).blk hHeld.2.2.1, (u).blk hHeld.2.2.2.1, (u).blk hHeld.2.2.2.2⟩ (fun hHeld => ?_)
  clear hK K u
  refine takeH (i := 25) (d := (some 67)) (v := ?v26) rfl rfl (by kernel_rfl) (by kernel_rfl) (by kernel_rfl) (fun _ _ _ h => h) (by rfl) ?hy26 (by assumption) ?_
  case hy26 => ((intro w hSw; (try dsimp only at hSw); (try go_split_ands); go_simp); try with_reducible rfl)
  simp only [Act.put, List.setIfInBounds_toArray, List.set_cons_zero, List.set_cons_succ]
  refine takeH (i := 26) (d := (some 68)) (v := ?v27) rfl rfl (by kernel_rfl) (by kernel_rfl) (by kernel_rfl) (fun _ _ _ h => h) (by rfl) ?hy27 (by assumption) ?_
  case hy27 => ((intro w hSw; (try dsimp only at hSw); (try go_split_ands); go_simp); try with_reducible rfl)
  simp only [Act.put, List.setIfInBounds_toArray, List.set_cons_zero, List.set_cons_succ]
  refine takeH (i := 27) (d := (some 69)) (v := ?v28) rfl rfl (by kernel_rfl) (by kernel_rfl) (by kernel_rfl) (fun _ _ _ h => h) (by rfl) ?hy28 (by assumption) ?_
  case hy28 => ((intro w hSw; (try dsimp only at hSw); (try go_split_ands); go_simp); try with_reducible rfl)
  simp only [Act.put, List.setIfInBounds_toArray, List.set_cons_zero, List.set_cons_succ]
  refine takeH (i := 28) (d := (some 70)) (v := ?v29) rfl rfl (by kernel_rfl) (by kernel_rfl) (by kernel_rfl) (fun _ _ _ h => h) (by rfl) ?hy29 (by assumption) ?_
  case hy29 => ((intro w hSw; (try dsimp only at hSw); (try go_split_ands); go_simp); try with_reducible rfl)
  simp only [Act.put, List.setIfInBounds_toArray, List.set_cons_zero, List.set_cons_succ]
  refine wpAnyH_ready (rs := [29]) (by kernel_rfl) (by simp) ?_
  refine AllReadyH.cons rfl (fun K hK => ?_) AllReadyH.nil
  go_simp
  refine (B_To_any _ _ _).mono ?_
  rintro e y29 ⟨rfl, u⟩
  go_wp2_with fail
  refine hK.out _ _ ⟨hHeld.1.trans u, (u).blk hHeld.2.1, (u).blk hHeld.2.2.1, (u).blk hHeld.2.2.2.1, (u).blk hHeld.2.2.2.2⟩ (fun hHeld => ?_)
  clear hK K u
  refine takeH (i := 30) (d := (some 72)) (v := ?v31) rfl rfl (by kernel_rfl) (by kernel_rfl) (by kernel_rfl) (fun _ _ _ h => h) (by rfl) ?hy31 (by assumption) ?_
  case hy31 => ((intro w hSw; (try dsimp only at hSw); (try go_split_ands); go_simp); try with_reducible rfl)
  simp only [Act.put, List.setIfInBounds_toArray, List.set_cons_zero, List.set_cons_succ]
  refine takeH (i := 31) (d := (some 73)) (v := ?v32) rfl rfl (by kernel_rfl) (by kernel_rfl) (by kernel_rfl) (fun _ _ _ h => h) (by rfl) ?hy32 (by assumption) ?_
  case hy32 => ((intro w hSw; (try dsimp only at hSw); (try go_split_ands); go_simp); try with_reducible rfl)
  simp only [Act.put, List.setIfInBounds_toArray, List.set_cons_zero, List.set_cons_succ]
  refine takeH (i := 32) (d := (some 74)) (v := ?v33) rfl rfl (by kernel_rfl) (by kernel_rfl) (by kernel_rfl) (fun _ _ _ h => h) (by rfl) ?hy33 (by assumption) ?_
  case hy33 => ((intro w hSw; (try dsimp only at hSw); (try go_split_ands); go_simp); try with_reducible rfl)
  simp only [Act.put, List.setIfInBounds_toArray, List.set_cons_zero, List.set_cons_succ]
  refine takeH (i := 33) (d := (some 75)) (v := ?v34) rfl rfl (by kernel_rfl) (by kernel_rfl) (by kernel_rfl) (fun _ _ _ h => h) (by rfl) ?hy34 (by assumption) ?_
  case hy34 => ((intro w hSw; (try dsimp only at hSw); (try go_split_ands); go_simp); try with_reducible rfl)
  simp only [Act.put, List.setIfInBounds_toArray, List.set_cons_zero, List.set_cons_succ]
  refine wpAnyH_ready (rs := [34]) (by kernel_rfl) (by simp) ?_
  refine AllReadyH.cons rfl (fun K hK => ?_) AllReadyH.nil
  go_simp
  refine (B_To_any _ _ _).mono ?_
  rintro e y34 ⟨rfl, u⟩
  go_wp2_with fail
  refine hK.out _ _ ⟨hHeld.1.trans u, (u).blk hHeld.2.1, (u).blk hHeld.2.2.1, (u).blk hHeld.2.2.2.1, (u).blk hHeld.2.2.2.2⟩ (fun hHeld => ?_)
  clear hK K u
  refine takeH (i := 35) (d := (some 77)) (v := ?v36) rfl rfl (by kernel_rfl) (by kernel_rfl) (by kernel_rfl) (fun _ _ _ h => h) (by rfl) ?hy36 (by assumption) ?_
  case hy36 => ((intro w hSw; (try dsimp only at hSw); (try go_split_ands); go_simp); try with_reducible rfl)
  simp only [Act.put, List.setIfInBounds_toArray, List.set_cons_zero, List.set_cons_succ]
  refine takeH (i := 36) (d := (some 78)) (v := ?v37) rfl rfl (by kernel_rfl) (by kernel_rfl) (by kernel_rfl) (fun _ _ _ h => h) (by rfl) ?hy37 (by assumption) ?_
  case hy37 => ((intro w hSw; (try dsimp only at hSw); (try go_split_ands); go_simp); try with_reducible rfl)
  simp only [Act.put, List.setIfInBounds_toArray, List.set_cons_zero, List.set_cons_succ]
  refine takeH (i := 37) (d := (some 79)) (v := ?v38) rfl rfl (by kernel_rfl) (by kernel_rfl) (by kernel_rfl) (fun _ _ _ h => h) (by rfl) ?hy38 (by assumption) ?_
  case hy38 => ((intro w hSw; (try dsimp only at hSw); (try go_split_ands); go_simp); try with_reducible rfl)
  simp only [Act.put, List.setIfInBounds_toArray, List.set_cons_zero, List.set_cons_succ]
  refine takeH (i := 38) (d := (some 80)) (v := ?v39) rfl rfl (by kernel_rfl) (by kernel_rfl) (by kernel_rfl) (fun _ _ _ h => h) (by rfl) ?hy39 (by assumption) ?_
  case hy39 => ((intro w hSw; (try dsimp only at hSw); (try go_split_ands); go_simp); try with_reducible rfl)
  simp only [Act.put, List.setIfInBounds_toArray, List.set_cons_zero, List.set_cons_succ]
  refine wpAnyH_ready (rs := [39]) (by kernel_rfl) (by simp) ?_
  refine AllReadyH.cons rfl (fun K hK => ?_) AllReadyH.nil
  go_simp
  refine (B_To_any _ _ _).mono ?_
  rintro e y39 ⟨rfl, u⟩
  go_wp2_with fail
  refine hK.out _ _ ⟨hHeld.1.trans u, (u).blk hHeld.2.1, (u).blk hHeld.2.2.1, (u).blk hHeld.2.2.2.1, (u).blk hHeld.2.2.2.2⟩ (fun hHeld => ?_)
  clear hK K u
  refine takeH (i := 40) (d := (some 82)) (v := ?v41) rfl rfl (by kernel_rfl) (by kernel_rfl) (by kernel_rfl) (fun _ _ _ h => h) (by rfl) ?hy41 (by assumption) ?_
  case hy41 => ((intro w hSw; (try dsimp only at hSw); (try go_split_ands); go_simp); try with_reducible rfl)
  simp only [Act.put, List.setIfInBounds_toArray, List.set_cons_zero, List.set_cons_succ]
  refine takeH (i := 41) (d := (some 83)) (v := ?v42) rfl rfl (by kernel_rfl) (by kernel_rfl) (by kernel_rfl) (fun _ _ _ h => h) (by rfl) ?hy42 (by assumption) ?_
  case hy42 => ((intro w hSw; (try dsimp only at hSw); (try go_split_ands); go_simp); try with_reducible rfl)
  simp only [Act.put, List.setIfInBounds_toArray, List.set_cons_zero, List.set_cons_succ]
  refine wpAnyH_done (by kernel_rfl) ?_ _
  obtain ⟨U, _, _, _, _⟩ := hHeld
  go_wp2_with fail
  refine (l_book_nil _).mono ?_
  rintro e v8 ⟨⟨a8, b8, c8, d8, rfl, I8, J8, K8⟩, u8⟩
  go_wp2_with fail
  refine (ex_Case I8 J8 K8).mono ?_
  rintro e x8 ⟨⟨g8, o8, c8, aE, nE, cE, aA, nA, cA, rfl, C81, C82⟩, y8⟩
  have t8 := u8.trans y8
  replace U := U.trans t8
  clear u8 y8 t8 I8 J8 K8
  have C8 := And.intro C81 C82
  clear C81 C82
  have hz8 := Lib.hid C8
  clear C8
  go_wp2_with fail
  have C8 := hz8.out
  clear hz8
  obtain ⟨W8, hW⟩ : ∃ z, x8.alloc (.cells #[.slice (some ⟨g8, o8, none⟩) 3 c8, .slice aE nE cE, .slice aA nA cA] 30) = z := ⟨_, rfl⟩
  obtain ⟨r8, hr⟩ : ∃ z, x8.heap.size = z := ⟨_, rfl⟩
  have k8 : mblk W8 r8 = some (.cells #[.slice (some ⟨g8, o8, none⟩) 3 c8, .slice aE nE cE, .slice aA nA cA] 30 (0, 0)) := by rw [← hW]; exact blk_new _ _ _ hr.symm
  have s8 : Up x8 W8 := by rw [← hW]; exact (Up.refl _).alloc _
  rw [hW, hr]
  replace U := U.trans s8
  replace C8 := (⟨Nat.lt_of_lt_of_le C8.1 s8.size, (s8.facts.1 g8 o8 C8.1).trans C8.2⟩ : g8 < W8.heap.size ∧ W8.cell? ⟨g8, o8, none⟩ = some (.int .i64 85))
  clear hW hr s8
  have hz8 := Lib.hid C8
  clear C8
  refine (l_book_nil _).mono ?_
  rintro e v9 ⟨⟨a9, b9, c9, d9, rfl, I9, J9, K9⟩, u9⟩
  go_wp2_with fail
  have C8 := hz8.out
  clear hz8
  refine (ex_Wrong I9 J9 K9).mono ?_
  rintro e x9 ⟨⟨wv, rfl, IW⟩, y9⟩
  have t9 := u9.trans y9
  replace U := U.trans t9
  replace k8 := t9.blk k8
  replace C8 := And.intro (Nat.lt_of_lt_of_le C8.1 t9.size) ((t9.facts.1 g8 o8 C8.1).trans C8.2)
  clear u9 y9 t9 I9 J9 K9
  have hz8 := Lib.hid C8
  clear C8
  have hzW := Lib.hid IW
  clear IW
  go_wp2_with fail
  refine (l_look_any 0 0 1 60 30 _).mono ?_
  rintro e v10 ⟨rfl, q10⟩
  have kl := blk_new v10 (.cells (LkC 0 0 1 60 30) 63) _ rfl
  have ql := (Up.refl v10).alloc (.cells (LkC 0 0 1 60 30) 63)
  go_wp2_with fail
  refine (l_book_one kl).mono ?_
  rintro e v11 ⟨⟨a10, b10, c10, d10, rfl, I10, J10, K10⟩, q11⟩
  go_wp2_with fail
  have C8 := hz8.out
  have IW := hzW.out
  clear hz8 hzW
  have u10 := (q10.trans ql).trans q11
  clear q10 ql q11 kl
  refine (ex_Idle I10 J10 K10).mono ?_
  rintro e x10 ⟨⟨iv, rfl, II⟩, y10⟩
  have t10 := u10.trans y10
  replace U := U.trans t10
  replace k8 := t10.blk k8
  replace IW := IW.up t10
  replace C8 := And.intro (Nat.lt_of_lt_of_le C8.1 t10.size) ((t10.facts.1 g8 o8 C8.1).trans C8.2)
  clear u10 y10 t10 I10 J10 K10
  have hz8 := Lib.hid C8
  clear C8
  have hzW := Lib.hid IW
  have hzI := Lib.hid II
  clear IW II
  go_wp2_with fail
  refine (l_book_nil _).mono ?_
  rintro e v11 ⟨⟨a11, b11, c11, d11, rfl, I11, J11, K11⟩, u11⟩
  go_wp2_with fail
  have C8 := hz8.out
  have IW := hzW.out
  have II := hzI.out
  clear hz8 hzW hzI
  refine (ex_Worst I11 J11 K11).mono ?_
  rintro e x11 ⟨rfl, y11⟩
  have t11 := u11.trans y11
  replace U := U.trans t11
  replace k8 := t11.blk k8
  replace II := II.up t11
  replace IW := IW.up t11
  replace C8 := And.intro (Nat.lt_of_lt_of_le C8.1 t11.size) ((t11.facts.1 g8 o8 C8.1).trans C8.2)
  clear u11 y11 t11 I11 J11 K11
  have hz8 := Lib.hid C8
  clear C8
  have C8c := hz8.out.2
  have hzW := Lib.hid IW
  have hzI := Lib.hid II
  clear IW II
  go_wp2_with fail
  have SB := ints_one (w := x11) 3
  have SA := hzW.out.up ((Up.refl x11).alloc (.cells #[.int .i64 3] 3))
  refine (B_Alike_any SA SB).mono ?_
  rintro e y30 ⟨rfl, u⟩
  have ua := ((Up.refl x11).alloc (.cells #[.int .i64 3] 3)).trans u
  replace U := U.trans ua
  have SI := hzI.out.up ua
  clear SA SB u ua k8 C8c hz8 hzW hzI
  rw [show decide (([3] : List Int) = [3]) = true from rfl]
  go_wp2_with fail
  have SB := ints_one (w := y30) 4
  have SA := SI.up ((Up.refl y30).alloc (.cells #[.int .i64 4] 3))
  refine (B_Alike_any SA SB).mono ?_
  rintro e y35 ⟨rfl, u⟩
  have ua := ((Up.refl y30).alloc (.cells #[.int .i64 4] 3)).trans u
  replace U := U.trans ua
  clear SA SB SI u ua
  go_wp2
  go_ret
  exact ⟨rfl, U⟩

end Go.Proofs.Ytlpkheoljbdajaa
