import Derived.Test.YtckjggkikpgidaaRfa
/- The contracts of the reference's reach and Reach. -/
namespace Go.Proofs.Ytckjggkikpgidaa
open Go.RowKit

set_option maxRecDepth 100000 in
set_option maxHeartbeats 4000000 in
theorem r_reach_any {f s j dl dh : Int} (hr : S.ok f s j dl dh = true) (T : Nat) (hT : T ≤ 200) (w : World) : Calls Try.prog 69 #[RV f s j dl dh, .int .i64 T] w fun e w' => e = .returned (SpV (-(S.most s j T)) (S.most f j T)) ∧ Up w w' := by
  obtain ⟨⟨f1, f2⟩, ⟨s1, s2⟩, ⟨j1, j2⟩, _⟩ := S.ok_iff.1 hr
  have U0 := ((Up.refl w).alloc (.cells #[.int .i64 f, .int .i64 s, .int .i64 j, .int .i64 dl, .int .i64 dh] 25)).alloc (.cells #[.int .i64 0, .int .i64 0] 23)
  have k2 := blk_keep (.cells #[.int .i64 0, .int .i64 0] 23) (blk_new w (.cells #[.int .i64 f, .int .i64 s, .int .i64 j, .int .i64 dl, .int .i64 dh] 25) _ rfl)
  have k4 := blk_new (w.alloc (.cells #[.int .i64 f, .int .i64 s, .int .i64 j, .int .i64 dl, .int .i64 dh] 25)) (.cells #[.int .i64 0, .int .i64 0] 23) (w.heap.size + 1) (by simp)
  have e1 := S.most_bd (e := s) (j := j) s1 (by omega) T
  have e3 : (T : Int) * s ≤ 200 * 500 := Int.mul_le_mul (by omega) (by omega) (by omega) (by omega)
  have H1 := Lib.hid (fun w => r_most_any T s j w hT s1 s2 j1 j2)
  have H2 := Lib.hid (fun w => r_most_any T f j w hT f1 f2 j1 j2)
  have HT := Lib.hid (fun w => B_To_any (-(S.most s j T)) (S.most f j T) w)
  have wn : IntKind.i64.wrap (-(S.most s j T)) = -(S.most s j T) := IntWalk.i64_in _ (by omega)
  generalize S.most s j T = a at *
  generalize S.most f j T = b at *
  clear hr e1 e3
  go_enter Try.func69, Try.ntmps69
  go_wp2_with fail
  refine (wpIn_wide (n := 5)).1 ?_
  refine wpIn_nrm ?_
  refine regionG (fun w' => Up w w' ∧ mblk w' w.heap.size = some (.cells #[.int .i64 f, .int .i64 s, .int .i64 j, .int .i64 dl, .int .i64 dh] 25 (0, 0)) ∧ mblk w' (w.heap.size + 1) = some (.cells #[.int .i64 0, .int .i64 0] 23 (0, 0))) 14 (by kernel_rfl) ⟨U0.drew, by rw [blk_drew]; exact k2, by rw [blk_drew]; exact k4⟩ (fun hHeld hCl => ?_)
  clear U0 k2 k4
  refine takeG (i := 0) (d := (some 5)) (v := ?v1) rfl rfl (by kernel_rfl) (by kernel_rfl) (by decide) hCl (by kernel_rfl) (by kernel_rfl) (by kernel_rfl) (fun _ _ _ h => h) (by rfl) ?hy1 (fun _ _ _ => trivial) (by assumption) (fun hCl' => ?_)
  case hy1 => ((intro w hSw; (try dsimp only at hSw); (try go_split_ands); go_simp); try with_reducible rfl)
  simp only [Act.put, List.setIfInBounds_toArray, List.set_cons_zero, List.set_cons_succ]
  replace hCl := hCl'; clear hCl'
  refine takeG (i := 1) (d := (some 6)) (v := ?v2) rfl rfl (by kernel_rfl) (by kernel_rfl) (by decide) hCl (by kernel_rfl) (by kernel_rfl) (by kernel_rfl) (fun _ _ _ h => h) (by rfl) ?hy2 (fun _ _ _ => trivial) (by assumption) (fun hCl' => ?_)
  case hy2 => ((intro w hSw; (try dsimp only at hSw); (try go_split_ands); go_simp); try with_reducible rfl)
  simp only [Act.put, List.setIfInBounds_toArray, List.set_cons_zero, List.set_cons_succ]
  replace hCl := hCl'; clear hCl'
  refine takeG (i := 3) (d := (some 8)) (v := ?v3) rfl rfl (by kernel_rfl) (by kernel_rfl) (by decide) hCl (by kernel_rfl) (by kernel_rfl) (by kernel_rfl) (fun _ _ _ h => h) (by rfl) ?hy3 (fun _ _ _ => trivial) (by assumption) (fun hCl' => ?_)
  case hy3 => ((intro w hSw; (try dsimp only at hSw); (try go_split_ands); go_simp); try with_reducible rfl)
  simp only [Act.put, List.setIfInBounds_toArray, List.set_cons_zero, List.set_cons_succ]
  replace hCl := hCl'; clear hCl'
  refine takeG (i := 7) (d := (some 12)) (v := ?v4) rfl rfl (by kernel_rfl) (by kernel_rfl) (by decide) hCl (by kernel_rfl) (by kernel_rfl) (by kernel_rfl) (fun _ _ _ h => h) (by rfl) ?hy4 (fun _ _ _ => trivial) (by assumption) (fun hCl' => ?_)
  case hy4 => ((intro w hSw; (try dsimp only at hSw); (try go_split_ands); go_simp); try with_reducible rfl)
  simp only [Act.put, List.setIfInBounds_toArray, List.set_cons_zero, List.set_cons_succ]
  replace hCl := hCl'; clear hCl'
  refine takeG (i := 8) (d := (some 13)) (v := ?v5) rfl rfl (by kernel_rfl) (by kernel_rfl) (by decide) hCl (by kernel_rfl) (by kernel_rfl) (by kernel_rfl) (fun _ _ _ h => h) (by rfl) ?hy5 (fun _ _ _ => trivial) (by assumption) (fun hCl' => ?_)
  case hy5 => ((intro w hSw; (try dsimp only at hSw); (try go_split_ands); go_simp); try with_reducible rfl)
  simp only [Act.put, List.setIfInBounds_toArray, List.set_cons_zero, List.set_cons_succ]
  replace hCl := hCl'; clear hCl'
  refine takeG (i := 10) (d := (some 15)) (v := ?v6) rfl rfl (by kernel_rfl) (by kernel_rfl) (by decide) hCl (by kernel_rfl) (by kernel_rfl) (by kernel_rfl) (fun _ _ _ h => h) (by rfl) ?hy6 (fun _ _ _ => trivial) (by assumption) (fun hCl' => ?_)
  case hy6 => ((intro w hSw; (try dsimp only at hSw); (try go_split_ands); go_simp); try with_reducible rfl)
  simp only [Act.put, List.setIfInBounds_toArray, List.set_cons_zero, List.set_cons_succ]
  replace hCl := hCl'; clear hCl'
  refine takeG (i := 2) (d := (some 7)) (v := ?v7) rfl rfl (by kernel_rfl) (by kernel_rfl) (by decide) hCl (by kernel_rfl) (by kernel_rfl) (by kernel_rfl) (fun _ _ _ h => h) (by rfl) ?hy7 (fun _ _ _ => trivial) (by assumption) (fun hCl' => ?_)
  case hy7 => ((intro w hSw; (try dsimp only at hSw); (try go_split_ands); go_simp); try with_reducible rfl)
  simp only [Act.put, List.setIfInBounds_toArray, List.set_cons_zero, List.set_cons_succ]
  replace hCl := hCl'; clear hCl'
  refine takeG (i := 4) (d := (some 9)) (v := ?v8) rfl rfl (by kernel_rfl) (by kernel_rfl) (by decide) hCl (by kernel_rfl) (by kernel_rfl) (by kernel_rfl) (fun _ _ _ h => h) (by rfl) ?hy8 (fun _ _ _ => trivial) (by assumption) (fun hCl' => ?_)
  case hy8 => ((intro w hSw; (try dsimp only at hSw); (try go_split_ands); go_simp); try with_reducible rfl)
  simp only [Act.put, List.setIfInBounds_toArray, List.set_cons_zero, List.set_cons_succ]
  replace hCl := hCl'; clear hCl'
  refine takeG (i := 9) (d := (some 14)) (v := ?v9) rfl rfl (by kernel_rfl) (by kernel_rfl) (by decide) hCl (by kernel_rfl) (by kernel_rfl) (by kernel_rfl) (fun _ _ _ h => h) (by rfl) ?hy9 (fun _ _ _ => trivial) (by assumption) (fun hCl' => ?_)
  case hy9 => ((intro w hSw; (try dsimp only at hSw); (try go_split_ands); go_simp); try with_reducible rfl)
  simp only [Act.put, List.setIfInBounds_toArray, List.set_cons_zero, List.set_cons_succ]
  replace hCl := hCl'; clear hCl'
  refine takeG (i := 11) (d := (some 16)) (v := ?v10) rfl rfl (by kernel_rfl) (by kernel_rfl) (by decide) hCl (by kernel_rfl) (by kernel_rfl) (by kernel_rfl) (fun _ _ _ h => h) (by rfl) ?hy10 (fun _ _ _ => trivial) (by assumption) (fun hCl' => ?_)
  case hy10 => ((intro w hSw; (try dsimp only at hSw); (try go_split_ands); go_simp); try with_reducible rfl)
  simp only [Act.put, List.setIfInBounds_toArray, List.set_cons_zero, List.set_cons_succ]
  replace hCl := hCl'; clear hCl'
  refine nextG (i := 5) (by kernel_rfl) rfl (by rfl) hCl (fun K hK => ?_)
  go_simp
  refine ⟨trivial, (callsIn_wide.2 (H1.out _)).mono ?_⟩
  rintro e w3 ⟨rfl, rfl⟩
  refine hK.out _ _ hHeld (fun hHeld hCl => ?_)
  clear hK K H1
  refine takeG (i := 6) (d := (some 11)) (v := ?v12) rfl rfl (by kernel_rfl) (by kernel_rfl) (by decide) hCl (by kernel_rfl) (by kernel_rfl) (by kernel_rfl) (fun _ _ _ h => h) (by rfl) ?hy12 (fun _ _ _ => trivial) (by assumption) (fun hCl' => ?_)
  case hy12 => ((intro w hSw; (try dsimp only at hSw); (try go_split_ands); go_simp); try with_reducible rfl)
  simp only [Act.put, List.setIfInBounds_toArray, List.set_cons_zero, List.set_cons_succ]
  replace hCl := hCl'; clear hCl'
  refine nextG (i := 12) (by kernel_rfl) rfl (by rfl) hCl (fun K hK => ?_)
  go_simp
  refine ⟨trivial, (callsIn_wide.2 (H2.out _)).mono ?_⟩
  rintro e w3 ⟨rfl, rfl⟩
  refine hK.out _ _ hHeld (fun hHeld hCl => ?_)
  clear hK K H2
  refine nextG (i := 13) (by kernel_rfl) rfl (by rfl) hCl (fun K hK => ?_)
  go_simp
  refine ⟨trivial, (callsIn_wide.2 (HT.out _)).mono ?_⟩
  rintro e w4 ⟨rfl, u4⟩
  refine hK.out _ _ ⟨hHeld.1.trans u4, u4.blk hHeld.2.1, u4.blk hHeld.2.2⟩ (fun hHeld hCl => ?_)
  clear hK K u4 HT
  obtain ⟨V4, m2, m4⟩ := hHeld
  have zc := cellB m4
  have zf := frozB m4
  clear hCl
  refine lastG (i := 14) (by kernel_rfl) rfl (by rfl) (by decide) (fun K hK => ?_)
  go_simp
  have UE : Up w _ := (V4.set (p := ⟨w.heap.size + 1, 0, none⟩) (show w.heap.size ≤ w.heap.size + 1 by omega) (.int .i64 (-a))).set (p := ⟨w.heap.size + 1, 1, none⟩) (show w.heap.size ≤ w.heap.size + 1 by omega) (.int .i64 b)
  have C := Lib.hid (cellB (blk_put (blk_put m4 0 (.int .i64 (-a))) 1 (.int .i64 b)))
  refine hK.out _ _ ?_
  clear hK K zc zf m2 m4
  refine doneG (by kernel_rfl) ?_ _
  refine S.nrm_intro ?_
  go_wp2_with fail
  have cc := C.out
  exact bodyPost_ret (v := SpV (-a) b) (by simp [results, Try.results69, go_sem, cc]) rfl ⟨rfl, UE⟩

theorem r_Reach_no (f s j dl dh t : Int) (h : S.ok f s j dl dh = false) (w : World) : Calls Try.prog 23 #[RV f s j dl dh, .int .i64 t] w fun e w' => e = .returned (.tuple #[SpV 0 0, .int .i64 40]) ∧ Up w w' := by
  have U0 := ((Up.refl w).alloc (.cells #[.int .i64 f, .int .i64 s, .int .i64 j, .int .i64 dl, .int .i64 dh] 25)).alloc (.cells #[.int .i64 0, .int .i64 0] 23)
  have k4 := blk_new (w.alloc (.cells #[.int .i64 f, .int .i64 s, .int .i64 j, .int .i64 dl, .int .i64 dh] 25)) (.cells #[.int .i64 0, .int .i64 0] 23) (w.heap.size + 1) (by simp)
  have HC := Lib.hid (fun w => r_checkRule_any f s j dl dh w)
  rw [h] at HC
  clear h
  go_enter Try.func23, Try.ntmps23
  go_wp2_with fail
  refine (HC.out _).mono ?_
  rintro e w1 ⟨rfl, u1⟩
  have m4 := u1.blk k4
  have z4 := frozB m4
  have V := U0.trans u1
  have UE := (V.set (p := ⟨w.heap.size + 1, 0, none⟩) (show w.heap.size ≤ w.heap.size + 1 by omega) (.int .i64 0)).set (p := ⟨w.heap.size + 1, 1, none⟩) (show w.heap.size ≤ w.heap.size + 1 by omega) (.int .i64 0)
  have C := Lib.hid (cellB (blk_put (blk_put m4 0 (.int .i64 0)) 1 (.int .i64 0)))
  clear V u1 U0 k4 HC
  go_wp2_with fail
  have cc := C.out
  exact bodyPost_ret (v := .tuple #[SpV 0 0, .int .i64 40]) (by simp [results, Try.results23, go_sem, cc]) rfl ⟨rfl, UE⟩
theorem r_Reach_ask (f s j dl dh t : Int) (h : S.ok f s j dl dh = true) (ht : ¬ (0 ≤ t ∧ t ≤ 200)) (w : World) : Calls Try.prog 23 #[RV f s j dl dh, .int .i64 t] w fun e w' => e = .returned (.tuple #[SpV 0 0, .int .i64 41]) ∧ Up w w' := by
  have U0 := ((Up.refl w).alloc (.cells #[.int .i64 f, .int .i64 s, .int .i64 j, .int .i64 dl, .int .i64 dh] 25)).alloc (.cells #[.int .i64 0, .int .i64 0] 23)
  have k4 := blk_new (w.alloc (.cells #[.int .i64 f, .int .i64 s, .int .i64 j, .int .i64 dl, .int .i64 dh] 25)) (.cells #[.int .i64 0, .int .i64 0] 23) (w.heap.size + 1) (by simp)
  have HC := Lib.hid (fun w => r_checkRule_any f s j dl dh w)
  rw [h] at HC
  have HL := Lib.hid (fun w => show Calls Try.prog 42 #[.int .i64 t, .int .i64 0, .int .i64 200] w fun e w' => e = .returned (.bool false) ∧ w = w' by rw [← inB_no ht]; exact B_Lies_any _ _ _ w)
  clear h ht
  go_enter Try.func23, Try.ntmps23
  go_wp2_with fail
  refine (HC.out _).mono ?_
  rintro e w1 ⟨rfl, u1⟩
  have m4 := u1.blk k4
  have V := U0.trans u1
  clear u1 U0 k4 HC
  go_wp2_with fail
  refine (HL.out _).mono ?_
  rintro e w2 ⟨rfl, rfl⟩
  have z4 := frozB m4
  have UE := (V.set (p := ⟨w.heap.size + 1, 0, none⟩) (show w.heap.size ≤ w.heap.size + 1 by omega) (.int .i64 0)).set (p := ⟨w.heap.size + 1, 1, none⟩) (show w.heap.size ≤ w.heap.size + 1 by omega) (.int .i64 0)
  have C := Lib.hid (cellB (blk_put (blk_put m4 0 (.int .i64 0)) 1 (.int .i64 0)))
  clear V HL
  go_wp2_with fail
  have cc := C.out
  exact bodyPost_ret (v := .tuple #[SpV 0 0, .int .i64 41]) (by simp [results, Try.results23, go_sem, cc]) rfl ⟨rfl, UE⟩
theorem r_Reach_yes (f s j dl dh : Int) (T : Nat) (h : S.ok f s j dl dh = true) (hT : T ≤ 200) (w : World) : Calls Try.prog 23 #[RV f s j dl dh, .int .i64 T] w fun e w' => e = .returned (.tuple #[SpV (-(S.most s j T)) (S.most f j T), .int .i64 0]) ∧ Up w w' := by
  have U0 := ((Up.refl w).alloc (.cells #[.int .i64 f, .int .i64 s, .int .i64 j, .int .i64 dl, .int .i64 dh] 25)).alloc (.cells #[.int .i64 0, .int .i64 0] 23)
  have k2 := blk_keep (.cells #[.int .i64 0, .int .i64 0] 23) (blk_new w (.cells #[.int .i64 f, .int .i64 s, .int .i64 j, .int .i64 dl, .int .i64 dh] 25) _ rfl)
  have k4 := blk_new (w.alloc (.cells #[.int .i64 f, .int .i64 s, .int .i64 j, .int .i64 dl, .int .i64 dh] 25)) (.cells #[.int .i64 0, .int .i64 0] 23) (w.heap.size + 1) (by simp)
  have HC := Lib.hid (fun w => r_checkRule_any f s j dl dh w)
  rw [h] at HC
  have HL := Lib.hid (fun w => show Calls Try.prog 42 #[.int .i64 T, .int .i64 0, .int .i64 200] w fun e w' => e = .returned (.bool true) ∧ w = w' by rw [← inB_yes (show (0 : Int) ≤ T by omega) (show (T : Int) ≤ 200 by omega)]; exact B_Lies_any _ _ _ w)
  have HR := Lib.hid (fun w => r_reach_any h T hT w)
  generalize -(S.most s j T) = a at *
  generalize S.most f j T = b at *
  clear h
  go_enter Try.func23, Try.ntmps23
  go_wp2_with fail
  refine (HC.out _).mono ?_
  rintro e w1 ⟨rfl, u1⟩
  replace k2 := u1.blk k2
  have m4 := u1.blk k4
  have V := U0.trans u1
  clear u1 U0 k4 HC
  go_wp2_with fail
  refine (HL.out _).mono ?_
  rintro e w2 ⟨rfl, rfl⟩
  clear HL
  go_wp2_with fail
  refine (HR.out _).mono ?_
  rintro e w3 ⟨rfl, u3⟩
  have m4' := u3.blk m4
  have z4 := frozB m4'
  have UE := ((V.trans u3).set (p := ⟨w.heap.size + 1, 0, none⟩) (show w.heap.size ≤ w.heap.size + 1 by omega) (.int .i64 a)).set (p := ⟨w.heap.size + 1, 1, none⟩) (show w.heap.size ≤ w.heap.size + 1 by omega) (.int .i64 b)
  have C := Lib.hid (cellB (blk_put (blk_put m4' 0 (.int .i64 a)) 1 (.int .i64 b)))
  clear V HR u3 m4 k2
  go_wp2_with fail
  have cc := C.out
  exact bodyPost_ret (v := .tuple #[SpV a b, .int .i64 0]) (by simp [results, Try.results23, go_sem, cc]) rfl ⟨rfl, UE⟩

end Go.Proofs.Ytckjggkikpgidaa
