import Derived.Test.YtckjggkikpgidaaMth
/- The law ScaleEasier. -/
namespace Go.Proofs.Ytckjggkikpgidaa
open Go.RowKit

set_option maxRecDepth 100000 in
set_option maxHeartbeats 8000000 in
theorem scaleEasier_any (f s j dl dh n0 n1 n2 n3 : Int) (w : World) : Calls Try.prog 10 #[RV f s j dl dh, .agg #[.int .i64 n0, .int .i64 n1, .int .i64 n2, .int .i64 n3]] w fun e w' => e = .returned (.bool true) ∧ Up w w' := by
  have U0 := ((Up.refl w).alloc (.cells #[.int .i64 f, .int .i64 s, .int .i64 j, .int .i64 dl, .int .i64 dh] 25)).alloc (.cells #[.int .i64 n0, .int .i64 n1, .int .i64 n2, .int .i64 n3] 65)
  have k2 := blk_keep (.cells #[.int .i64 n0, .int .i64 n1, .int .i64 n2, .int .i64 n3] 65) (blk_new w (.cells #[.int .i64 f, .int .i64 s, .int .i64 j, .int .i64 dl, .int .i64 dh] 25) _ rfl)
  have k3 := blk_new (w.alloc (.cells #[.int .i64 f, .int .i64 s, .int .i64 j, .int .i64 dl, .int .i64 dh] 25)) (.cells #[.int .i64 n0, .int .i64 n1, .int .i64 n2, .int .i64 n3] 65) (w.heap.size + 1) (by simp)
  have HI := Lib.hid (fun w => l_isRule_any f s j dl dh w)
  have HW := Lib.hid (fun w => l_works_any w)
  cases hr : S.ok f s j dl dh with
  | false =>
    rw [hr] at HI
    clear hr k2 k3
    go_enter Try.func10, Try.ntmps10
    go_wp2_with fail
    refine (HI.out _).mono ?_
    rintro e w1 ⟨rfl, u1⟩
    go_wp2_with fail
    refine (HW.out _).mono ?_
    rintro e w2 ⟨rfl, u2⟩
    go_wp2
    go_ret
    exact ⟨rfl, (U0.trans u1).trans u2⟩
  | true =>
    obtain ⟨⟨a1, a2⟩, ⟨b1, b2⟩, ⟨c1, c2⟩, d1, d2, d3⟩ := S.ok_iff.1 hr
    -- the wider rule
    have r1 := Int.emod_nonneg n1 (b := 20) (by omega)
    have r1' := Int.emod_lt_of_pos n1 (b := 20) (by omega)
    have r2 := Int.emod_nonneg n2 (b := 20) (by omega)
    have r2' := Int.emod_lt_of_pos n2 (b := 20) (by omega)
    have r3 := Int.emod_nonneg n3 (b := 5) (by omega)
    have r3' := Int.emod_lt_of_pos n3 (b := 5) (by omega)
    have r4 := Int.emod_nonneg n0 (b := 201) (by omega)
    have r4' := Int.emod_lt_of_pos n0 (b := 201) (by omega)
    have HR1 := Lib.hid (fun w => B_Rest_any n1 20 w (by omega) (by omega))
    have HR2 := Lib.hid (fun w => B_Rest_any n2 20 w (by omega) (by omega))
    have HR3 := Lib.hid (fun w => B_Rest_any n3 5 w (by omega) (by omega))
    have HR4 := Lib.hid (fun w => B_Rest_any n0 201 w (by omega) (by omega))
    generalize n1 % 20 = q1 at *
    generalize n2 % 20 = q2 at *
    generalize n3 % 5 = q3 at *
    obtain ⟨T, hT⟩ : ∃ T : Nat, n0 % 201 = T := ⟨(n0 % 201).toNat, by omega⟩
    rw [hT] at r4 r4' HR4
    have T200 : T ≤ 200 := by omega
    obtain ⟨f', hf'⟩ : ∃ x, min 500 (f + q1) = x := ⟨_, rfl⟩
    obtain ⟨s', hs'⟩ : ∃ x, min 500 (s + q2) = x := ⟨_, rfl⟩
    obtain ⟨j', hj'⟩ : ∃ x, min 500 (j + q3) = x := ⟨_, rfl⟩
    have w1' : IntKind.i64.wrap (f + q1) = f + q1 := IntWalk.i64_in _ (by omega)
    have w2' : IntKind.i64.wrap (s + q2) = s + q2 := IntWalk.i64_in _ (by omega)
    have w3' : IntKind.i64.wrap (j + q3) = j + q3 := IntWalk.i64_in _ (by omega)
    have hM1 := min_run hf'
    have hM2 := min_run hs'
    have hM3 := min_run hj'
    have hr2 : S.ok f' s' j' dl dh = true := S.ok_iff.2 ⟨by omega, by omega, by omega, d1, d2, d3⟩
    have hr3 : S.ok s f j dl dh = true := S.ok_iff.2 ⟨by omega, by omega, by omega, d1, d2, d3⟩
    obtain ⟨o1, o2⟩ := S.frm_in (l := -3000) (h := 3000) (by omega) n0
    have HT := Lib.hid (fun w => B_To_any (-3000) 3000 w)
    have HFr := Lib.hid (fun w => B_From_any (-3000) 3000 n0 w (by omega) (by omega) (by omega) (by omega))
    generalize S.frm (-3000) 3000 n0 = off at *
    -- the fewest ticks
    obtain ⟨ra, hra⟩ := S.Few.ex f s j off
    obtain ⟨rb, hrb⟩ := S.Few.ex f' s' j' off
    have hba := S.Few.wider (by omega) (by omega) (by omega) hra hrb
    have FA := fun w => Fewest_yes (f := f) (s := s) (j := j) (dl := dl) (dh := dh) w hr off (by omega) (by omega) hra
    have FB := fun w => Fewest_yes (f := f') (s := s') (j := j') (dl := dl) (dh := dh) w hr2 off (by omega) (by omega) hrb
    have FC := fun w => Fewest_yes (f := s) (s := f) (j := j) (dl := dl) (dh := dh) w hr3 (-off) (by omega) (by omega) hra.flip
    obtain ⟨av, ev, bv, fv, HFa, HFb, HFc, hcase⟩ : ∃ av ev bv fv : Int, Hid (∀ w, Calls Try.prog 18 #[RV f s j dl dh, .int .i64 off] w fun e w' => e = .returned (.tuple #[.int .i64 av, .int .i64 ev]) ∧ Up w w') ∧ Hid (∀ w, Calls Try.prog 18 #[RV f' s' j' dl dh, .int .i64 off] w fun e w' => e = .returned (.tuple #[.int .i64 bv, .int .i64 fv]) ∧ Up w w') ∧ Hid (∀ w, Calls Try.prog 18 #[RV s f j dl dh, .int .i64 (-off)] w fun e w' => e = .returned (.tuple #[.int .i64 av, .int .i64 ev]) ∧ Up w w') ∧ ((ev = 0 ∧ fv = 0 ∧ ¬ bv > av) ∨ ev = 4) := by
      refine ⟨_, _, _, _, Lib.hid FA, Lib.hid FB, Lib.hid FC, ?_⟩
      by_cases h1 : ra ≤ 200
      · rw [if_pos h1, if_pos h1, if_pos (show rb ≤ 200 by omega), if_pos (show rb ≤ 200 by omega)]
        exact .inl ⟨rfl, rfl, by omega⟩
      · rw [if_neg h1, if_neg h1]
        exact .inr rfl
    clear FA FB FC
    have HS1 := Lib.hid (fun w => Reach_yes (f := f) (s := s) (j := j) (dl := dl) (dh := dh) w hr T T200)
    have HS2 := Lib.hid (fun w => Reach_yes (f := s) (s := f) (j := j) (dl := dl) (dh := dh) w hr3 T T200)
    have b1' := S.most_bd (e := s) (j := j) b1 (by omega) T
    have b2' := S.most_bd (e := f) (j := j) a1 (by omega) T
    have b3' : (T : Int) * s ≤ 200 * 500 := Int.mul_le_mul (by omega) (by omega) (by omega) (by omega)
    have b4' : (T : Int) * f ≤ 200 * 500 := Int.mul_le_mul (by omega) (by omega) (by omega) (by omega)
    generalize S.most s j T = ms at *
    generalize S.most f j T = mf at *
    have wn1 : IntKind.i64.wrap (-mf) = -mf := IntWalk.i64_in _ (by omega)
    have wn2 : IntKind.i64.wrap ms = ms := IntWalk.i64_in _ (by omega)
    have wn3 : IntKind.i64.wrap (-off) = -off := IntWalk.i64_in _ (by omega)
    have HT2 := Lib.hid (fun w => B_To_any (-mf) ms w)
    rw [hr] at HI
    clear hra hrb hba hr hr2 hr3 hf' hs' hj' hT r4 r4' b1' b2' b3' b4' a1 a2 b1 b2 c1 c2 d1 d2 d3 r1 r1' r2 r2' r3 r3'
    go_enter Try.func10, Try.ntmps10
    go_wp2_with fail
    refine (HI.out _).mono ?_
    rintro e w1 ⟨rfl, u1⟩
    have V := (U0.trans u1).alloc (.cells #[.int .i64 f, .int .i64 s, .int .i64 j, .int .i64 dl, .int .i64 dh] 25)
    have j2 := u1.blk k2
    replace k2 := blk_keep (.cells #[.int .i64 f, .int .i64 s, .int .i64 j, .int .i64 dl, .int .i64 dh] 25) (u1.blk k2)
    replace k3 := blk_keep (.cells #[.int .i64 f, .int .i64 s, .int .i64 j, .int .i64 dl, .int .i64 dh] 25) (u1.blk k3)
    have k5 := blk_new w1 (.cells #[.int .i64 f, .int .i64 s, .int .i64 j, .int .i64 dl, .int .i64 dh] 25) _ rfl
    have lw1 : w.heap.size + 1 < w1.heap.size := by have := u1.size; simp at this; omega
    obtain ⟨W1, hW1⟩ : ∃ W1, w1.alloc (.cells #[.int .i64 f, .int .i64 s, .int .i64 j, .int .i64 dl, .int .i64 dh] 25) = W1 := ⟨_, rfl⟩
    obtain ⟨p5, hp5⟩ : ∃ p, w1.heap.size = p := ⟨_, rfl⟩
    rw [hW1] at V k2 k3 k5
    rw [hp5] at k5 lw1
    clear u1 U0 HI
    go_wp2_with fail
    clear hW1 hp5 j2
    refine wp_region_held_drew (S := fun w' => Up w w' ∧ mblk w' w.heap.size = some (.cells #[.int .i64 f, .int .i64 s, .int .i64 j, .int .i64 dl, .int .i64 dh] 25 (0, 0)) ∧ mblk w' (w.heap.size + 1) = some (.cells #[.int .i64 n0, .int .i64 n1, .int .i64 n2, .int .i64 n3] 65 (0, 0)) ∧ ∃ q, mblk w' p5 = some (.cells #[q, .int .i64 s, .int .i64 j, .int .i64 dl, .int .i64 dh] 25 (0, 0))) (by kernel_rfl) ⟨V.drew, by rw [blk_drew]; exact k2, by rw [blk_drew]; exact k3, _, by rw [blk_drew]; exact k5⟩ (fun hHeld => ?_)
    have Vp := V
    clear V k2 k3 k5
    refine takeH (i := 0) (d := (some 24)) (v := ?v1) rfl rfl (by kernel_rfl) (by kernel_rfl) (by kernel_rfl) (fun _ _ _ h => h) (by rfl) ?hy1 (by assumption) ?_
    case hy1 => ((intro w hSw; (try dsimp only at hSw); (try go_split_ands); go_simp); try with_reducible rfl)
    simp only [Act.put, List.setIfInBounds_toArray, List.set_cons_zero, List.set_cons_succ]
    refine takeH (i := 1) (d := (some 25)) (v := ?v2) rfl rfl (by kernel_rfl) (by kernel_rfl) (by kernel_rfl) (fun _ _ _ h => h) (by rfl) ?hy2 (by assumption) ?_
    case hy2 => ((intro w hSw; (try dsimp only at hSw); (try go_split_ands); go_simp); try with_reducible rfl)
    simp only [Act.put, List.setIfInBounds_toArray, List.set_cons_zero, List.set_cons_succ]
    refine takeH (i := 2) (d := (some 26)) (v := ?v3) rfl rfl (by kernel_rfl) (by kernel_rfl) (by kernel_rfl) (fun _ _ _ h => h) (by rfl) ?hy3 (by assumption) ?_
    case hy3 => ((intro w hSw; (try dsimp only at hSw); (try go_split_ands); go_simp); try with_reducible rfl)
    simp only [Act.put, List.setIfInBounds_toArray, List.set_cons_zero, List.set_cons_succ]
    refine takeH (i := 3) (d := (some 27)) (v := ?v4) rfl rfl (by kernel_rfl) (by kernel_rfl) (by kernel_rfl) (fun _ _ _ h => h) (by rfl) ?hy4 (by assumption) ?_
    case hy4 => ((intro w hSw; (try dsimp only at hSw); (try go_split_ands); go_simp); try with_reducible rfl)
    simp only [Act.put, List.setIfInBounds_toArray, List.set_cons_zero, List.set_cons_succ]
    refine wpAnyH_ready (rs := [4]) (by kernel_rfl) (by simp) ?_
    refine AllReadyH.cons rfl (fun K hK => ?_) AllReadyH.nil
    go_simp
    refine (HR1.out _).mono ?_
    rintro e x0 ⟨rfl, rfl⟩
    go_wp2_with fail
    refine hK.out _ _ hHeld (fun hHeld => ?_)
    clear hK K
    refine takeH (i := 5) (d := (some 29)) (v := ?v6) rfl rfl (by kernel_rfl) (by kernel_rfl) (by kernel_rfl) (fun _ _ _ h => h) (by rfl) ?hy6 (by assumption) ?_
    case hy6 => ((intro w hSw; (try dsimp only at hSw); (try go_split_ands); go_simp); try with_reducible rfl)
    simp only [Act.put, List.setIfInBounds_toArray, List.set_cons_zero, List.set_cons_succ]
    refine takeH (i := 6) (d := (some 30)) (v := .int .i64 f') rfl rfl (by kernel_rfl) (by kernel_rfl) (by kernel_rfl) (fun _ _ _ h => h) (by rfl) ?hym0 (by assumption) ?_
    case hym0 => ((intro w hSw; (try dsimp only at hSw); go_simp); try with_reducible rfl)
    simp only [Act.put, List.setIfInBounds_toArray, List.set_cons_zero, List.set_cons_succ]
    refine takeH (i := 7) (d := (some 31)) (v := ?v7) rfl rfl (by kernel_rfl) (by kernel_rfl) (by kernel_rfl) (fun _ _ _ h => h) (by rfl) ?hy7 (by assumption) ?_
    case hy7 => ((intro w hSw; (try dsimp only at hSw); (try go_split_ands); go_simp); try with_reducible rfl)
    simp only [Act.put, List.setIfInBounds_toArray, List.set_cons_zero, List.set_cons_succ]
    obtain ⟨q, kq⟩ := hHeld.2.2.2
    have fc := cellB kq
    have gc := frozB kq
    refine wpAnyH_ready (rs := [8]) (by kernel_rfl) (by simp) ?_
    refine AllReadyH.cons rfl (fun K hK => ?_) AllReadyH.nil
    go_simp
    obtain ⟨Y0, hY⟩ : ∃ Y, (W1.setCell ⟨p5, 0, none⟩ (.int .i64 f')).drew = Y := ⟨_, rfl⟩
    have V : Up w Y0 := by rw [← hY]; exact Up.drew (Up.set Vp (by show w.heap.size ≤ p5; omega) _)
    have k2 : mblk Y0 w.heap.size = some (.cells #[.int .i64 f, .int .i64 s, .int .i64 j, .int .i64 dl, .int .i64 dh] 25 (0, 0)) := by rw [← hY, blk_drew, blk_set _ _ _ _ (by show w.heap.size ≠ p5; omega)]; exact hHeld.2.1
    have k3 : mblk Y0 (w.heap.size + 1) = some (.cells #[.int .i64 n0, .int .i64 n1, .int .i64 n2, .int .i64 n3] 65 (0, 0)) := by rw [← hY, blk_drew, blk_set _ _ _ _ (by show w.heap.size + 1 ≠ p5; omega)]; exact hHeld.2.2.1
    have k5 : mblk Y0 p5 = some (.cells #[.int .i64 f', .int .i64 s, .int .i64 j, .int .i64 dl, .int .i64 dh] 25 (0, 0)) := by rw [← hY, blk_drew]; exact blk_put (w := W1) kq 0 _
    rw [hY]
    refine hK.out _ _ ⟨V, k2, k3, _, k5⟩ (fun _ => ?_)
    clear hK K hY hHeld kq fc gc q Vp
    refine wpAnyH_done (by kernel_rfl) ?_ _
    go_wp2_with fail
    refine wp_region_held_drew (S := fun w' => Up w w' ∧ mblk w' w.heap.size = some (.cells #[.int .i64 f, .int .i64 s, .int .i64 j, .int .i64 dl, .int .i64 dh] 25 (0, 0)) ∧ mblk w' (w.heap.size + 1) = some (.cells #[.int .i64 n0, .int .i64 n1, .int .i64 n2, .int .i64 n3] 65 (0, 0)) ∧ ∃ q, mblk w' p5 = some (.cells #[.int .i64 f', q, .int .i64 j, .int .i64 dl, .int .i64 dh] 25 (0, 0))) (by kernel_rfl) ⟨V.drew, by rw [blk_drew]; exact k2, by rw [blk_drew]; exact k3, _, by rw [blk_drew]; exact k5⟩ (fun hHeld => ?_)
    have Vp := V
    clear V k2 k3 k5
    refine takeH (i := 0) (d := (some 32)) (v := ?v9) rfl rfl (by kernel_rfl) (by kernel_rfl) (by kernel_rfl) (fun _ _ _ h => h) (by rfl) ?hy9 (by assumption) ?_
    case hy9 => ((intro w hSw; (try dsimp only at hSw); (try go_split_ands); go_simp); try with_reducible rfl)
    simp only [Act.put, List.setIfInBounds_toArray, List.set_cons_zero, List.set_cons_succ]
    refine takeH (i := 1) (d := (some 33)) (v := ?v10) rfl rfl (by kernel_rfl) (by kernel_rfl) (by kernel_rfl) (fun _ _ _ h => h) (by rfl) ?hy10 (by assumption) ?_
    case hy10 => ((intro w hSw; (try dsimp only at hSw); (try go_split_ands); go_simp); try with_reducible rfl)
    simp only [Act.put, List.setIfInBounds_toArray, List.set_cons_zero, List.set_cons_succ]
    refine takeH (i := 2) (d := (some 34)) (v := ?v11) rfl rfl (by kernel_rfl) (by kernel_rfl) (by kernel_rfl) (fun _ _ _ h => h) (by rfl) ?hy11 (by assumption) ?_
    case hy11 => ((intro w hSw; (try dsimp only at hSw); (try go_split_ands); go_simp); try with_reducible rfl)
    simp only [Act.put, List.setIfInBounds_toArray, List.set_cons_zero, List.set_cons_succ]
    refine takeH (i := 3) (d := (some 35)) (v := ?v12) rfl rfl (by kernel_rfl) (by kernel_rfl) (by kernel_rfl) (fun _ _ _ h => h) (by rfl) ?hy12 (by assumption) ?_
    case hy12 => ((intro w hSw; (try dsimp only at hSw); (try go_split_ands); go_simp); try with_reducible rfl)
    simp only [Act.put, List.setIfInBounds_toArray, List.set_cons_zero, List.set_cons_succ]
    refine wpAnyH_ready (rs := [4]) (by kernel_rfl) (by simp) ?_
    refine AllReadyH.cons rfl (fun K hK => ?_) AllReadyH.nil
    go_simp
    refine (HR2.out _).mono ?_
    rintro e x1 ⟨rfl, rfl⟩
    go_wp2_with fail
    refine hK.out _ _ hHeld (fun hHeld => ?_)
    clear hK K
    refine takeH (i := 5) (d := (some 37)) (v := ?v14) rfl rfl (by kernel_rfl) (by kernel_rfl) (by kernel_rfl) (fun _ _ _ h => h) (by rfl) ?hy14 (by assumption) ?_
    case hy14 => ((intro w hSw; (try dsimp only at hSw); (try go_split_ands); go_simp); try with_reducible rfl)
    simp only [Act.put, List.setIfInBounds_toArray, List.set_cons_zero, List.set_cons_succ]
    refine takeH (i := 6) (d := (some 38)) (v := .int .i64 s') rfl rfl (by kernel_rfl) (by kernel_rfl) (by kernel_rfl) (fun _ _ _ h => h) (by rfl) ?hym1 (by assumption) ?_
    case hym1 => ((intro w hSw; (try dsimp only at hSw); go_simp); try with_reducible rfl)
    simp only [Act.put, List.setIfInBounds_toArray, List.set_cons_zero, List.set_cons_succ]
    refine takeH (i := 7) (d := (some 39)) (v := ?v15) rfl rfl (by kernel_rfl) (by kernel_rfl) (by kernel_rfl) (fun _ _ _ h => h) (by rfl) ?hy15 (by assumption) ?_
    case hy15 => ((intro w hSw; (try dsimp only at hSw); (try go_split_ands); go_simp); try with_reducible rfl)
    simp only [Act.put, List.setIfInBounds_toArray, List.set_cons_zero, List.set_cons_succ]
    obtain ⟨q, kq⟩ := hHeld.2.2.2
    have fc := cellB kq
    have gc := frozB kq
    refine wpAnyH_ready (rs := [8]) (by kernel_rfl) (by simp) ?_
    refine AllReadyH.cons rfl (fun K hK => ?_) AllReadyH.nil
    go_simp
    obtain ⟨Y1, hY⟩ : ∃ Y, (Y0.setCell ⟨p5, 1, none⟩ (.int .i64 s')).drew = Y := ⟨_, rfl⟩
    have V : Up w Y1 := by rw [← hY]; exact Up.drew (Up.set Vp (by show w.heap.size ≤ p5; omega) _)
    have k2 : mblk Y1 w.heap.size = some (.cells #[.int .i64 f, .int .i64 s, .int .i64 j, .int .i64 dl, .int .i64 dh] 25 (0, 0)) := by rw [← hY, blk_drew, blk_set _ _ _ _ (by show w.heap.size ≠ p5; omega)]; exact hHeld.2.1
    have k3 : mblk Y1 (w.heap.size + 1) = some (.cells #[.int .i64 n0, .int .i64 n1, .int .i64 n2, .int .i64 n3] 65 (0, 0)) := by rw [← hY, blk_drew, blk_set _ _ _ _ (by show w.heap.size + 1 ≠ p5; omega)]; exact hHeld.2.2.1
    have k5 : mblk Y1 p5 = some (.cells #[.int .i64 f', .int .i64 s', .int .i64 j, .int .i64 dl, .int .i64 dh] 25 (0, 0)) := by rw [← hY, blk_drew]; exact blk_put (w := Y0) kq 1 _
    rw [hY]
    refine hK.out _ _ ⟨V, k2, k3, _, k5⟩ (fun _ => ?_)
    clear hK K hY hHeld kq fc gc q Vp
    refine wpAnyH_done (by kernel_rfl) ?_ _
    go_wp2_with fail
    refine wp_region_held_drew (S := fun w' => Up w w' ∧ mblk w' w.heap.size = some (.cells #[.int .i64 f, .int .i64 s, .int .i64 j, .int .i64 dl, .int .i64 dh] 25 (0, 0)) ∧ mblk w' (w.heap.size + 1) = some (.cells #[.int .i64 n0, .int .i64 n1, .int .i64 n2, .int .i64 n3] 65 (0, 0)) ∧ ∃ q, mblk w' p5 = some (.cells #[.int .i64 f', .int .i64 s', q, .int .i64 dl, .int .i64 dh] 25 (0, 0))) (by kernel_rfl) ⟨V.drew, by rw [blk_drew]; exact k2, by rw [blk_drew]; exact k3, _, by rw [blk_drew]; exact k5⟩ (fun hHeld => ?_)
    have Vp := V
    clear V k2 k3 k5
    refine takeH (i := 0) (d := (some 40)) (v := ?v17) rfl rfl (by kernel_rfl) (by kernel_rfl) (by kernel_rfl) (fun _ _ _ h => h) (by rfl) ?hy17 (by assumption) ?_
    case hy17 => ((intro w hSw; (try dsimp only at hSw); (try go_split_ands); go_simp); try with_reducible rfl)
    simp only [Act.put, List.setIfInBounds_toArray, List.set_cons_zero, List.set_cons_succ]
    refine takeH (i := 1) (d := (some 41)) (v := ?v18) rfl rfl (by kernel_rfl) (by kernel_rfl) (by kernel_rfl) (fun _ _ _ h => h) (by rfl) ?hy18 (by assumption) ?_
    case hy18 => ((intro w hSw; (try dsimp only at hSw); (try go_split_ands); go_simp); try with_reducible rfl)
    simp only [Act.put, List.setIfInBounds_toArray, List.set_cons_zero, List.set_cons_succ]
    refine takeH (i := 2) (d := (some 42)) (v := ?v19) rfl rfl (by kernel_rfl) (by kernel_rfl) (by kernel_rfl) (fun _ _ _ h => h) (by rfl) ?hy19 (by assumption) ?_
    case hy19 => ((intro w hSw; (try dsimp only at hSw); (try go_split_ands); go_simp); try with_reducible rfl)
    simp only [Act.put, List.setIfInBounds_toArray, List.set_cons_zero, List.set_cons_succ]
    refine takeH (i := 3) (d := (some 43)) (v := ?v20) rfl rfl (by kernel_rfl) (by kernel_rfl) (by kernel_rfl) (fun _ _ _ h => h) (by rfl) ?hy20 (by assumption) ?_
    case hy20 => ((intro w hSw; (try dsimp only at hSw); (try go_split_ands); go_simp); try with_reducible rfl)
    simp only [Act.put, List.setIfInBounds_toArray, List.set_cons_zero, List.set_cons_succ]
    refine wpAnyH_ready (rs := [4]) (by kernel_rfl) (by simp) ?_
    refine AllReadyH.cons rfl (fun K hK => ?_) AllReadyH.nil
    go_simp
    refine (HR3.out _).mono ?_
    rintro e x2 ⟨rfl, rfl⟩
    go_wp2_with fail
    refine hK.out _ _ hHeld (fun hHeld => ?_)
    clear hK K
    refine takeH (i := 5) (d := (some 45)) (v := ?v22) rfl rfl (by kernel_rfl) (by kernel_rfl) (by kernel_rfl) (fun _ _ _ h => h) (by rfl) ?hy22 (by assumption) ?_
    case hy22 => ((intro w hSw; (try dsimp only at hSw); (try go_split_ands); go_simp); try with_reducible rfl)
    simp only [Act.put, List.setIfInBounds_toArray, List.set_cons_zero, List.set_cons_succ]
    refine takeH (i := 6) (d := (some 46)) (v := .int .i64 j') rfl rfl (by kernel_rfl) (by kernel_rfl) (by kernel_rfl) (fun _ _ _ h => h) (by rfl) ?hym2 (by assumption) ?_
    case hym2 => ((intro w hSw; (try dsimp only at hSw); go_simp); try with_reducible rfl)
    simp only [Act.put, List.setIfInBounds_toArray, List.set_cons_zero, List.set_cons_succ]
    refine takeH (i := 7) (d := (some 47)) (v := ?v23) rfl rfl (by kernel_rfl) (by kernel_rfl) (by kernel_rfl) (fun _ _ _ h => h) (by rfl) ?hy23 (by assumption) ?_
    case hy23 => ((intro w hSw; (try dsimp only at hSw); (try go_split_ands); go_simp); try with_reducible rfl)
    simp only [Act.put, List.setIfInBounds_toArray, List.set_cons_zero, List.set_cons_succ]
    obtain ⟨q, kq⟩ := hHeld.2.2.2
    have fc := cellB kq
    have gc := frozB kq
    refine wpAnyH_ready (rs := [8]) (by kernel_rfl) (by simp) ?_
    refine AllReadyH.cons rfl (fun K hK => ?_) AllReadyH.nil
    go_simp
    obtain ⟨Y2, hY⟩ : ∃ Y, (Y1.setCell ⟨p5, 2, none⟩ (.int .i64 j')).drew = Y := ⟨_, rfl⟩
    have V : Up w Y2 := by rw [← hY]; exact Up.drew (Up.set Vp (by show w.heap.size ≤ p5; omega) _)
    have k2 : mblk Y2 w.heap.size = some (.cells #[.int .i64 f, .int .i64 s, .int .i64 j, .int .i64 dl, .int .i64 dh] 25 (0, 0)) := by rw [← hY, blk_drew, blk_set _ _ _ _ (by show w.heap.size ≠ p5; omega)]; exact hHeld.2.1
    have k3 : mblk Y2 (w.heap.size + 1) = some (.cells #[.int .i64 n0, .int .i64 n1, .int .i64 n2, .int .i64 n3] 65 (0, 0)) := by rw [← hY, blk_drew, blk_set _ _ _ _ (by show w.heap.size + 1 ≠ p5; omega)]; exact hHeld.2.2.1
    have k5 : mblk Y2 p5 = some (.cells #[.int .i64 f', .int .i64 s', .int .i64 j', .int .i64 dl, .int .i64 dh] 25 (0, 0)) := by rw [← hY, blk_drew]; exact blk_put (w := Y1) kq 2 _
    rw [hY]
    refine hK.out _ _ ⟨V, k2, k3, _, k5⟩ (fun _ => ?_)
    clear hK K hY hHeld kq fc gc q Vp
    refine wpAnyH_done (by kernel_rfl) ?_ _
    go_wp2_with fail
    refine wp_region_held_drew (S := fun w' => Up w w' ∧ mblk w' w.heap.size = some (.cells #[.int .i64 f, .int .i64 s, .int .i64 j, .int .i64 dl, .int .i64 dh] 25 (0, 0)) ∧ mblk w' (w.heap.size + 1) = some (.cells #[.int .i64 n0, .int .i64 n1, .int .i64 n2, .int .i64 n3] 65 (0, 0)) ∧ mblk w' p5 = some (.cells #[.int .i64 f', .int .i64 s', .int .i64 j', .int .i64 dl, .int .i64 dh] 25 (0, 0))) (by kernel_rfl) ⟨V.drew, by rw [blk_drew]; exact k2, by rw [blk_drew]; exact k3, by rw [blk_drew]; exact k5⟩ (fun hHeld => ?_)
    clear V k2 k3 k5 hM1 hM2 hM3 w1' w2' w3' HR1 HR2 HR3
    refine takeH (i := 1) (d := (some 49)) (v := ?v25) rfl rfl (by kernel_rfl) (by kernel_rfl) (by kernel_rfl) (fun _ _ _ h => h) (by rfl) ?hy25 (by assumption) ?_
    case hy25 => ((intro w hSw; (try dsimp only at hSw); (try go_split_ands); go_simp); try with_reducible rfl)
    simp only [Act.put, List.setIfInBounds_toArray, List.set_cons_zero, List.set_cons_succ]
    refine takeH (i := 2) (d := (some 50)) (v := ?v26) rfl rfl (by kernel_rfl) (by kernel_rfl) (by kernel_rfl) (fun _ _ _ h => h) (by rfl) ?hy26 (by assumption) ?_
    case hy26 => ((intro w hSw; (try dsimp only at hSw); (try go_split_ands); go_simp); try with_reducible rfl)
    simp only [Act.put, List.setIfInBounds_toArray, List.set_cons_zero, List.set_cons_succ]
    refine wpAnyH_ready (rs := [0]) (by kernel_rfl) (by simp) ?_
    refine AllReadyH.cons rfl (fun K hK => ?_) AllReadyH.nil
    go_simp
    refine (HT.out _).mono ?_
    rintro e w3 ⟨rfl, u3⟩
    go_wp2_with fail
    refine hK.out _ _ ⟨hHeld.1.trans u3, u3.blk hHeld.2.1, u3.blk hHeld.2.2.1, u3.blk hHeld.2.2.2⟩ (fun hHeld => ?_)
    clear hK K u3
    refine wpAnyH_ready (rs := [3]) (by kernel_rfl) (by simp) ?_
    refine AllReadyH.cons rfl (fun K hK => ?_) AllReadyH.nil
    go_simp
    refine (HFr.out _).mono ?_
    rintro e w4 ⟨rfl, u4⟩
    go_wp2_with fail
    refine hK.out _ _ ⟨hHeld.1.trans u4, u4.blk hHeld.2.1, u4.blk hHeld.2.2.1, u4.blk hHeld.2.2.2⟩ (fun hHeld => ?_)
    clear hK K u4 HT HFr
    refine takeH (i := 4) (d := (some 6)) (v := ?v29) rfl rfl (by kernel_rfl) (by kernel_rfl) (by kernel_rfl) (fun _ _ _ h => h) (by rfl) ?hy29 (by assumption) ?_
    case hy29 => ((intro w hSw; (try dsimp only at hSw); (try go_split_ands); go_simp); try with_reducible rfl)
    simp only [Act.put, List.setIfInBounds_toArray, List.set_cons_zero, List.set_cons_succ]
    refine wpAnyH_done (by kernel_rfl) ?_ _
    obtain ⟨V, k2, k3, k5⟩ := hHeld
    go_wp2_with fail
    refine (HFa.out _).mono ?_
    rintro e w5 ⟨rfl, u5⟩
    replace V := V.trans u5
    replace k2 := u5.blk k2
    replace k3 := u5.blk k3
    replace k5 := u5.blk k5
    clear u5 HFa
    go_wp2_with fail
    refine (HFb.out _).mono ?_
    rintro e w6 ⟨rfl, u6⟩
    replace V := V.trans u6
    replace k2 := u6.blk k2
    replace k3 := u6.blk k3
    replace k5 := u6.blk k5
    clear u6 HFb
    rcases hcase with ⟨rfl, rfl, hle⟩ | rfl
    · skip
      have j2 := k2
      obtain ⟨p11, hp11⟩ : ∃ p, w6.heap.size = p := ⟨_, rfl⟩
      obtain ⟨W3, hW3⟩ : ∃ W3, w6.alloc (.cells #[.int .i64 f, .int .i64 s, .int .i64 j, .int .i64 dl, .int .i64 dh] 25) = W3 := ⟨_, rfl⟩
      have V3 : Up w W3 := by rw [← hW3]; exact V.alloc _
      have m2 : mblk W3 w.heap.size = some (.cells #[.int .i64 f, .int .i64 s, .int .i64 j, .int .i64 dl, .int .i64 dh] 25 (0, 0)) := by rw [← hW3]; exact blk_keep _ k2
      have m3 : mblk W3 (w.heap.size + 1) = some (.cells #[.int .i64 n0, .int .i64 n1, .int .i64 n2, .int .i64 n3] 65 (0, 0)) := by rw [← hW3]; exact blk_keep _ k3
      have m11 : mblk W3 p11 = some (.cells #[.int .i64 f, .int .i64 s, .int .i64 j, .int .i64 dl, .int .i64 dh] 25 (0, 0)) := by rw [← hW3]; exact blk_new _ _ _ hp11.symm
      have l11 : w.heap.size + 1 < p11 := by have := blk_lt k3; omega
      clear k3 k5 V
      go_wp2_with fail
      clear hW3 hp11 j2 k2
      refine wp_region_held_drew (S := fun w' => Up w w' ∧ mblk w' w.heap.size = some (.cells #[.int .i64 f, .int .i64 s, .int .i64 j, .int .i64 dl, .int .i64 dh] 25 (0, 0)) ∧ ∃ q : Value × Value, mblk w' p11 = some (.cells #[q.1, q.2, .int .i64 j, .int .i64 dl, .int .i64 dh] 25 (0, 0))) (by kernel_rfl) ⟨V3.drew, by rw [blk_drew]; exact m2, (_, _), by rw [blk_drew]; exact m11⟩ (fun hHeld => ?_)
      refine takeH (i := 0) (d := (some 84)) (v := ?v30) rfl rfl (by kernel_rfl) (by kernel_rfl) (by kernel_rfl) (fun _ _ _ h => h) (by rfl) ?hy30 (by assumption) ?_
      case hy30 => ((intro w hSw; (try dsimp only at hSw); (try go_split_ands); go_simp); try with_reducible rfl)
      simp only [Act.put, List.setIfInBounds_toArray, List.set_cons_zero, List.set_cons_succ]
      refine takeH (i := 2) (d := (some 86)) (v := ?v31) rfl rfl (by kernel_rfl) (by kernel_rfl) (by kernel_rfl) (fun _ _ _ h => h) (by rfl) ?hy31 (by assumption) ?_
      case hy31 => ((intro w hSw; (try dsimp only at hSw); (try go_split_ands); go_simp); try with_reducible rfl)
      simp only [Act.put, List.setIfInBounds_toArray, List.set_cons_zero, List.set_cons_succ]
      refine takeH (i := 1) (d := (some 85)) (v := ?v32) rfl rfl (by kernel_rfl) (by kernel_rfl) (by kernel_rfl) (fun _ _ _ h => h) (by rfl) ?hy32 (by assumption) ?_
      case hy32 => ((intro w hSw; (try dsimp only at hSw); (try go_split_ands); go_simp); try with_reducible rfl)
      simp only [Act.put, List.setIfInBounds_toArray, List.set_cons_zero, List.set_cons_succ]
      refine takeH (i := 3) (d := (some 87)) (v := ?v33) rfl rfl (by kernel_rfl) (by kernel_rfl) (by kernel_rfl) (fun _ _ _ h => h) (by rfl) ?hy33 (by assumption) ?_
      case hy33 => ((intro w hSw; (try dsimp only at hSw); (try go_split_ands); go_simp); try with_reducible rfl)
      simp only [Act.put, List.setIfInBounds_toArray, List.set_cons_zero, List.set_cons_succ]
      refine takeH (i := 4) (d := (some 88)) (v := ?v34) rfl rfl (by kernel_rfl) (by kernel_rfl) (by kernel_rfl) (fun _ _ _ h => h) (by rfl) ?hy34 (by assumption) ?_
      case hy34 => ((intro w hSw; (try dsimp only at hSw); (try go_split_ands); go_simp); try with_reducible rfl)
      simp only [Act.put, List.setIfInBounds_toArray, List.set_cons_zero, List.set_cons_succ]
      have fc := cellB m11
      have gc := frozB m11
      obtain ⟨Z0, hZ0⟩ : ∃ Y, (W3.setCell ⟨p11, 0, none⟩ (.int .i64 s)).drew = Y := ⟨_, rfl⟩
      have V4 : Up w Z0 := by rw [← hZ0]; exact Up.drew (Up.set V3 (by show w.heap.size ≤ p11; omega) _)
      have n2' : mblk Z0 w.heap.size = some (.cells #[.int .i64 f, .int .i64 s, .int .i64 j, .int .i64 dl, .int .i64 dh] 25 (0, 0)) := by rw [← hZ0, blk_drew, blk_set _ _ _ _ (by show w.heap.size ≠ p11; omega)]; exact m2
      have n3' : mblk Z0 (w.heap.size + 1) = some (.cells #[.int .i64 n0, .int .i64 n1, .int .i64 n2, .int .i64 n3] 65 (0, 0)) := by rw [← hZ0, blk_drew, blk_set _ _ _ _ (by show w.heap.size + 1 ≠ p11; omega)]; exact m3
      have n11 : mblk Z0 p11 = some (.cells #[.int .i64 s, .int .i64 s, .int .i64 j, .int .i64 dl, .int .i64 dh] 25 (0, 0)) := by rw [← hZ0, blk_drew]; exact blk_put (w := W3) m11 0 _
      refine wpAnyH_ready (rs := [5]) (by kernel_rfl) (by simp) ?_
      refine AllReadyH.cons rfl (fun K hK => ?_) AllReadyH.nil
      go_simp
      try rw [hZ0]
      refine hK.out _ _ ⟨V4, n2', (_, _), n11⟩ (fun hHeld => ?_)
      clear hK K hZ0 fc gc m2 m3 m11 V3
      refine takeH (i := 6) (d := (some 89)) (v := ?v36) rfl rfl (by kernel_rfl) (by kernel_rfl) (by kernel_rfl) (fun _ _ _ h => h) (by rfl) ?hy36 (by assumption) ?_
      case hy36 => ((intro w hSw; (try dsimp only at hSw); (try go_split_ands); go_simp); try with_reducible rfl)
      simp only [Act.put, List.setIfInBounds_toArray, List.set_cons_zero, List.set_cons_succ]
      have fc := cellB n11
      have gc := frozB n11
      obtain ⟨Z1, hZ1⟩ : ∃ Y, Z0.setCell ⟨p11, 1, none⟩ (.int .i64 f) = Y := ⟨_, rfl⟩
      have V5 : Up w Z1 := by rw [← hZ1]; exact Up.set V4 (by show w.heap.size ≤ p11; omega) _
      have m2 : mblk Z1 w.heap.size = some (.cells #[.int .i64 f, .int .i64 s, .int .i64 j, .int .i64 dl, .int .i64 dh] 25 (0, 0)) := by rw [← hZ1, blk_set _ _ _ _ (by show w.heap.size ≠ p11; omega)]; exact n2'
      have m3 : mblk Z1 (w.heap.size + 1) = some (.cells #[.int .i64 n0, .int .i64 n1, .int .i64 n2, .int .i64 n3] 65 (0, 0)) := by rw [← hZ1, blk_set _ _ _ _ (by show w.heap.size + 1 ≠ p11; omega)]; exact n3'
      have m11 : mblk Z1 p11 = some (.cells #[.int .i64 s, .int .i64 f, .int .i64 j, .int .i64 dl, .int .i64 dh] 25 (0, 0)) := by rw [← hZ1]; exact blk_put n11 1 _
      refine wpAnyH_ready (rs := [7]) (by kernel_rfl) (by simp) ?_
      refine AllReadyH.cons rfl (fun K hK => ?_) AllReadyH.nil
      go_simp
      try rw [hZ1]
      refine hK.out _ _ ⟨V5, m2, (_, _), m11⟩ (fun _ => ?_)
      clear hK K hZ1 fc gc n2' n3' n11 V4 hHeld
      refine wpAnyH_done (by kernel_rfl) ?_ _
      go_wp2_with fail
      refine (HR4.out _).mono ?_
      rintro e x9 ⟨rfl, rfl⟩
      go_wp2_with fail
      refine (HS1.out _).mono ?_
      rintro e w7 ⟨rfl, u7⟩
      have m13 := blk_new w7 (.cells #[.int .i64 (-ms), .int .i64 mf] 23) _ rfl
      replace V5 := (V5.trans u7).alloc (.cells #[.int .i64 (-ms), .int .i64 mf] 23)
      replace m11 := blk_keep (.cells #[.int .i64 (-ms), .int .i64 mf] 23) (u7.blk m11)
      clear u7 m2 m3 HS1 HR4
      go_wp2_with fail
      refine (HS2.out _).mono ?_
      rintro e w8 ⟨rfl, u8⟩
      have m15 := blk_new w8 (.cells #[.int .i64 (-mf), .int .i64 ms] 23) _ rfl
      replace V5 := (V5.trans u8).alloc (.cells #[.int .i64 (-mf), .int .i64 ms] 23)
      have lt11 := blk_lt (u8.blk m11)
      replace m11 := blk_keep (.cells #[.int .i64 (-mf), .int .i64 ms] 23) (u8.blk m11)
      replace m13 := blk_keep (.cells #[.int .i64 (-mf), .int .i64 ms] 23) (u8.blk m13)
      clear u8 HS2
      go_wp2_with fail
      refine (HFc.out _).mono ?_
      rintro e w9 ⟨rfl, u9⟩
      replace V5 := V5.trans u9
      replace m13 := u9.blk m13
      replace m15 := u9.blk m15
      clear u9 m11 lt11 HFc
      obtain ⟨p13, hp13⟩ : ∃ p, w7.heap.size = p := ⟨_, rfl⟩
      obtain ⟨p15, hp15⟩ : ∃ p, w8.heap.size = p := ⟨_, rfl⟩
      rw [hp13] at m13 ⊢
      rw [hp15] at m15 ⊢
      clear hp13 hp15
      go_wp2_with fail
      refine wp_region_held_drew (S := fun w' => Up w w' ∧ mblk w' p13 = some (.cells #[.int .i64 (-ms), .int .i64 mf] 23 (0, 0)) ∧ mblk w' p15 = some (.cells #[.int .i64 (-mf), .int .i64 ms] 23 (0, 0))) (by kernel_rfl) ⟨V5.drew, by rw [blk_drew]; exact m13, by rw [blk_drew]; exact m15⟩ (fun hHeld => ?_)
      clear V5 m13 m15
      refine takeH (i := 0) (d := (some 112)) (v := ?v38) rfl rfl (by kernel_rfl) (by kernel_rfl) (by kernel_rfl) (fun _ _ _ h => h) (by rfl) ?hy38 (by assumption) ?_
      case hy38 => ((intro w hSw; (try dsimp only at hSw); (try go_split_ands); go_simp); try with_reducible rfl)
      simp only [Act.put, List.setIfInBounds_toArray, List.set_cons_zero, List.set_cons_succ]
      refine takeH (i := 1) (d := (some 113)) (v := ?v39) rfl rfl (by kernel_rfl) (by kernel_rfl) (by kernel_rfl) (fun _ _ _ h => h) (by rfl) ?hy39 (by assumption) ?_
      case hy39 => ((intro w hSw; (try dsimp only at hSw); (try go_split_ands); go_simp); try with_reducible rfl)
      simp only [Act.put, List.setIfInBounds_toArray, List.set_cons_zero, List.set_cons_succ]
      refine takeH (i := 2) (d := (some 114)) (v := ?v40) rfl rfl (by kernel_rfl) (by kernel_rfl) (by kernel_rfl) (fun _ _ _ h => h) (by rfl) ?hy40 (by assumption) ?_
      case hy40 => ((intro w hSw; (try dsimp only at hSw); (try go_split_ands); go_simp); try with_reducible rfl)
      simp only [Act.put, List.setIfInBounds_toArray, List.set_cons_zero, List.set_cons_succ]
      refine takeH (i := 3) (d := (some 115)) (v := ?v41) rfl rfl (by kernel_rfl) (by kernel_rfl) (by kernel_rfl) (fun _ _ _ h => h) (by rfl) ?hy41 (by assumption) ?_
      case hy41 => ((intro w hSw; (try dsimp only at hSw); (try go_split_ands); go_simp); try with_reducible rfl)
      simp only [Act.put, List.setIfInBounds_toArray, List.set_cons_zero, List.set_cons_succ]
      refine takeH (i := 4) (d := (some 116)) (v := ?v42) rfl rfl (by kernel_rfl) (by kernel_rfl) (by kernel_rfl) (fun _ _ _ h => h) (by rfl) ?hy42 (by assumption) ?_
      case hy42 => ((intro w hSw; (try dsimp only at hSw); (try go_split_ands); go_simp); try with_reducible rfl)
      simp only [Act.put, List.setIfInBounds_toArray, List.set_cons_zero, List.set_cons_succ]
      refine takeH (i := 5) (d := (some 117)) (v := ?v43) rfl rfl (by kernel_rfl) (by kernel_rfl) (by kernel_rfl) (fun _ _ _ h => h) (by rfl) ?hy43 (by assumption) ?_
      case hy43 => ((intro w hSw; (try dsimp only at hSw); (try go_split_ands); go_simp); try with_reducible rfl)
      simp only [Act.put, List.setIfInBounds_toArray, List.set_cons_zero, List.set_cons_succ]
      refine takeH (i := 6) (d := (some 118)) (v := ?v44) rfl rfl (by kernel_rfl) (by kernel_rfl) (by kernel_rfl) (fun _ _ _ h => h) (by rfl) ?hy44 (by assumption) ?_
      case hy44 => ((intro w hSw; (try dsimp only at hSw); (try go_split_ands); go_simp); try with_reducible rfl)
      simp only [Act.put, List.setIfInBounds_toArray, List.set_cons_zero, List.set_cons_succ]
      refine takeH (i := 7) (d := (some 119)) (v := ?v45) rfl rfl (by kernel_rfl) (by kernel_rfl) (by kernel_rfl) (fun _ _ _ h => h) (by rfl) ?hy45 (by assumption) ?_
      case hy45 => ((intro w hSw; (try dsimp only at hSw); (try go_split_ands); go_simp); try with_reducible rfl)
      simp only [Act.put, List.setIfInBounds_toArray, List.set_cons_zero, List.set_cons_succ]
      refine takeH (i := 8) (d := (some 120)) (v := ?v46) rfl rfl (by kernel_rfl) (by kernel_rfl) (by kernel_rfl) (fun _ _ _ h => h) (by rfl) ?hy46 (by assumption) ?_
      case hy46 => ((intro w hSw; (try dsimp only at hSw); (try go_split_ands); go_simp); try with_reducible rfl)
      simp only [Act.put, List.setIfInBounds_toArray, List.set_cons_zero, List.set_cons_succ]
      refine takeH (i := 11) (d := (some 123)) (v := ?v47) rfl rfl (by kernel_rfl) (by kernel_rfl) (by kernel_rfl) (fun _ _ _ h => h) (by rfl) ?hy47 (by assumption) ?_
      case hy47 => ((intro w hSw; (try dsimp only at hSw); (try go_split_ands); go_simp); try with_reducible rfl)
      simp only [Act.put, List.setIfInBounds_toArray, List.set_cons_zero, List.set_cons_succ]
      refine takeH (i := 9) (d := (some 121)) (v := ?v48) rfl rfl (by kernel_rfl) (by kernel_rfl) (by kernel_rfl) (fun _ _ _ h => h) (by rfl) ?hy48 (by assumption) ?_
      case hy48 => ((intro w hSw; (try dsimp only at hSw); (try go_split_ands); go_simp); try with_reducible rfl)
      simp only [Act.put, List.setIfInBounds_toArray, List.set_cons_zero, List.set_cons_succ]
      refine takeH (i := 12) (d := (some 124)) (v := ?v49) rfl rfl (by kernel_rfl) (by kernel_rfl) (by kernel_rfl) (fun _ _ _ h => h) (by rfl) ?hy49 (by assumption) ?_
      case hy49 => ((intro w hSw; (try dsimp only at hSw); (try go_split_ands); go_simp); try with_reducible rfl)
      simp only [Act.put, List.setIfInBounds_toArray, List.set_cons_zero, List.set_cons_succ]
      refine takeH (i := 10) (d := (some 122)) (v := ?v50) rfl rfl (by kernel_rfl) (by kernel_rfl) (by kernel_rfl) (fun _ _ _ h => h) (by rfl) ?hy50 (by assumption) ?_
      case hy50 => ((intro w hSw; (try dsimp only at hSw); (try go_split_ands); go_simp); try with_reducible rfl)
      simp only [Act.put, List.setIfInBounds_toArray, List.set_cons_zero, List.set_cons_succ]
      refine takeH (i := 13) (d := (some 125)) (v := ?v51) rfl rfl (by kernel_rfl) (by kernel_rfl) (by kernel_rfl) (fun _ _ _ h => h) (by rfl) ?hy51 (by assumption) ?_
      case hy51 => ((intro w hSw; (try dsimp only at hSw); (try go_split_ands); go_simp); try with_reducible rfl)
      simp only [Act.put, List.setIfInBounds_toArray, List.set_cons_zero, List.set_cons_succ]
      refine wpAnyH_ready (rs := [14]) (by kernel_rfl) (by simp) ?_
      refine AllReadyH.cons rfl (fun K hK => ?_) AllReadyH.nil
      go_simp
      refine (HT2.out _).mono ?_
      rintro e w10 ⟨rfl, u10⟩
      go_wp2_with fail
      refine hK.out _ _ ⟨hHeld.1.trans u10, u10.blk hHeld.2.1, u10.blk hHeld.2.2⟩ (fun hHeld => ?_)
      clear hK K u10 HT2
      refine takeH (i := 15) (d := (some 127)) (v := ?v53) rfl rfl (by kernel_rfl) (by kernel_rfl) (by kernel_rfl) (fun _ _ _ h => h) (by rfl) ?hy53 (by assumption) ?_
      case hy53 => ((intro w hSw; (try dsimp only at hSw); (try go_split_ands); go_simp); try with_reducible rfl)
      simp only [Act.put, List.setIfInBounds_toArray, List.set_cons_zero, List.set_cons_succ]
      refine takeH (i := 16) (d := (some 128)) (v := ?v54) rfl rfl (by kernel_rfl) (by kernel_rfl) (by kernel_rfl) (fun _ _ _ h => h) (by rfl) ?hy54 (by assumption) ?_
      case hy54 => ((intro w hSw; (try dsimp only at hSw); (try go_split_ands); go_simp); try with_reducible rfl)
      simp only [Act.put, List.setIfInBounds_toArray, List.set_cons_zero, List.set_cons_succ]
      refine takeH (i := 17) (d := (some 129)) (v := ?v55) rfl rfl (by kernel_rfl) (by kernel_rfl) (by kernel_rfl) (fun _ _ _ h => h) (by rfl) ?hy55 (by assumption) ?_
      case hy55 => ((intro w hSw; (try dsimp only at hSw); (try go_split_ands); go_simp); try with_reducible rfl)
      simp only [Act.put, List.setIfInBounds_toArray, List.set_cons_zero, List.set_cons_succ]
      refine takeH (i := 18) (d := (some 130)) (v := ?v56) rfl rfl (by kernel_rfl) (by kernel_rfl) (by kernel_rfl) (fun _ _ _ h => h) (by rfl) ?hy56 (by assumption) ?_
      case hy56 => ((intro w hSw; (try dsimp only at hSw); (try go_split_ands); go_simp); try with_reducible rfl)
      simp only [Act.put, List.setIfInBounds_toArray, List.set_cons_zero, List.set_cons_succ]
      refine takeH (i := 19) (d := (some 131)) (v := ?v57) rfl rfl (by kernel_rfl) (by kernel_rfl) (by kernel_rfl) (fun _ _ _ h => h) (by rfl) ?hy57 (by assumption) ?_
      case hy57 => ((intro w hSw; (try dsimp only at hSw); (try go_split_ands); go_simp); try with_reducible rfl)
      simp only [Act.put, List.setIfInBounds_toArray, List.set_cons_zero, List.set_cons_succ]
      refine takeH (i := 20) (d := (some 132)) (v := ?v58) rfl rfl (by kernel_rfl) (by kernel_rfl) (by kernel_rfl) (fun _ _ _ h => h) (by rfl) ?hy58 (by assumption) ?_
      case hy58 => ((intro w hSw; (try dsimp only at hSw); (try go_split_ands); go_simp); try with_reducible rfl)
      simp only [Act.put, List.setIfInBounds_toArray, List.set_cons_zero, List.set_cons_succ]
      refine takeH (i := 21) (d := (some 133)) (v := ?v59) rfl rfl (by kernel_rfl) (by kernel_rfl) (by kernel_rfl) (fun _ _ _ h => h) (by rfl) ?hy59 (by assumption) ?_
      case hy59 => ((intro w hSw; (try dsimp only at hSw); (try go_split_ands); go_simp); try with_reducible rfl)
      simp only [Act.put, List.setIfInBounds_toArray, List.set_cons_zero, List.set_cons_succ]
      refine takeH (i := 22) (d := (some 134)) (v := ?v60) rfl rfl (by kernel_rfl) (by kernel_rfl) (by kernel_rfl) (fun _ _ _ h => h) (by rfl) ?hy60 (by assumption) ?_
      case hy60 => ((intro w hSw; (try dsimp only at hSw); (try go_split_ands); go_simp); try with_reducible rfl)
      simp only [Act.put, List.setIfInBounds_toArray, List.set_cons_zero, List.set_cons_succ]
      refine takeH (i := 23) (d := (some 135)) (v := ?v61) rfl rfl (by kernel_rfl) (by kernel_rfl) (by kernel_rfl) (fun _ _ _ h => h) (by rfl) ?hy61 (by assumption) ?_
      case hy61 => ((intro w hSw; (try dsimp only at hSw); (try go_split_ands); go_simp); try with_reducible rfl)
      simp only [Act.put, List.setIfInBounds_toArray, List.set_cons_zero, List.set_cons_succ]
      refine takeH (i := 24) (d := (some 136)) (v := ?v62) rfl rfl (by kernel_rfl) (by kernel_rfl) (by kernel_rfl) (fun _ _ _ h => h) (by rfl) ?hy62 (by assumption) ?_
      case hy62 => ((intro w hSw; (try dsimp only at hSw); (try go_split_ands); go_simp); try with_reducible rfl)
      simp only [Act.put, List.setIfInBounds_toArray, List.set_cons_zero, List.set_cons_succ]
      refine takeH (i := 25) (d := (some 137)) (v := ?v63) rfl rfl (by kernel_rfl) (by kernel_rfl) (by kernel_rfl) (fun _ _ _ h => h) (by rfl) ?hy63 (by assumption) ?_
      case hy63 => ((intro w hSw; (try dsimp only at hSw); (try go_split_ands); go_simp); try with_reducible rfl)
      simp only [Act.put, List.setIfInBounds_toArray, List.set_cons_zero, List.set_cons_succ]
      refine takeH (i := 26) (d := (some 138)) (v := ?v64) rfl rfl (by kernel_rfl) (by kernel_rfl) (by kernel_rfl) (fun _ _ _ h => h) (by rfl) ?hy64 (by assumption) ?_
      case hy64 => ((intro w hSw; (try dsimp only at hSw); (try go_split_ands); go_simp); try with_reducible rfl)
      simp only [Act.put, List.setIfInBounds_toArray, List.set_cons_zero, List.set_cons_succ]
      refine takeH (i := 27) (d := (some 139)) (v := ?v65) rfl rfl (by kernel_rfl) (by kernel_rfl) (by kernel_rfl) (fun _ _ _ h => h) (by rfl) ?hy65 (by assumption) ?_
      case hy65 => ((intro w hSw; (try dsimp only at hSw); (try go_split_ands); go_simp); try with_reducible rfl)
      simp only [Act.put, List.setIfInBounds_toArray, List.set_cons_zero, List.set_cons_succ]
      refine wpAnyH_ready (rs := [28]) (by kernel_rfl) (by simp) ?_
      refine AllReadyH.cons rfl (fun K hK => ?_) AllReadyH.nil
      go_simp
      refine (HW.out _).mono ?_
      rintro e w11 ⟨rfl, u11⟩
      go_wp2_with fail
      refine hK.out _ _ ⟨hHeld.1.trans u11, u11.blk hHeld.2.1, u11.blk hHeld.2.2⟩ (fun hHeld => ?_)
      clear hK K u11 HW
      refine takeH (i := 29) (d := (some 141)) (v := ?v67) rfl rfl (by kernel_rfl) (by kernel_rfl) (by kernel_rfl) (fun _ _ _ h => h) (by rfl) ?hy67 (by assumption) ?_
      case hy67 => ((intro w hSw; (try dsimp only at hSw); (try go_split_ands); go_simp); try with_reducible rfl)
      simp only [Act.put, List.setIfInBounds_toArray, List.set_cons_zero, List.set_cons_succ]
      refine takeH (i := 30) (d := (some 4)) (v := ?v68) rfl rfl (by kernel_rfl) (by kernel_rfl) (by kernel_rfl) (fun _ _ _ h => h) (by rfl) ?hy68 (by assumption) ?_
      case hy68 => ((intro w hSw; (try dsimp only at hSw); (try go_split_ands); go_simp); try with_reducible rfl)
      simp only [Act.put, List.setIfInBounds_toArray, List.set_cons_zero, List.set_cons_succ]
      refine wpAnyH_done (by kernel_rfl) ?_ _
      go_wp2
      go_ret
      exact ⟨rfl, hHeld.1⟩

    · skip
      have j2 := k2
      obtain ⟨p11, hp11⟩ : ∃ p, w6.heap.size = p := ⟨_, rfl⟩
      obtain ⟨W3, hW3⟩ : ∃ W3, w6.alloc (.cells #[.int .i64 f, .int .i64 s, .int .i64 j, .int .i64 dl, .int .i64 dh] 25) = W3 := ⟨_, rfl⟩
      have V3 : Up w W3 := by rw [← hW3]; exact V.alloc _
      have m2 : mblk W3 w.heap.size = some (.cells #[.int .i64 f, .int .i64 s, .int .i64 j, .int .i64 dl, .int .i64 dh] 25 (0, 0)) := by rw [← hW3]; exact blk_keep _ k2
      have m3 : mblk W3 (w.heap.size + 1) = some (.cells #[.int .i64 n0, .int .i64 n1, .int .i64 n2, .int .i64 n3] 65 (0, 0)) := by rw [← hW3]; exact blk_keep _ k3
      have m11 : mblk W3 p11 = some (.cells #[.int .i64 f, .int .i64 s, .int .i64 j, .int .i64 dl, .int .i64 dh] 25 (0, 0)) := by rw [← hW3]; exact blk_new _ _ _ hp11.symm
      have l11 : w.heap.size + 1 < p11 := by have := blk_lt k3; omega
      clear k3 k5 V
      go_wp2_with fail
      clear hW3 hp11 j2 k2
      refine wp_region_held_drew (S := fun w' => Up w w' ∧ mblk w' w.heap.size = some (.cells #[.int .i64 f, .int .i64 s, .int .i64 j, .int .i64 dl, .int .i64 dh] 25 (0, 0)) ∧ ∃ q : Value × Value, mblk w' p11 = some (.cells #[q.1, q.2, .int .i64 j, .int .i64 dl, .int .i64 dh] 25 (0, 0))) (by kernel_rfl) ⟨V3.drew, by rw [blk_drew]; exact m2, (_, _), by rw [blk_drew]; exact m11⟩ (fun hHeld => ?_)
      refine takeH (i := 0) (d := (some 84)) (v := ?v69) rfl rfl (by kernel_rfl) (by kernel_rfl) (by kernel_rfl) (fun _ _ _ h => h) (by rfl) ?hy69 (by assumption) ?_
      case hy69 => ((intro w hSw; (try dsimp only at hSw); (try go_split_ands); go_simp); try with_reducible rfl)
      simp only [Act.put, List.setIfInBounds_toArray, List.set_cons_zero, List.set_cons_succ]
      refine takeH (i := 2) (d := (some 86)) (v := ?v70) rfl rfl (by kernel_rfl) (by kernel_rfl) (by kernel_rfl) (fun _ _ _ h => h) (by rfl) ?hy70 (by assumption) ?_
      case hy70 => ((intro w hSw; (try dsimp only at hSw); (try go_split_ands); go_simp); try with_reducible rfl)
      simp only [Act.put, List.setIfInBounds_toArray, List.set_cons_zero, List.set_cons_succ]
      refine takeH (i := 1) (d := (some 85)) (v := ?v71) rfl rfl (by kernel_rfl) (by kernel_rfl) (by kernel_rfl) (fun _ _ _ h => h) (by rfl) ?hy71 (by assumption) ?_
      case hy71 => ((intro w hSw; (try dsimp only at hSw); (try go_split_ands); go_simp); try with_reducible rfl)
      simp only [Act.put, List.setIfInBounds_toArray, List.set_cons_zero, List.set_cons_succ]
      refine takeH (i := 3) (d := (some 87)) (v := ?v72) rfl rfl (by kernel_rfl) (by kernel_rfl) (by kernel_rfl) (fun _ _ _ h => h) (by rfl) ?hy72 (by assumption) ?_
      case hy72 => ((intro w hSw; (try dsimp only at hSw); (try go_split_ands); go_simp); try with_reducible rfl)
      simp only [Act.put, List.setIfInBounds_toArray, List.set_cons_zero, List.set_cons_succ]
      refine takeH (i := 4) (d := (some 88)) (v := ?v73) rfl rfl (by kernel_rfl) (by kernel_rfl) (by kernel_rfl) (fun _ _ _ h => h) (by rfl) ?hy73 (by assumption) ?_
      case hy73 => ((intro w hSw; (try dsimp only at hSw); (try go_split_ands); go_simp); try with_reducible rfl)
      simp only [Act.put, List.setIfInBounds_toArray, List.set_cons_zero, List.set_cons_succ]
      have fc := cellB m11
      have gc := frozB m11
      obtain ⟨Z0, hZ0⟩ : ∃ Y, (W3.setCell ⟨p11, 0, none⟩ (.int .i64 s)).drew = Y := ⟨_, rfl⟩
      have V4 : Up w Z0 := by rw [← hZ0]; exact Up.drew (Up.set V3 (by show w.heap.size ≤ p11; omega) _)
      have n2' : mblk Z0 w.heap.size = some (.cells #[.int .i64 f, .int .i64 s, .int .i64 j, .int .i64 dl, .int .i64 dh] 25 (0, 0)) := by rw [← hZ0, blk_drew, blk_set _ _ _ _ (by show w.heap.size ≠ p11; omega)]; exact m2
      have n3' : mblk Z0 (w.heap.size + 1) = some (.cells #[.int .i64 n0, .int .i64 n1, .int .i64 n2, .int .i64 n3] 65 (0, 0)) := by rw [← hZ0, blk_drew, blk_set _ _ _ _ (by show w.heap.size + 1 ≠ p11; omega)]; exact m3
      have n11 : mblk Z0 p11 = some (.cells #[.int .i64 s, .int .i64 s, .int .i64 j, .int .i64 dl, .int .i64 dh] 25 (0, 0)) := by rw [← hZ0, blk_drew]; exact blk_put (w := W3) m11 0 _
      refine wpAnyH_ready (rs := [5]) (by kernel_rfl) (by simp) ?_
      refine AllReadyH.cons rfl (fun K hK => ?_) AllReadyH.nil
      go_simp
      try rw [hZ0]
      refine hK.out _ _ ⟨V4, n2', (_, _), n11⟩ (fun hHeld => ?_)
      clear hK K hZ0 fc gc m2 m3 m11 V3
      refine takeH (i := 6) (d := (some 89)) (v := ?v75) rfl rfl (by kernel_rfl) (by kernel_rfl) (by kernel_rfl) (fun _ _ _ h => h) (by rfl) ?hy75 (by assumption) ?_
      case hy75 => ((intro w hSw; (try dsimp only at hSw); (try go_split_ands); go_simp); try with_reducible rfl)
      simp only [Act.put, List.setIfInBounds_toArray, List.set_cons_zero, List.set_cons_succ]
      have fc := cellB n11
      have gc := frozB n11
      obtain ⟨Z1, hZ1⟩ : ∃ Y, Z0.setCell ⟨p11, 1, none⟩ (.int .i64 f) = Y := ⟨_, rfl⟩
      have V5 : Up w Z1 := by rw [← hZ1]; exact Up.set V4 (by show w.heap.size ≤ p11; omega) _
      have m2 : mblk Z1 w.heap.size = some (.cells #[.int .i64 f, .int .i64 s, .int .i64 j, .int .i64 dl, .int .i64 dh] 25 (0, 0)) := by rw [← hZ1, blk_set _ _ _ _ (by show w.heap.size ≠ p11; omega)]; exact n2'
      have m3 : mblk Z1 (w.heap.size + 1) = some (.cells #[.int .i64 n0, .int .i64 n1, .int .i64 n2, .int .i64 n3] 65 (0, 0)) := by rw [← hZ1, blk_set _ _ _ _ (by show w.heap.size + 1 ≠ p11; omega)]; exact n3'
      have m11 : mblk Z1 p11 = some (.cells #[.int .i64 s, .int .i64 f, .int .i64 j, .int .i64 dl, .int .i64 dh] 25 (0, 0)) := by rw [← hZ1]; exact blk_put n11 1 _
      refine wpAnyH_ready (rs := [7]) (by kernel_rfl) (by simp) ?_
      refine AllReadyH.cons rfl (fun K hK => ?_) AllReadyH.nil
      go_simp
      try rw [hZ1]
      refine hK.out _ _ ⟨V5, m2, (_, _), m11⟩ (fun _ => ?_)
      clear hK K hZ1 fc gc n2' n3' n11 V4 hHeld
      refine wpAnyH_done (by kernel_rfl) ?_ _
      go_wp2_with fail
      refine (HR4.out _).mono ?_
      rintro e x9 ⟨rfl, rfl⟩
      go_wp2_with fail
      refine (HS1.out _).mono ?_
      rintro e w7 ⟨rfl, u7⟩
      have m13 := blk_new w7 (.cells #[.int .i64 (-ms), .int .i64 mf] 23) _ rfl
      replace V5 := (V5.trans u7).alloc (.cells #[.int .i64 (-ms), .int .i64 mf] 23)
      replace m11 := blk_keep (.cells #[.int .i64 (-ms), .int .i64 mf] 23) (u7.blk m11)
      clear u7 m2 m3 HS1 HR4
      go_wp2_with fail
      refine (HS2.out _).mono ?_
      rintro e w8 ⟨rfl, u8⟩
      have m15 := blk_new w8 (.cells #[.int .i64 (-mf), .int .i64 ms] 23) _ rfl
      replace V5 := (V5.trans u8).alloc (.cells #[.int .i64 (-mf), .int .i64 ms] 23)
      have lt11 := blk_lt (u8.blk m11)
      replace m11 := blk_keep (.cells #[.int .i64 (-mf), .int .i64 ms] 23) (u8.blk m11)
      replace m13 := blk_keep (.cells #[.int .i64 (-mf), .int .i64 ms] 23) (u8.blk m13)
      clear u8 HS2
      go_wp2_with fail
      refine (HFc.out _).mono ?_
      rintro e w9 ⟨rfl, u9⟩
      replace V5 := V5.trans u9
      replace m13 := u9.blk m13
      replace m15 := u9.blk m15
      clear u9 m11 lt11 HFc
      obtain ⟨p13, hp13⟩ : ∃ p, w7.heap.size = p := ⟨_, rfl⟩
      obtain ⟨p15, hp15⟩ : ∃ p, w8.heap.size = p := ⟨_, rfl⟩
      rw [hp13] at m13 ⊢
      rw [hp15] at m15 ⊢
      clear hp13 hp15
      go_wp2_with fail
      refine wp_region_held_drew (S := fun w' => Up w w' ∧ mblk w' p13 = some (.cells #[.int .i64 (-ms), .int .i64 mf] 23 (0, 0)) ∧ mblk w' p15 = some (.cells #[.int .i64 (-mf), .int .i64 ms] 23 (0, 0))) (by kernel_rfl) ⟨V5.drew, by rw [blk_drew]; exact m13, by rw [blk_drew]; exact m15⟩ (fun hHeld => ?_)
      clear V5 m13 m15
      refine takeH (i := 0) (d := (some 112)) (v := ?v77) rfl rfl (by kernel_rfl) (by kernel_rfl) (by kernel_rfl) (fun _ _ _ h => h) (by rfl) ?hy77 (by assumption) ?_
      case hy77 => ((intro w hSw; (try dsimp only at hSw); (try go_split_ands); go_simp); try with_reducible rfl)
      simp only [Act.put, List.setIfInBounds_toArray, List.set_cons_zero, List.set_cons_succ]
      refine takeH (i := 1) (d := (some 113)) (v := ?v78) rfl rfl (by kernel_rfl) (by kernel_rfl) (by kernel_rfl) (fun _ _ _ h => h) (by rfl) ?hy78 (by assumption) ?_
      case hy78 => ((intro w hSw; (try dsimp only at hSw); (try go_split_ands); go_simp); try with_reducible rfl)
      simp only [Act.put, List.setIfInBounds_toArray, List.set_cons_zero, List.set_cons_succ]
      refine takeH (i := 2) (d := (some 114)) (v := ?v79) rfl rfl (by kernel_rfl) (by kernel_rfl) (by kernel_rfl) (fun _ _ _ h => h) (by rfl) ?hy79 (by assumption) ?_
      case hy79 => ((intro w hSw; (try dsimp only at hSw); (try go_split_ands); go_simp); try with_reducible rfl)
      simp only [Act.put, List.setIfInBounds_toArray, List.set_cons_zero, List.set_cons_succ]
      refine takeH (i := 3) (d := (some 115)) (v := ?v80) rfl rfl (by kernel_rfl) (by kernel_rfl) (by kernel_rfl) (fun _ _ _ h => h) (by rfl) ?hy80 (by assumption) ?_
      case hy80 => ((intro w hSw; (try dsimp only at hSw); (try go_split_ands); go_simp); try with_reducible rfl)
      simp only [Act.put, List.setIfInBounds_toArray, List.set_cons_zero, List.set_cons_succ]
      refine takeH (i := 4) (d := (some 116)) (v := ?v81) rfl rfl (by kernel_rfl) (by kernel_rfl) (by kernel_rfl) (fun _ _ _ h => h) (by rfl) ?hy81 (by assumption) ?_
      case hy81 => ((intro w hSw; (try dsimp only at hSw); (try go_split_ands); go_simp); try with_reducible rfl)
      simp only [Act.put, List.setIfInBounds_toArray, List.set_cons_zero, List.set_cons_succ]
      refine takeH (i := 5) (d := (some 117)) (v := ?v82) rfl rfl (by kernel_rfl) (by kernel_rfl) (by kernel_rfl) (fun _ _ _ h => h) (by rfl) ?hy82 (by assumption) ?_
      case hy82 => ((intro w hSw; (try dsimp only at hSw); (try go_split_ands); go_simp); try with_reducible rfl)
      simp only [Act.put, List.setIfInBounds_toArray, List.set_cons_zero, List.set_cons_succ]
      refine takeH (i := 6) (d := (some 118)) (v := ?v83) rfl rfl (by kernel_rfl) (by kernel_rfl) (by kernel_rfl) (fun _ _ _ h => h) (by rfl) ?hy83 (by assumption) ?_
      case hy83 => ((intro w hSw; (try dsimp only at hSw); (try go_split_ands); go_simp); try with_reducible rfl)
      simp only [Act.put, List.setIfInBounds_toArray, List.set_cons_zero, List.set_cons_succ]
      refine takeH (i := 7) (d := (some 119)) (v := ?v84) rfl rfl (by kernel_rfl) (by kernel_rfl) (by kernel_rfl) (fun _ _ _ h => h) (by rfl) ?hy84 (by assumption) ?_
      case hy84 => ((intro w hSw; (try dsimp only at hSw); (try go_split_ands); go_simp); try with_reducible rfl)
      simp only [Act.put, List.setIfInBounds_toArray, List.set_cons_zero, List.set_cons_succ]
      refine takeH (i := 8) (d := (some 120)) (v := ?v85) rfl rfl (by kernel_rfl) (by kernel_rfl) (by kernel_rfl) (fun _ _ _ h => h) (by rfl) ?hy85 (by assumption) ?_
      case hy85 => ((intro w hSw; (try dsimp only at hSw); (try go_split_ands); go_simp); try with_reducible rfl)
      simp only [Act.put, List.setIfInBounds_toArray, List.set_cons_zero, List.set_cons_succ]
      refine takeH (i := 11) (d := (some 123)) (v := ?v86) rfl rfl (by kernel_rfl) (by kernel_rfl) (by kernel_rfl) (fun _ _ _ h => h) (by rfl) ?hy86 (by assumption) ?_
      case hy86 => ((intro w hSw; (try dsimp only at hSw); (try go_split_ands); go_simp); try with_reducible rfl)
      simp only [Act.put, List.setIfInBounds_toArray, List.set_cons_zero, List.set_cons_succ]
      refine takeH (i := 9) (d := (some 121)) (v := ?v87) rfl rfl (by kernel_rfl) (by kernel_rfl) (by kernel_rfl) (fun _ _ _ h => h) (by rfl) ?hy87 (by assumption) ?_
      case hy87 => ((intro w hSw; (try dsimp only at hSw); (try go_split_ands); go_simp); try with_reducible rfl)
      simp only [Act.put, List.setIfInBounds_toArray, List.set_cons_zero, List.set_cons_succ]
      refine takeH (i := 12) (d := (some 124)) (v := ?v88) rfl rfl (by kernel_rfl) (by kernel_rfl) (by kernel_rfl) (fun _ _ _ h => h) (by rfl) ?hy88 (by assumption) ?_
      case hy88 => ((intro w hSw; (try dsimp only at hSw); (try go_split_ands); go_simp); try with_reducible rfl)
      simp only [Act.put, List.setIfInBounds_toArray, List.set_cons_zero, List.set_cons_succ]
      refine takeH (i := 10) (d := (some 122)) (v := ?v89) rfl rfl (by kernel_rfl) (by kernel_rfl) (by kernel_rfl) (fun _ _ _ h => h) (by rfl) ?hy89 (by assumption) ?_
      case hy89 => ((intro w hSw; (try dsimp only at hSw); (try go_split_ands); go_simp); try with_reducible rfl)
      simp only [Act.put, List.setIfInBounds_toArray, List.set_cons_zero, List.set_cons_succ]
      refine takeH (i := 13) (d := (some 125)) (v := ?v90) rfl rfl (by kernel_rfl) (by kernel_rfl) (by kernel_rfl) (fun _ _ _ h => h) (by rfl) ?hy90 (by assumption) ?_
      case hy90 => ((intro w hSw; (try dsimp only at hSw); (try go_split_ands); go_simp); try with_reducible rfl)
      simp only [Act.put, List.setIfInBounds_toArray, List.set_cons_zero, List.set_cons_succ]
      refine wpAnyH_ready (rs := [14]) (by kernel_rfl) (by simp) ?_
      refine AllReadyH.cons rfl (fun K hK => ?_) AllReadyH.nil
      go_simp
      refine (HT2.out _).mono ?_
      rintro e w10 ⟨rfl, u10⟩
      go_wp2_with fail
      refine hK.out _ _ ⟨hHeld.1.trans u10, u10.blk hHeld.2.1, u10.blk hHeld.2.2⟩ (fun hHeld => ?_)
      clear hK K u10 HT2
      refine takeH (i := 15) (d := (some 127)) (v := ?v92) rfl rfl (by kernel_rfl) (by kernel_rfl) (by kernel_rfl) (fun _ _ _ h => h) (by rfl) ?hy92 (by assumption) ?_
      case hy92 => ((intro w hSw; (try dsimp only at hSw); (try go_split_ands); go_simp); try with_reducible rfl)
      simp only [Act.put, List.setIfInBounds_toArray, List.set_cons_zero, List.set_cons_succ]
      refine takeH (i := 16) (d := (some 128)) (v := ?v93) rfl rfl (by kernel_rfl) (by kernel_rfl) (by kernel_rfl) (fun _ _ _ h => h) (by rfl) ?hy93 (by assumption) ?_
      case hy93 => ((intro w hSw; (try dsimp only at hSw); (try go_split_ands); go_simp); try with_reducible rfl)
      simp only [Act.put, List.setIfInBounds_toArray, List.set_cons_zero, List.set_cons_succ]
      refine takeH (i := 17) (d := (some 129)) (v := ?v94) rfl rfl (by kernel_rfl) (by kernel_rfl) (by kernel_rfl) (fun _ _ _ h => h) (by rfl) ?hy94 (by assumption) ?_
      case hy94 => ((intro w hSw; (try dsimp only at hSw); (try go_split_ands); go_simp); try with_reducible rfl)
      simp only [Act.put, List.setIfInBounds_toArray, List.set_cons_zero, List.set_cons_succ]
      refine takeH (i := 18) (d := (some 130)) (v := ?v95) rfl rfl (by kernel_rfl) (by kernel_rfl) (by kernel_rfl) (fun _ _ _ h => h) (by rfl) ?hy95 (by assumption) ?_
      case hy95 => ((intro w hSw; (try dsimp only at hSw); (try go_split_ands); go_simp); try with_reducible rfl)
      simp only [Act.put, List.setIfInBounds_toArray, List.set_cons_zero, List.set_cons_succ]
      refine takeH (i := 19) (d := (some 131)) (v := ?v96) rfl rfl (by kernel_rfl) (by kernel_rfl) (by kernel_rfl) (fun _ _ _ h => h) (by rfl) ?hy96 (by assumption) ?_
      case hy96 => ((intro w hSw; (try dsimp only at hSw); (try go_split_ands); go_simp); try with_reducible rfl)
      simp only [Act.put, List.setIfInBounds_toArray, List.set_cons_zero, List.set_cons_succ]
      refine takeH (i := 20) (d := (some 132)) (v := ?v97) rfl rfl (by kernel_rfl) (by kernel_rfl) (by kernel_rfl) (fun _ _ _ h => h) (by rfl) ?hy97 (by assumption) ?_
      case hy97 => ((intro w hSw; (try dsimp only at hSw); (try go_split_ands); go_simp); try with_reducible rfl)
      simp only [Act.put, List.setIfInBounds_toArray, List.set_cons_zero, List.set_cons_succ]
      refine takeH (i := 21) (d := (some 133)) (v := ?v98) rfl rfl (by kernel_rfl) (by kernel_rfl) (by kernel_rfl) (fun _ _ _ h => h) (by rfl) ?hy98 (by assumption) ?_
      case hy98 => ((intro w hSw; (try dsimp only at hSw); (try go_split_ands); go_simp); try with_reducible rfl)
      simp only [Act.put, List.setIfInBounds_toArray, List.set_cons_zero, List.set_cons_succ]
      refine takeH (i := 22) (d := (some 134)) (v := ?v99) rfl rfl (by kernel_rfl) (by kernel_rfl) (by kernel_rfl) (fun _ _ _ h => h) (by rfl) ?hy99 (by assumption) ?_
      case hy99 => ((intro w hSw; (try dsimp only at hSw); (try go_split_ands); go_simp); try with_reducible rfl)
      simp only [Act.put, List.setIfInBounds_toArray, List.set_cons_zero, List.set_cons_succ]
      refine takeH (i := 23) (d := (some 135)) (v := ?v100) rfl rfl (by kernel_rfl) (by kernel_rfl) (by kernel_rfl) (fun _ _ _ h => h) (by rfl) ?hy100 (by assumption) ?_
      case hy100 => ((intro w hSw; (try dsimp only at hSw); (try go_split_ands); go_simp); try with_reducible rfl)
      simp only [Act.put, List.setIfInBounds_toArray, List.set_cons_zero, List.set_cons_succ]
      refine takeH (i := 24) (d := (some 136)) (v := ?v101) rfl rfl (by kernel_rfl) (by kernel_rfl) (by kernel_rfl) (fun _ _ _ h => h) (by rfl) ?hy101 (by assumption) ?_
      case hy101 => ((intro w hSw; (try dsimp only at hSw); (try go_split_ands); go_simp); try with_reducible rfl)
      simp only [Act.put, List.setIfInBounds_toArray, List.set_cons_zero, List.set_cons_succ]
      refine takeH (i := 25) (d := (some 137)) (v := ?v102) rfl rfl (by kernel_rfl) (by kernel_rfl) (by kernel_rfl) (fun _ _ _ h => h) (by rfl) ?hy102 (by assumption) ?_
      case hy102 => ((intro w hSw; (try dsimp only at hSw); (try go_split_ands); go_simp); try with_reducible rfl)
      simp only [Act.put, List.setIfInBounds_toArray, List.set_cons_zero, List.set_cons_succ]
      refine takeH (i := 26) (d := (some 138)) (v := ?v103) rfl rfl (by kernel_rfl) (by kernel_rfl) (by kernel_rfl) (fun _ _ _ h => h) (by rfl) ?hy103 (by assumption) ?_
      case hy103 => ((intro w hSw; (try dsimp only at hSw); (try go_split_ands); go_simp); try with_reducible rfl)
      simp only [Act.put, List.setIfInBounds_toArray, List.set_cons_zero, List.set_cons_succ]
      refine takeH (i := 27) (d := (some 139)) (v := ?v104) rfl rfl (by kernel_rfl) (by kernel_rfl) (by kernel_rfl) (fun _ _ _ h => h) (by rfl) ?hy104 (by assumption) ?_
      case hy104 => ((intro w hSw; (try dsimp only at hSw); (try go_split_ands); go_simp); try with_reducible rfl)
      simp only [Act.put, List.setIfInBounds_toArray, List.set_cons_zero, List.set_cons_succ]
      refine wpAnyH_ready (rs := [28]) (by kernel_rfl) (by simp) ?_
      refine AllReadyH.cons rfl (fun K hK => ?_) AllReadyH.nil
      go_simp
      refine (HW.out _).mono ?_
      rintro e w11 ⟨rfl, u11⟩
      go_wp2_with fail
      refine hK.out _ _ ⟨hHeld.1.trans u11, u11.blk hHeld.2.1, u11.blk hHeld.2.2⟩ (fun hHeld => ?_)
      clear hK K u11 HW
      refine takeH (i := 29) (d := (some 141)) (v := ?v106) rfl rfl (by kernel_rfl) (by kernel_rfl) (by kernel_rfl) (fun _ _ _ h => h) (by rfl) ?hy106 (by assumption) ?_
      case hy106 => ((intro w hSw; (try dsimp only at hSw); (try go_split_ands); go_simp); try with_reducible rfl)
      simp only [Act.put, List.setIfInBounds_toArray, List.set_cons_zero, List.set_cons_succ]
      refine takeH (i := 30) (d := (some 4)) (v := ?v107) rfl rfl (by kernel_rfl) (by kernel_rfl) (by kernel_rfl) (fun _ _ _ h => h) (by rfl) ?hy107 (by assumption) ?_
      case hy107 => ((intro w hSw; (try dsimp only at hSw); (try go_split_ands); go_simp); try with_reducible rfl)
      simp only [Act.put, List.setIfInBounds_toArray, List.set_cons_zero, List.set_cons_succ]
      refine wpAnyH_done (by kernel_rfl) ?_ _
      go_wp2
      go_ret
      exact ⟨rfl, hHeld.1⟩


end Go.Proofs.Ytckjggkikpgidaa
