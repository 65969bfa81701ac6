import Derived.Test.YtckjggkikpgidaaSmo
/- The law ScaleBetween. -/
namespace Go.Proofs.Ytckjggkikpgidaa
open Go.RowKit

theorem cell_int2 {w : World} {b : Nat} {cs : Array Value} (h : mblk w b = some (.cells cs 36 (0, 0))) (j : Nat) : w.cell? ⟨b, j, none⟩ = cs[j]? := cellB h j
attribute [go_sem] cell_int2
set_option maxRecDepth 100000 in
set_option maxHeartbeats 8000000 in
theorem scaleBetween_any (f s j dl dh n0 n1 : Int) {bv : Option Addr} {bn bc : Nat} {bits : List Int} {w : World} (I : Ints w (.slice bv bn bc) bits) : Calls Try.prog 9 #[RV f s j dl dh, .agg #[.int .i64 n0, .int .i64 n1], .slice bv bn bc] w fun e w' => e = .returned (.bool true) ∧ Up w w' := by
  have U0 := ((Up.refl w).alloc (.cells #[.int .i64 f, .int .i64 s, .int .i64 j, .int .i64 dl, .int .i64 dh] 25)).alloc (.cells #[.int .i64 n0, .int .i64 n1] 36)
  have k3 := blk_keep (.cells #[.int .i64 n0, .int .i64 n1] 36) (blk_new w (.cells #[.int .i64 f, .int .i64 s, .int .i64 j, .int .i64 dl, .int .i64 dh] 25) _ rfl)
  have k4 := blk_new (w.alloc (.cells #[.int .i64 f, .int .i64 s, .int .i64 j, .int .i64 dl, .int .i64 dh] 25)) (.cells #[.int .i64 n0, .int .i64 n1] 36) (w.heap.size + 1) (by simp)
  have HI := Lib.hid (fun w => l_isRule_any f s j dl dh w)
  have HW := Lib.hid (fun w => l_works_any w)
  cases hr : S.ok f s j dl dh with
  | false =>
    rw [hr] at HI
    clear hr k3 k4 I
    go_enter Try.func9, Try.ntmps9
    go_wp2_with fail
    refine (HI.out _).mono ?_
    rintro e w1 ⟨rfl, u1⟩
    go_wp2_with fail
    refine (HW.out _).mono ?_
    rintro e w2 ⟨rfl, u2⟩
    go_wp2
    go_ret
    exact ⟨rfl, (U0.trans u1).trans u2⟩
  | true =>
    rw [hr] at HI
    obtain ⟨⟨f1, f2⟩, ⟨s1, s2⟩, ⟨j1, j2⟩, _⟩ := S.ok_iff.1 hr
    have HR1 := Lib.hid (fun w => B_Rest_any n0 50 w (by omega) (by omega))
    have q1 := Int.emod_nonneg n0 (b := 50) (by omega)
    have q2 := Int.emod_lt_of_pos n0 (b := 50) (by omega)
    obtain ⟨T, hT⟩ : ∃ T : Nat, n0 % 50 = T := ⟨(n0 % 50).toNat, by omega⟩
    rw [hT] at HR1 q1 q2
    have T50 : T < 50 := by omega
    have HSt := Lib.hid (fun w' (u : Up w w') => l_steered_true (dl := dl) (dh := dh) hr (T := T) (by omega) (I.up u))
    have hlen := S.strs_len (f := f) (s := s) (j := j) (T := T) (bits := bits) true
    obtain ⟨m1, m2⟩ := S.strs_reach (f := f) (s := s) (j := j) (T := T) (bits := bits) f1 s1 j1
    have hpl := S.strs_plan (f := f) (s := s) (j := j) (T := T) (bits := bits) ⟨f1, f2⟩ ⟨s1, s2⟩ j1 (by omega)
    generalize S.strs f s j T bits true = xs at *
    have g1 := S.most_grow (e := s) (j := j) s1 (by omega) T
    have g2 := S.most_grow (e := f) (j := j) f1 (by omega) T
    have e1 := S.most_bd (e := s) (j := j) s1 (by omega) T
    have e2 := S.most_bd (e := f) (j := j) f1 (by omega) T
    have e3 : (T : Int) * s ≤ 50 * 500 := Int.mul_le_mul (by omega) (by omega) (by omega) (by omega)
    have e4 : (T : Int) * f ≤ 50 * 500 := Int.mul_le_mul (by omega) (by omega) (by omega) (by omega)
    have HRa := Lib.hid (fun w => Reach_yes (dl := dl) (dh := dh) w hr T (by omega))
    have HRb := Lib.hid (fun w => Reach_yes (dl := dl) (dh := dh) w hr (T + 1) (by omega))
    have hw64 : wrap64 xs.sum = xs.sum := wrap_in (by unfold D.in64; omega)
    have HTo := Lib.hid (fun w v (I : Ints w v xs) => show Calls Try.prog 41 #[v] w fun e w' => e = .returned (.int .i64 xs.sum) ∧ w = w' by rw [← hw64]; exact B_Total_any I)
    obtain ⟨c1, c2⟩ := S.frm_in (l := max (-(S.most s j T)) (-20000)) (h := min (S.most f j T) 20000) (by omega) n1
    have HT2 := Lib.hid (fun w => B_To_any (-20000) 20000 w)
    have HBo := Lib.hid (fun w => B_Both_any (-(S.most s j T)) (S.most f j T) (-20000) 20000 w)
    have HFr := Lib.hid (fun w => B_From_any (max (-(S.most s j T)) (-20000)) (min (S.most f j T) 20000) n1 w (by omega) (by omega) (by omega) (by omega))
    generalize S.frm (max (-(S.most s j T)) (-20000)) (min (S.most f j T) 20000) n1 = bt at *
    obtain ⟨rk, hrk⟩ := S.Few.ex f s j (-bt)
    have hkT := S.Few.within f1 s1 (by omega) (by omega) (T := T) (b := bt) (by omega) (by omega) hrk
    have HFw := Lib.hid (fun w => Fewest_yes (dl := dl) (dh := dh) w hr (-bt) (by omega) (by omega) hrk)
    rw [if_pos (show rk ≤ 200 by omega), if_pos (show rk ≤ 200 by omega)] at HFw
    have wb : IntKind.i64.wrap (-bt) = -bt := IntWalk.i64_in _ (by omega)
    have ws : IntKind.i64.wrap (-xs.sum) = -xs.sum := IntWalk.i64_in _ (by omega)
    obtain ⟨iv, ie, HP, hP⟩ : ∃ (iv : Bool) (ie : Int), Hid (∀ w v, Ints w v xs → Calls Try.prog 16 #[RV f s j dl dh, .int .i64 (-xs.sum), v] w fun e w' => e = .returned (.tuple #[.bool iv, .int .i64 ie]) ∧ Up w w') ∧ (max xs.sum (-xs.sum) ≤ 20000 → iv = true ∧ ie = 0) := by
      by_cases h : -20000 ≤ -xs.sum ∧ -xs.sum ≤ 20000
      · refine ⟨true, 0, Lib.hid fun w v I => ?_, fun _ => ⟨rfl, rfl⟩⟩
        rw [← hpl]
        exact IsPlan_yes hr (-xs.sum) h.1 h.2 I
      · exact ⟨false, 41, Lib.hid fun w v I => IsPlan_ask hr (-xs.sum) h, fun h2 => absurd h2 (by omega)⟩
    have HWi := Lib.hid (fun w => show Calls Try.prog 45 #[SpV (-(S.most s j T)) (S.most f j T), SpV (-(S.most s j (T + 1))) (S.most f j (T + 1))] w fun e w' => e = .returned (.bool true) ∧ Up w w' by rw [← decide_eq_true (show -(S.most s j (T + 1)) ≤ -(S.most s j T) ∧ S.most f j T ≤ S.most f j (T + 1) by omega)]; exact B_Within_any _ _ _ _ w)
    have HHa := Lib.hid (fun w => show Calls Try.prog 43 #[SpV (-(S.most s j T)) (S.most f j T), .int .i64 xs.sum] w fun e w' => e = .returned (.bool true) ∧ Up w w' by rw [← inB_yes m1 m2]; exact B_Has_any _ _ _ w)
    have HSz := Lib.hid (fun w => B_Size_any xs.sum w (by omega) (by omega))
    obtain ⟨sz, hsz⟩ : ∃ sz, max xs.sum (-xs.sum) = sz := ⟨_, rfl⟩
    rw [hsz] at HSz hP
    obtain ⟨sa, hsa⟩ : ∃ x, -(S.most s j T) = x := ⟨_, rfl⟩
    obtain ⟨sb, hsb⟩ : ∃ x, S.most f j T = x := ⟨_, rfl⟩
    obtain ⟨ta, hta⟩ : ∃ x, -(S.most s j (T + 1)) = x := ⟨_, rfl⟩
    obtain ⟨tb, htb⟩ : ∃ x, S.most f j (T + 1) = x := ⟨_, rfl⟩
    rw [hsa, hsb] at HRa HBo HHa HFr
    rw [hta, htb] at HRb
    rw [hsa, hsb, hta, htb] at HWi
    have sa0 : decide (0 < sa) = false := decide_eq_false (by omega)
    have sb0 : decide (sb < 0) = false := decide_eq_false (by omega)
    have hkT' : (rk : Int) ≤ (T : Int) := by omega
    obtain ⟨lo, hlo⟩ : ∃ x, max sa (-20000) = x := ⟨_, rfl⟩
    obtain ⟨hi, hhi⟩ : ∃ x, min sb 20000 = x := ⟨_, rfl⟩
    rw [hlo, hhi] at HBo HFr
    generalize xs.sum = sm at *
    clear hr hpl hrk hw64 hT q1 q2 f1 f2 s1 s2 j1 j2 I m1 m2 g1 g2 e1 e2 e3 e4 c1 c2 hsa hsb hta htb hlo hhi hsz hkT
    go_enter Try.func9, Try.ntmps9
    go_wp2_with fail
    refine (HI.out _).mono ?_
    rintro e w1 ⟨rfl, u1⟩
    replace k3 := u1.blk k3
    replace k4 := u1.blk k4
    replace U0 := U0.trans u1
    clear u1 HI
    go_wp2_with fail
    refine (HR1.out _).mono ?_
    rintro e w2 ⟨rfl, rfl⟩
    go_wp2_with fail
    refine (HRa.out _).mono ?_
    rintro e w2 ⟨rfl, u2⟩
    have m8 := blk_new w2 (.cells #[.int .i64 sa, .int .i64 sb] 23) _ rfl
    have l3 := blk_lt (u2.blk k3)
    have l4 := blk_lt (u2.blk k4)
    replace k3 := blk_keep (.cells #[.int .i64 sa, .int .i64 sb] 23) (u2.blk k3)
    replace k4 := blk_keep (.cells #[.int .i64 sa, .int .i64 sb] 23) (u2.blk k4)
    replace U0 := (U0.trans u2).alloc (.cells #[.int .i64 sa, .int .i64 sb] 23)
    clear u2 HR1 HRa
    have wT : IntKind.i64.wrap ((T : Int) + 1) = ((T + 1 : Nat) : Int) := by rw [IntWalk.i64_in _ (by omega)]; omega
    go_wp2_with fail
    refine (HRb.out _).mono ?_
    rintro e w3 ⟨rfl, u3⟩
    have m10 := blk_new w3 (.cells #[.int .i64 ta, .int .i64 tb] 23) _ rfl
    have l3 := blk_lt (u3.blk k3)
    have l8 := blk_lt (u3.blk m8)
    replace k3 := blk_keep (.cells #[.int .i64 ta, .int .i64 tb] 23) (u3.blk k3)
    replace k4 := blk_keep (.cells #[.int .i64 ta, .int .i64 tb] 23) (u3.blk k4)
    replace m8 := blk_keep (.cells #[.int .i64 ta, .int .i64 tb] 23) (u3.blk m8)
    replace U0 := (U0.trans u3).alloc (.cells #[.int .i64 ta, .int .i64 tb] 23)
    clear u3 HRb wT
    obtain ⟨p8, hp8⟩ : ∃ p, w2.heap.size = p := ⟨_, rfl⟩
    obtain ⟨p10, hp10⟩ : ∃ p, w3.heap.size = p := ⟨_, rfl⟩
    obtain ⟨W3, hW3⟩ : ∃ W, w3.alloc (.cells #[.int .i64 ta, .int .i64 tb] 23) = W := ⟨_, rfl⟩
    rw [hp8] at m8
    rw [hp10] at m10
    rw [hW3] at m8 m10 k3 k4 U0
    go_wp2_with fail
    clear hp8 hp10 hW3 l3 l4 l8
    refine (HSt.out _ U0).mono ?_
    rintro e w4 ⟨sv, rfl, u4, IS⟩
    replace k3 := u4.blk k3
    replace k4 := u4.blk k4
    replace m8 := u4.blk m8
    replace m10 := u4.blk m10
    replace U0 := U0.trans u4
    clear u4 HSt
    go_wp2_with fail
    refine wp_region_held_drew (S := fun w' => (Up w w' ∧ Ints w' sv xs) ∧ mblk w' w.heap.size = some (.cells #[.int .i64 f, .int .i64 s, .int .i64 j, .int .i64 dl, .int .i64 dh] 25 (0, 0)) ∧ mblk w' (w.heap.size + 1) = some (.cells #[.int .i64 n0, .int .i64 n1] 36 (0, 0)) ∧ mblk w' p8 = some (.cells #[.int .i64 sa, .int .i64 sb] 23 (0, 0)) ∧ mblk w' p10 = some (.cells #[.int .i64 ta, .int .i64 tb] 23 (0, 0))) (by kernel_rfl) ⟨⟨U0.drew, IS.up (Up.refl _).drew⟩, by rw [blk_drew]; exact k3, by rw [blk_drew]; exact k4, by rw [blk_drew]; exact m8, by rw [blk_drew]; exact m10⟩ (fun hHeld => ?_)
    clear U0 k3 k4 m8 m10 IS
    refine takeH (i := 0) (d := (some 40)) (v := ?v1) rfl rfl (by kernel_rfl) (by kernel_rfl) (by kernel_rfl) (fun _ _ _ h => h) (by rfl) ?hy1 (by assumption) ?_
    case hy1 => ((intro w hSw; (try dsimp only at hSw); (try go_split_ands); go_simp); try with_reducible rfl)
    simp only [Act.put, List.setIfInBounds_toArray, List.set_cons_zero, List.set_cons_succ]
    refine takeH (i := 1) (d := (some 41)) (v := ?v2) rfl rfl (by kernel_rfl) (by kernel_rfl) (by kernel_rfl) (fun _ _ _ h => h) (by rfl) ?hy2 (by assumption) ?_
    case hy2 => ((intro w hSw; (try dsimp only at hSw); (try go_split_ands); go_simp); try with_reducible rfl)
    simp only [Act.put, List.setIfInBounds_toArray, List.set_cons_zero, List.set_cons_succ]
    refine takeH (i := 2) (d := (some 42)) (v := ?v3) rfl rfl (by kernel_rfl) (by kernel_rfl) (by kernel_rfl) (fun _ _ _ h => h) (by rfl) ?hy3 (by assumption) ?_
    case hy3 => ((intro w hSw; (try dsimp only at hSw); (try go_split_ands); go_simp); try with_reducible rfl)
    simp only [Act.put, List.setIfInBounds_toArray, List.set_cons_zero, List.set_cons_succ]
    refine takeH (i := 3) (d := (some 43)) (v := ?v4) rfl rfl (by kernel_rfl) (by kernel_rfl) (by kernel_rfl) (fun _ _ _ h => h) (by rfl) ?hy4 (by assumption) ?_
    case hy4 => ((intro w hSw; (try dsimp only at hSw); (try go_split_ands); go_simp); try with_reducible rfl)
    simp only [Act.put, List.setIfInBounds_toArray, List.set_cons_zero, List.set_cons_succ]
    refine takeH (i := 4) (d := (some 44)) (v := ?v5) rfl rfl (by kernel_rfl) (by kernel_rfl) (by kernel_rfl) (fun _ _ _ h => h) (by rfl) ?hy5 (by assumption) ?_
    case hy5 => ((intro w hSw; (try dsimp only at hSw); (try go_split_ands); go_simp); try with_reducible rfl)
    simp only [Act.put, List.setIfInBounds_toArray, List.set_cons_zero, List.set_cons_succ]
    refine takeH (i := 5) (d := (some 45)) (v := ?v6) rfl rfl (by kernel_rfl) (by kernel_rfl) (by kernel_rfl) (fun _ _ _ h => h) (by rfl) ?hy6 (by assumption) ?_
    case hy6 => ((intro w hSw; (try dsimp only at hSw); (try go_split_ands); go_simp); try with_reducible rfl)
    simp only [Act.put, List.setIfInBounds_toArray, List.set_cons_zero, List.set_cons_succ]
    refine takeH (i := 6) (d := (some 46)) (v := ?v7) rfl rfl (by kernel_rfl) (by kernel_rfl) (by kernel_rfl) (fun _ _ _ h => h) (by rfl) ?hy7 (by assumption) ?_
    case hy7 => ((intro w hSw; (try dsimp only at hSw); (try go_split_ands); go_simp); try with_reducible rfl)
    simp only [Act.put, List.setIfInBounds_toArray, List.set_cons_zero, List.set_cons_succ]
    refine takeH (i := 7) (d := (some 47)) (v := ?v8) rfl rfl (by kernel_rfl) (by kernel_rfl) (by kernel_rfl) (fun _ _ _ h => h) (by rfl) ?hy8 (by assumption) ?_
    case hy8 => ((intro w hSw; (try dsimp only at hSw); (try go_split_ands); go_simp); try with_reducible rfl)
    simp only [Act.put, List.setIfInBounds_toArray, List.set_cons_zero, List.set_cons_succ]
    refine takeH (i := 8) (d := (some 48)) (v := ?v9) rfl rfl (by kernel_rfl) (by kernel_rfl) (by kernel_rfl) (fun _ _ _ h => h) (by rfl) ?hy9 (by assumption) ?_
    case hy9 => ((intro w hSw; (try dsimp only at hSw); (try go_split_ands); go_simp); try with_reducible rfl)
    simp only [Act.put, List.setIfInBounds_toArray, List.set_cons_zero, List.set_cons_succ]
    refine takeH (i := 9) (d := (some 49)) (v := ?v10) rfl rfl (by kernel_rfl) (by kernel_rfl) (by kernel_rfl) (fun _ _ _ h => h) (by rfl) ?hy10 (by assumption) ?_
    case hy10 => ((intro w hSw; (try dsimp only at hSw); (try go_split_ands); go_simp); try with_reducible rfl)
    simp only [Act.put, List.setIfInBounds_toArray, List.set_cons_zero, List.set_cons_succ]
    refine takeH (i := 10) (d := (some 50)) (v := ?v11) rfl rfl (by kernel_rfl) (by kernel_rfl) (by kernel_rfl) (fun _ _ _ h => h) (by rfl) ?hy11 (by assumption) ?_
    case hy11 => ((intro w hSw; (try dsimp only at hSw); (try go_split_ands); go_simp); try with_reducible rfl)
    simp only [Act.put, List.setIfInBounds_toArray, List.set_cons_zero, List.set_cons_succ]
    refine takeH (i := 11) (d := (some 51)) (v := ?v12) rfl rfl (by kernel_rfl) (by kernel_rfl) (by kernel_rfl) (fun _ _ _ h => h) (by rfl) ?hy12 (by assumption) ?_
    case hy12 => ((intro w hSw; (try dsimp only at hSw); (try go_split_ands); go_simp); try with_reducible rfl)
    simp only [Act.put, List.setIfInBounds_toArray, List.set_cons_zero, List.set_cons_succ]
    refine takeH (i := 12) (d := (some 52)) (v := ?v13) rfl rfl (by kernel_rfl) (by kernel_rfl) (by kernel_rfl) (fun _ _ _ h => h) (by rfl) ?hy13 (by assumption) ?_
    case hy13 => ((intro w hSw; (try dsimp only at hSw); (try go_split_ands); go_simp); try with_reducible rfl)
    simp only [Act.put, List.setIfInBounds_toArray, List.set_cons_zero, List.set_cons_succ]
    refine takeH (i := 13) (d := (some 53)) (v := ?v14) rfl rfl (by kernel_rfl) (by kernel_rfl) (by kernel_rfl) (fun _ _ _ h => h) (by rfl) ?hy14 (by assumption) ?_
    case hy14 => ((intro w hSw; (try dsimp only at hSw); (try go_split_ands); go_simp); try with_reducible rfl)
    simp only [Act.put, List.setIfInBounds_toArray, List.set_cons_zero, List.set_cons_succ]
    refine takeH (i := 14) (d := (some 54)) (v := ?v15) rfl rfl (by kernel_rfl) (by kernel_rfl) (by kernel_rfl) (fun _ _ _ h => h) (by rfl) ?hy15 (by assumption) ?_
    case hy15 => ((intro w hSw; (try dsimp only at hSw); (try go_split_ands); go_simp); try with_reducible rfl)
    simp only [Act.put, List.setIfInBounds_toArray, List.set_cons_zero, List.set_cons_succ]
    refine takeH (i := 15) (d := (some 55)) (v := ?v16) rfl rfl (by kernel_rfl) (by kernel_rfl) (by kernel_rfl) (fun _ _ _ h => h) (by rfl) ?hy16 (by assumption) ?_
    case hy16 => ((intro w hSw; (try dsimp only at hSw); (try go_split_ands); go_simp); try with_reducible rfl)
    simp only [Act.put, List.setIfInBounds_toArray, List.set_cons_zero, List.set_cons_succ]
    refine takeH (i := 16) (d := (some 56)) (v := ?v17) rfl rfl (by kernel_rfl) (by kernel_rfl) (by kernel_rfl) (fun _ _ _ h => h) (by rfl) ?hy17 (by assumption) ?_
    case hy17 => ((intro w hSw; (try dsimp only at hSw); (try go_split_ands); go_simp); try with_reducible rfl)
    simp only [Act.put, List.setIfInBounds_toArray, List.set_cons_zero, List.set_cons_succ]
    refine takeH (i := 17) (d := (some 57)) (v := ?v18) rfl rfl (by kernel_rfl) (by kernel_rfl) (by kernel_rfl) (fun _ _ _ h => h) (by rfl) ?hy18 (by assumption) ?_
    case hy18 => ((intro w hSw; (try dsimp only at hSw); (try go_split_ands); go_simp); try with_reducible rfl)
    simp only [Act.put, List.setIfInBounds_toArray, List.set_cons_zero, List.set_cons_succ]
    refine takeH (i := 18) (d := (some 58)) (v := ?v19) rfl rfl (by kernel_rfl) (by kernel_rfl) (by kernel_rfl) (fun _ _ _ h => h) (by rfl) ?hy19 (by assumption) ?_
    case hy19 => ((intro w hSw; (try dsimp only at hSw); (try go_split_ands); go_simp); try with_reducible rfl)
    simp only [Act.put, List.setIfInBounds_toArray, List.set_cons_zero, List.set_cons_succ]
    refine wpAnyH_ready (rs := [19]) (by kernel_rfl) (by simp) ?_
    refine AllReadyH.cons rfl (fun K hK => ?_) AllReadyH.nil
    go_simp
    refine (HWi.out _).mono ?_
    rintro e w5 ⟨rfl, u5⟩
    go_wp2_with fail
    refine hK.out _ _ ⟨⟨hHeld.1.1.trans u5, hHeld.1.2.up u5⟩, u5.blk hHeld.2.1, u5.blk hHeld.2.2.1, u5.blk hHeld.2.2.2.1, u5.blk hHeld.2.2.2.2⟩ (fun hHeld => ?_)
    clear hK K u5 HWi
    refine takeH (i := 20) (d := (some 60)) (v := ?v21) rfl rfl (by kernel_rfl) (by kernel_rfl) (by kernel_rfl) (fun _ _ _ h => h) (by rfl) ?hy21 (by assumption) ?_
    case hy21 => ((intro w hSw; (try dsimp only at hSw); (try go_split_ands); go_simp); try with_reducible rfl)
    simp only [Act.put, List.setIfInBounds_toArray, List.set_cons_zero, List.set_cons_succ]
    refine takeH (i := 21) (d := (some 61)) (v := ?v22) rfl rfl (by kernel_rfl) (by kernel_rfl) (by kernel_rfl) (fun _ _ _ h => h) (by rfl) ?hy22 (by assumption) ?_
    case hy22 => ((intro w hSw; (try dsimp only at hSw); (try go_split_ands); go_simp); try with_reducible rfl)
    simp only [Act.put, List.setIfInBounds_toArray, List.set_cons_zero, List.set_cons_succ]
    refine takeH (i := 22) (d := (some 62)) (v := ?v23) rfl rfl (by kernel_rfl) (by kernel_rfl) (by kernel_rfl) (fun _ _ _ h => h) (by rfl) ?hy23 (by assumption) ?_
    case hy23 => ((intro w hSw; (try dsimp only at hSw); (try go_split_ands); go_simp); try with_reducible rfl)
    simp only [Act.put, List.setIfInBounds_toArray, List.set_cons_zero, List.set_cons_succ]
    refine takeH (i := 23) (d := (some 63)) (v := ?v24) rfl rfl (by kernel_rfl) (by kernel_rfl) (by kernel_rfl) (fun _ _ _ h => h) (by rfl) ?hy24 (by assumption) ?_
    case hy24 => ((intro w hSw; (try dsimp only at hSw); (try go_split_ands); go_simp); try with_reducible rfl)
    simp only [Act.put, List.setIfInBounds_toArray, List.set_cons_zero, List.set_cons_succ]
    refine takeH (i := 24) (d := (some 64)) (v := ?v25) rfl rfl (by kernel_rfl) (by kernel_rfl) (by kernel_rfl) (fun _ _ _ h => h) (by rfl) ?hy25 (by assumption) ?_
    case hy25 => ((intro w hSw; (try dsimp only at hSw); (try go_split_ands); go_simp); try with_reducible rfl)
    simp only [Act.put, List.setIfInBounds_toArray, List.set_cons_zero, List.set_cons_succ]
    refine wpAnyH_ready (rs := [25]) (by kernel_rfl) (by simp) ?_
    refine AllReadyH.cons rfl (fun K hK => ?_) AllReadyH.nil
    go_simp
    refine (HTo.out _ _ hHeld.1.2).mono ?_
    rintro e w6 ⟨rfl, rfl⟩
    go_wp2_with fail
    refine hK.out _ _ hHeld (fun hHeld => ?_)
    clear hK K
    refine wpAnyH_ready (rs := [26]) (by kernel_rfl) (by simp) ?_
    refine AllReadyH.cons rfl (fun K hK => ?_) AllReadyH.nil
    go_simp
    refine (HHa.out _).mono ?_
    rintro e w6 ⟨rfl, u6⟩
    go_wp2_with fail
    refine hK.out _ _ ⟨⟨hHeld.1.1.trans u6, hHeld.1.2.up u6⟩, u6.blk hHeld.2.1, u6.blk hHeld.2.2.1, u6.blk hHeld.2.2.2.1, u6.blk hHeld.2.2.2.2⟩ (fun hHeld => ?_)
    clear hK K u6 HHa
    refine takeH (i := 27) (d := (some 67)) (v := ?v28) rfl rfl (by kernel_rfl) (by kernel_rfl) (by kernel_rfl) (fun _ _ _ h => h) (by rfl) ?hy28 (by assumption) ?_
    case hy28 => ((intro w hSw; (try dsimp only at hSw); (try go_split_ands); go_simp); try with_reducible rfl)
    simp only [Act.put, List.setIfInBounds_toArray, List.set_cons_zero, List.set_cons_succ]
    refine takeH (i := 28) (d := (some 68)) (v := ?v29) rfl rfl (by kernel_rfl) (by kernel_rfl) (by kernel_rfl) (fun _ _ _ h => h) (by rfl) ?hy29 (by assumption) ?_
    case hy29 => ((intro w hSw; (try dsimp only at hSw); (try go_split_ands); go_simp); try with_reducible rfl)
    simp only [Act.put, List.setIfInBounds_toArray, List.set_cons_zero, List.set_cons_succ]
    refine wpAnyH_done (by kernel_rfl) ?_ _
    obtain ⟨⟨U0, IS⟩, k3, k4, m8, _⟩ := hHeld
    go_wp2_with fail
    refine wp_region_held_drew (S := fun w' => (Up w w' ∧ Ints w' sv xs) ∧ mblk w' w.heap.size = some (.cells #[.int .i64 f, .int .i64 s, .int .i64 j, .int .i64 dl, .int .i64 dh] 25 (0, 0)) ∧ mblk w' (w.heap.size + 1) = some (.cells #[.int .i64 n0, .int .i64 n1] 36 (0, 0)) ∧ mblk w' p8 = some (.cells #[.int .i64 sa, .int .i64 sb] 23 (0, 0))) (by kernel_rfl) ⟨⟨U0.drew, IS.up (Up.refl _).drew⟩, by rw [blk_drew]; exact k3, by rw [blk_drew]; exact k4, by rw [blk_drew]; exact m8⟩ (fun hHeld => ?_)
    clear U0 k3 k4 m8 IS
    refine takeH (i := 0) (d := (some 70)) (v := ?v30) rfl rfl (by kernel_rfl) (by kernel_rfl) (by kernel_rfl) (fun _ _ _ h => h) (by rfl) ?hy30 (by assumption) ?_
    case hy30 => ((intro w hSw; (try dsimp only at hSw); (try go_split_ands); go_simp); try with_reducible rfl)
    simp only [Act.put, List.setIfInBounds_toArray, List.set_cons_zero, List.set_cons_succ]
    refine takeH (i := 1) (d := (some 71)) (v := ?v31) rfl rfl (by kernel_rfl) (by kernel_rfl) (by kernel_rfl) (fun _ _ _ h => h) (by rfl) ?hy31 (by assumption) ?_
    case hy31 => ((intro w hSw; (try dsimp only at hSw); (try go_split_ands); go_simp); try with_reducible rfl)
    simp only [Act.put, List.setIfInBounds_toArray, List.set_cons_zero, List.set_cons_succ]
    refine takeH (i := 4) (d := (some 74)) (v := ?v32) rfl rfl (by kernel_rfl) (by kernel_rfl) (by kernel_rfl) (fun _ _ _ h => h) (by rfl) ?hy32 (by assumption) ?_
    case hy32 => ((intro w hSw; (try dsimp only at hSw); (try go_split_ands); go_simp); try with_reducible rfl)
    simp only [Act.put, List.setIfInBounds_toArray, List.set_cons_zero, List.set_cons_succ]
    refine wpAnyH_ready (rs := [2]) (by kernel_rfl) (by simp) ?_
    refine AllReadyH.cons rfl (fun K hK => ?_) AllReadyH.nil
    go_simp
    refine (HTo.out _ _ hHeld.1.2).mono ?_
    rintro e w7 ⟨rfl, rfl⟩
    go_wp2_with fail
    refine hK.out _ _ hHeld (fun hHeld => ?_)
    clear hK K
    refine takeH (i := 3) (d := (some 73)) (v := ?v34) rfl rfl (by kernel_rfl) (by kernel_rfl) (by kernel_rfl) (fun _ _ _ h => h) (by rfl) ?hy34 (by assumption) ?_
    case hy34 => ((intro w hSw; (try dsimp only at hSw); (try go_split_ands); go_simp); try with_reducible rfl)
    simp only [Act.put, List.setIfInBounds_toArray, List.set_cons_zero, List.set_cons_succ]
    refine wpAnyH_ready (rs := [5]) (by kernel_rfl) (by simp) ?_
    refine AllReadyH.cons rfl (fun K hK => ?_) AllReadyH.nil
    go_simp
    refine (HP.out _ _ hHeld.1.2).mono ?_
    rintro e w7 ⟨rfl, u7⟩
    go_wp2_with fail
    refine hK.out _ _ ⟨⟨hHeld.1.1.trans u7, hHeld.1.2.up u7⟩, u7.blk hHeld.2.1, u7.blk hHeld.2.2.1, u7.blk hHeld.2.2.2⟩ (fun hHeld => ?_)
    clear hK K u7 HP
    refine takeH (i := 6) (d := (some 69)) (v := ?v36) rfl rfl (by kernel_rfl) (by kernel_rfl) (by kernel_rfl) (fun _ _ _ h => h) (by rfl) ?hy36 (by assumption) ?_
    case hy36 => ((intro w hSw; (try dsimp only at hSw); (try go_split_ands); go_simp); try with_reducible rfl)
    simp only [Act.put, List.setIfInBounds_toArray, List.set_cons_zero, List.set_cons_succ]
    refine takeH (i := 7) (d := (some 76)) (v := ?v37) rfl rfl (by kernel_rfl) (by kernel_rfl) (by kernel_rfl) (fun _ _ _ h => h) (by rfl) ?hy37 (by assumption) ?_
    case hy37 => ((intro w hSw; (try dsimp only at hSw); (try go_split_ands); go_simp); try with_reducible rfl)
    simp only [Act.put, List.setIfInBounds_toArray, List.set_cons_zero, List.set_cons_succ]
    refine takeH (i := 8) (d := (some 77)) (v := ?v38) rfl rfl (by kernel_rfl) (by kernel_rfl) (by kernel_rfl) (fun _ _ _ h => h) (by rfl) ?hy38 (by assumption) ?_
    case hy38 => ((intro w hSw; (try dsimp only at hSw); (try go_split_ands); go_simp); try with_reducible rfl)
    simp only [Act.put, List.setIfInBounds_toArray, List.set_cons_zero, List.set_cons_succ]
    refine takeH (i := 9) (d := (some 13)) (v := ?v39) rfl rfl (by kernel_rfl) (by kernel_rfl) (by kernel_rfl) (fun _ _ _ h => h) (by rfl) ?hy39 (by assumption) ?_
    case hy39 => ((intro w hSw; (try dsimp only at hSw); (try go_split_ands); go_simp); try with_reducible rfl)
    simp only [Act.put, List.setIfInBounds_toArray, List.set_cons_zero, List.set_cons_succ]
    refine takeH (i := 10) (d := (some 9)) (v := ?v40) rfl rfl (by kernel_rfl) (by kernel_rfl) (by kernel_rfl) (fun _ _ _ h => h) (by rfl) ?hy40 (by assumption) ?_
    case hy40 => ((intro w hSw; (try dsimp only at hSw); (try go_split_ands); go_simp); try with_reducible rfl)
    simp only [Act.put, List.setIfInBounds_toArray, List.set_cons_zero, List.set_cons_succ]
    refine wpAnyH_done (by kernel_rfl) ?_ _
    obtain ⟨⟨U0, IS⟩, k3, k4, m8⟩ := hHeld
    go_wp2_with fail
    refine (HTo.out _ _ IS).mono ?_
    rintro e w8 ⟨rfl, rfl⟩
    go_wp2_with fail
    refine (HSz.out _).mono ?_
    rintro e w8 ⟨rfl, rfl⟩
    clear HSz HTo ws
    by_cases h20 : sz ≤ 20000
    · obtain ⟨rfl, rfl⟩ := hP h20
      go_wp2_with fail
      refine wp_region_held_drew (S := fun w' => Up w w' ∧ mblk w' w.heap.size = some (.cells #[.int .i64 f, .int .i64 s, .int .i64 j, .int .i64 dl, .int .i64 dh] 25 (0, 0)) ∧ mblk w' (w.heap.size + 1) = some (.cells #[.int .i64 n0, .int .i64 n1] 36 (0, 0)) ∧ mblk w' p8 = some (.cells #[.int .i64 sa, .int .i64 sb] 23 (0, 0))) (by kernel_rfl) ⟨U0.drew, by rw [blk_drew]; exact k3, by rw [blk_drew]; exact k4, by rw [blk_drew]; exact m8⟩ (fun hHeld => ?_)
      clear U0 k3 k4 m8 IS
      refine takeH (i := 0) (d := (some 90)) (v := ?v41) rfl rfl (by kernel_rfl) (by kernel_rfl) (by kernel_rfl) (fun _ _ _ h => h) (by rfl) ?hy41 (by assumption) ?_
      case hy41 => ((intro w hSw; (try dsimp only at hSw); (try go_split_ands); go_simp); try with_reducible rfl)
      simp only [Act.put, List.setIfInBounds_toArray, List.set_cons_zero, List.set_cons_succ]
      refine takeH (i := 3) (d := (some 93)) (v := ?v42) rfl rfl (by kernel_rfl) (by kernel_rfl) (by kernel_rfl) (fun _ _ _ h => h) (by rfl) ?hy42 (by assumption) ?_
      case hy42 => ((intro w hSw; (try dsimp only at hSw); (try go_split_ands); go_simp); try with_reducible rfl)
      simp only [Act.put, List.setIfInBounds_toArray, List.set_cons_zero, List.set_cons_succ]
      refine takeH (i := 4) (d := (some 94)) (v := ?v43) rfl rfl (by kernel_rfl) (by kernel_rfl) (by kernel_rfl) (fun _ _ _ h => h) (by rfl) ?hy43 (by assumption) ?_
      case hy43 => ((intro w hSw; (try dsimp only at hSw); (try go_split_ands); go_simp); try with_reducible rfl)
      simp only [Act.put, List.setIfInBounds_toArray, List.set_cons_zero, List.set_cons_succ]
      refine wpAnyH_ready (rs := [1]) (by kernel_rfl) (by simp) ?_
      refine AllReadyH.cons rfl (fun K hK => ?_) AllReadyH.nil
      go_simp
      refine (HT2.out _).mono ?_
      rintro e w9 ⟨rfl, u9⟩
      go_wp2_with fail
      refine hK.out _ _ ⟨hHeld.1.trans u9, u9.blk hHeld.2.1, u9.blk hHeld.2.2.1, u9.blk hHeld.2.2.2⟩ (fun hHeld => ?_)
      clear hK K u9 HT2
      refine wpAnyH_ready (rs := [2]) (by kernel_rfl) (by simp) ?_
      refine AllReadyH.cons rfl (fun K hK => ?_) AllReadyH.nil
      go_simp
      refine (HBo.out _).mono ?_
      rintro e w10 ⟨rfl, u10⟩
      go_wp2_with fail
      refine hK.out _ _ ⟨hHeld.1.trans u10, u10.blk hHeld.2.1, u10.blk hHeld.2.2.1, u10.blk hHeld.2.2.2⟩ (fun hHeld => ?_)
      clear hK K u10 HBo
      refine wpAnyH_ready (rs := [5]) (by kernel_rfl) (by simp) ?_
      refine AllReadyH.cons rfl (fun K hK => ?_) AllReadyH.nil
      go_simp
      refine (HFr.out _).mono ?_
      rintro e w11 ⟨rfl, u11⟩
      go_wp2_with fail
      refine hK.out _ _ ⟨hHeld.1.trans u11, u11.blk hHeld.2.1, u11.blk hHeld.2.2.1, u11.blk hHeld.2.2.2⟩ (fun hHeld => ?_)
      clear hK K u11 HFr
      refine takeH (i := 6) (d := (some 14)) (v := ?v47) rfl rfl (by kernel_rfl) (by kernel_rfl) (by kernel_rfl) (fun _ _ _ h => h) (by rfl) ?hy47 (by assumption) ?_
      case hy47 => ((intro w hSw; (try dsimp only at hSw); (try go_split_ands); go_simp); try with_reducible rfl)
      simp only [Act.put, List.setIfInBounds_toArray, List.set_cons_zero, List.set_cons_succ]
      refine wpAnyH_done (by kernel_rfl) ?_ _
      obtain ⟨U0, k3, _, _⟩ := hHeld
      go_wp2_with fail
      refine (HFw.out _).mono ?_
      rintro e w12 ⟨rfl, u12⟩
      go_wp2_with fail
      refine (HW.out _).mono ?_
      rintro e w13 ⟨rfl, u13⟩
      go_wp2
      go_ret
      exact ⟨rfl, (U0.trans u12).trans u13⟩

    · clear hP
      go_wp2_with fail
      refine wp_region_held_drew (S := fun w' => Up w w' ∧ mblk w' w.heap.size = some (.cells #[.int .i64 f, .int .i64 s, .int .i64 j, .int .i64 dl, .int .i64 dh] 25 (0, 0)) ∧ mblk w' (w.heap.size + 1) = some (.cells #[.int .i64 n0, .int .i64 n1] 36 (0, 0)) ∧ mblk w' p8 = some (.cells #[.int .i64 sa, .int .i64 sb] 23 (0, 0))) (by kernel_rfl) ⟨U0.drew, by rw [blk_drew]; exact k3, by rw [blk_drew]; exact k4, by rw [blk_drew]; exact m8⟩ (fun hHeld => ?_)
      clear U0 k3 k4 m8 IS
      refine takeH (i := 0) (d := (some 90)) (v := ?v48) rfl rfl (by kernel_rfl) (by kernel_rfl) (by kernel_rfl) (fun _ _ _ h => h) (by rfl) ?hy48 (by assumption) ?_
      case hy48 => ((intro w hSw; (try dsimp only at hSw); (try go_split_ands); go_simp); try with_reducible rfl)
      simp only [Act.put, List.setIfInBounds_toArray, List.set_cons_zero, List.set_cons_succ]
      refine takeH (i := 3) (d := (some 93)) (v := ?v49) rfl rfl (by kernel_rfl) (by kernel_rfl) (by kernel_rfl) (fun _ _ _ h => h) (by rfl) ?hy49 (by assumption) ?_
      case hy49 => ((intro w hSw; (try dsimp only at hSw); (try go_split_ands); go_simp); try with_reducible rfl)
      simp only [Act.put, List.setIfInBounds_toArray, List.set_cons_zero, List.set_cons_succ]
      refine takeH (i := 4) (d := (some 94)) (v := ?v50) rfl rfl (by kernel_rfl) (by kernel_rfl) (by kernel_rfl) (fun _ _ _ h => h) (by rfl) ?hy50 (by assumption) ?_
      case hy50 => ((intro w hSw; (try dsimp only at hSw); (try go_split_ands); go_simp); try with_reducible rfl)
      simp only [Act.put, List.setIfInBounds_toArray, List.set_cons_zero, List.set_cons_succ]
      refine wpAnyH_ready (rs := [1]) (by kernel_rfl) (by simp) ?_
      refine AllReadyH.cons rfl (fun K hK => ?_) AllReadyH.nil
      go_simp
      refine (HT2.out _).mono ?_
      rintro e w9 ⟨rfl, u9⟩
      go_wp2_with fail
      refine hK.out _ _ ⟨hHeld.1.trans u9, u9.blk hHeld.2.1, u9.blk hHeld.2.2.1, u9.blk hHeld.2.2.2⟩ (fun hHeld => ?_)
      clear hK K u9 HT2
      refine wpAnyH_ready (rs := [2]) (by kernel_rfl) (by simp) ?_
      refine AllReadyH.cons rfl (fun K hK => ?_) AllReadyH.nil
      go_simp
      refine (HBo.out _).mono ?_
      rintro e w10 ⟨rfl, u10⟩
      go_wp2_with fail
      refine hK.out _ _ ⟨hHeld.1.trans u10, u10.blk hHeld.2.1, u10.blk hHeld.2.2.1, u10.blk hHeld.2.2.2⟩ (fun hHeld => ?_)
      clear hK K u10 HBo
      refine wpAnyH_ready (rs := [5]) (by kernel_rfl) (by simp) ?_
      refine AllReadyH.cons rfl (fun K hK => ?_) AllReadyH.nil
      go_simp
      refine (HFr.out _).mono ?_
      rintro e w11 ⟨rfl, u11⟩
      go_wp2_with fail
      refine hK.out _ _ ⟨hHeld.1.trans u11, u11.blk hHeld.2.1, u11.blk hHeld.2.2.1, u11.blk hHeld.2.2.2⟩ (fun hHeld => ?_)
      clear hK K u11 HFr
      refine takeH (i := 6) (d := (some 14)) (v := ?v54) rfl rfl (by kernel_rfl) (by kernel_rfl) (by kernel_rfl) (fun _ _ _ h => h) (by rfl) ?hy54 (by assumption) ?_
      case hy54 => ((intro w hSw; (try dsimp only at hSw); (try go_split_ands); go_simp); try with_reducible rfl)
      simp only [Act.put, List.setIfInBounds_toArray, List.set_cons_zero, List.set_cons_succ]
      refine wpAnyH_done (by kernel_rfl) ?_ _
      obtain ⟨U0, k3, _, _⟩ := hHeld
      go_wp2_with fail
      refine (HFw.out _).mono ?_
      rintro e w12 ⟨rfl, u12⟩
      go_wp2_with fail
      refine (HW.out _).mono ?_
      rintro e w13 ⟨rfl, u13⟩
      go_wp2
      go_ret
      exact ⟨rfl, (U0.trans u12).trans u13⟩


end Go.Proofs.Ytckjggkikpgidaa
