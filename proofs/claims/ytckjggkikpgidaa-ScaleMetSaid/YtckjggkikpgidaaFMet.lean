import Derived.Test.YtckjggkikpgidaaKpt
/- The law ScaleMet. -/
namespace Go.Proofs.Ytckjggkikpgidaa
open Go.RowKit

/-- what so many ticks reach, as the fewest ticks see it -/
theorem S.few_in {f s j : Int} (hf : 0 ≤ f) (hs : 0 ≤ s) (hj : 0 ≤ j) (off : Int) (x : Nat) : decide (max off (-off) ≤ S.most (S.part f s (S.against off)) j x) = inB (-off) (-(S.most s j x)) (S.most f j x) := by
  have m1 := (S.most_bd hf hj x).1
  have m2 := (S.most_bd hs hj x).1
  have m3 := (S.most_bd (Int.le_refl 0) hj x).1
  unfold inB
  by_cases p : 0 < off
  · have : S.against off = 0 := by unfold S.against; rw [if_pos p]
    rw [this]
    show decide (max off (-off) ≤ S.most s j x) = _
    exact decide_eq_decide.2 ⟨fun h => ⟨by omega, by omega⟩, fun h => by omega⟩
  · by_cases q : off < 0
    · have : S.against off = 2 := by unfold S.against; rw [if_neg p, if_pos q]
      rw [this]
      show decide (max off (-off) ≤ S.most f j x) = _
      exact decide_eq_decide.2 ⟨fun h => ⟨by omega, by omega⟩, fun h => by omega⟩
    · have : S.against off = 1 := by unfold S.against; rw [if_neg p, if_neg q]
      rw [this]
      show decide (max off (-off) ≤ S.most 0 j x) = _
      exact decide_eq_decide.2 ⟨fun h => ⟨by omega, by omega⟩, fun h => by omega⟩
theorem S.most_0 (e j : Int) : S.most e j 0 = 0 := rfl
theorem S.few_0 {f s j off : Int} {r : Nat} (h : S.Few f s j off r) : r = 0 ↔ off = 0 := by
  constructor
  · intro e
    subst e
    have := of_decide_eq_true (h.2.2 (by omega))
    rw [S.most_0] at this
    omega
  · intro e
    subst e
    exact h.zero
set_option maxRecDepth 100000 in
set_option maxHeartbeats 8000000 in
theorem scaleMet_any (f s j dl dh off : Int) {bv : Option Addr} {bn bc : Nat} {bits : List Int} {w : World} (I : Ints w (.slice bv bn bc) bits) : Calls Try.prog 8 #[RV f s j dl dh, .int .i64 off, .slice bv bn bc] w fun e w' => e = .returned (.bool true) ∧ Up w w' := by
  have U0 := (Up.refl w).alloc (.cells #[.int .i64 f, .int .i64 s, .int .i64 j, .int .i64 dl, .int .i64 dh] 25)
  have k3 := blk_new w (.cells #[.int .i64 f, .int .i64 s, .int .i64 j, .int .i64 dl, .int .i64 dh] 25) _ rfl
  have HI := Lib.hid (fun w => l_isRule_any f s j dl dh w)
  have HW := Lib.hid (fun w => l_works_any w)
  cases hr : S.ok f s j dl dh with
  | false =>
    rw [hr] at HI
    have HP := Lib.hid (fun w => Plan_no (dl := dl) (dh := dh) w hr off)
    have HF := Lib.hid (fun w => Fewest_no (dl := dl) (dh := dh) w hr off)
    clear hr I
    go_enter Try.func8, Try.ntmps8
    go_wp2_with fail
    refine (HP.out _).mono ?_
    rintro e w1 ⟨rfl, u1⟩
    replace k3 := u1.blk k3
    go_wp2_with fail
    refine (HF.out _).mono ?_
    rintro e w2 ⟨rfl, u2⟩
    replace k3 := u2.blk k3
    go_wp2_with fail
    refine (HI.out _).mono ?_
    rintro e w3 ⟨rfl, u3⟩
    go_wp2_with fail
    refine (HW.out _).mono ?_
    rintro e w4 ⟨rfl, u4⟩
    go_wp2
    go_ret
    exact ⟨rfl, (((U0.trans u1).trans u2).trans u3).trans u4⟩
  | true =>
    rw [hr] at HI
    by_cases ho : -20000 ≤ off ∧ off ≤ 20000
    rotate_left
    · have HP := Lib.hid (fun w => Plan_ask (dl := dl) (dh := dh) w hr off ho)
      have HF := Lib.hid (fun w => Fewest_ask (dl := dl) (dh := dh) w hr off ho)
      have HL := Lib.hid (fun w => show Calls Try.prog 42 #[.int .i64 off, .int .i64 (-20000), .int .i64 20000] w fun e w' => e = .returned (.bool false) ∧ w = w' by rw [← inB_no ho]; exact B_Lies_any _ _ _ w)
      clear hr I ho
      go_enter Try.func8, Try.ntmps8
      go_wp2_with fail
      refine (HP.out _).mono ?_
      rintro e w1 ⟨rfl, u1⟩
      replace k3 := u1.blk k3
      go_wp2_with fail
      refine (HF.out _).mono ?_
      rintro e w2 ⟨rfl, u2⟩
      replace k3 := u2.blk k3
      go_wp2_with fail
      refine (HI.out _).mono ?_
      rintro e w3 ⟨rfl, u3⟩
      go_wp2_with fail
      refine (HL.out _).mono ?_
      rintro e w4 ⟨rfl, rfl⟩
      go_wp2_with fail
      refine (HW.out _).mono ?_
      rintro e w4 ⟨rfl, u4⟩
      go_wp2
      go_ret
      exact ⟨rfl, (((U0.trans u1).trans u2).trans u3).trans u4⟩
    obtain ⟨o1, o2⟩ := ho
    have HL := Lib.hid (fun w => show Calls Try.prog 42 #[.int .i64 off, .int .i64 (-20000), .int .i64 20000] w fun e w' => e = .returned (.bool true) ∧ w = w' by rw [← inB_yes o1 o2]; exact B_Lies_any _ _ _ w)
    obtain ⟨⟨f1, f2⟩, ⟨s1, s2⟩, ⟨j1, j2⟩, _⟩ := S.ok_iff.1 hr
    obtain ⟨r, hrk⟩ := S.Few.ex f s j off
    have hin := S.few_in (f := f) (s := s) (j := j) f1 s1 (by omega) off
    have HF := Lib.hid (fun w => Fewest_yes (dl := dl) (dh := dh) w hr off o1 o2 hrk)
    have wo : IntKind.i64.wrap (-off) = -off := IntWalk.i64_in _ (by omega)
    by_cases hr2 : r ≤ 200
    rotate_left
    · have HP := Lib.hid (fun w => Plan_none (dl := dl) (dh := dh) w hr off o1 o2 hrk (by omega))
      rw [if_neg hr2, if_neg hr2] at HF
      have HRe := Lib.hid (fun w => Reach_yes (dl := dl) (dh := dh) w hr 200 (by omega))
      have hno : inB (-off) (-(S.most s j 200)) (S.most f j 200) = false := by rw [← hin 200]; exact hrk.2.1 200 (by omega)
      have HH := Lib.hid (fun w => show Calls Try.prog 43 #[SpV (-(S.most s j 200)) (S.most f j 200), .int .i64 (-off)] w fun e w' => e = .returned (.bool false) ∧ Up w w' by rw [← hno]; exact B_Has_any _ _ _ w)
      generalize -(S.most s j 200) = ra at *
      generalize S.most f j 200 = rb at *
      clear hr I hin hrk hno hr2 o1 o2
      go_enter Try.func8, Try.ntmps8
      go_wp2_with fail
      refine (HP.out _).mono ?_
      rintro e w1 ⟨rfl, u1⟩
      replace k3 := u1.blk k3
      replace U0 := U0.trans u1
      clear u1
      go_wp2_with fail
      refine (HF.out _).mono ?_
      rintro e w2 ⟨rfl, u2⟩
      replace k3 := u2.blk k3
      replace U0 := U0.trans u2
      clear u2
      go_wp2_with fail
      refine (HI.out _).mono ?_
      rintro e w3 ⟨rfl, u3⟩
      replace k3 := u3.blk k3
      replace U0 := U0.trans u3
      clear u3
      go_wp2_with fail
      refine (HL.out _).mono ?_
      rintro e w4 ⟨rfl, rfl⟩
      go_wp2_with fail
      refine (HRe.out _).mono ?_
      rintro e w4 ⟨rfl, u4⟩
      replace U0 := (U0.trans u4).alloc (.cells #[.int .i64 ra, .int .i64 rb] 23)
      go_wp2_with fail
      refine (HH.out _).mono ?_
      rintro e w5 ⟨rfl, u5⟩
      go_wp2_with fail
      refine (HW.out _).mono ?_
      rintro e w6 ⟨rfl, u6⟩
      go_wp2
      go_ret
      exact ⟨rfl, (U0.trans u5).trans u6⟩
    rw [if_pos hr2, if_pos hr2] at HF
    obtain ⟨xs, hpl, hlen, HP⟩ : ∃ xs : Nat → List Int, (∀ L : Nat, S.Level (S.add (S.part f s (S.against off)) j r) r (max off (-off)) L → S.plans f s j off (xs L) = true) ∧ (∀ L : Nat, (xs L).length = r) ∧ Hid (∀ w, Calls Try.prog 20 #[RV f s j dl dh, .int .i64 off] w fun e w' => ∃ (v : Value) (L : Nat), e = .returned (.tuple #[v, .int .i64 0]) ∧ S.Level (S.add (S.part f s (S.against off)) j r) r (max off (-off)) L ∧ Up w w' ∧ Ints w' v (xs L)) := by
      refine ⟨_, fun L hL => S.plan_is hr o1 o2 hr2 hrk hL, fun L => S.list_len _ _ _, Lib.hid fun w => ?_⟩
      exact Plan_yes w hr off o1 o2 hrk hr2
    have h0 := S.few_0 hrk
    have HK := Lib.hid (fun xs (h : S.plans f s j off xs = true) w v (I : Ints w v xs) => l_kept_yes (dl := dl) (dh := dh) hr (S.plans_iff h).1 (S.plans_iff h).2.1 (S.plans_iff h).2.2.1 I)
    have HT := Lib.hid (fun xs (h : S.plans f s j off xs = true) w v (I : Ints w v xs) => show Calls Try.prog 41 #[v] w fun e w' => e = .returned (.int .i64 (-off)) ∧ w = w' by rw [← (S.plans_iff h).2.2.2]; exact B_Total_any I)
    have HIs := Lib.hid (fun xs (h : S.plans f s j off xs = true) w v (I : Ints w v xs) => show Calls Try.prog 16 #[RV f s j dl dh, .int .i64 off, v] w fun e w' => e = .returned (.tuple #[.bool true, .int .i64 0]) ∧ Up w w' by rw [← h]; exact IsPlan_yes hr off o1 o2 I)
    by_cases hz : r = 0
    · have hoz : off = 0 := h0.1 hz
      subst hz
      subst hoz
      clear hr hin hrk hr2 o1 o2 h0 I
      go_enter Try.func8, Try.ntmps8
      go_wp2_with fail
      refine (HP.out _).mono ?_
      rintro e w1 ⟨v, L, rfl, hL, u1, IL⟩
      have hq := hpl L hL
      have hle := hlen L
      generalize xs L = ys at *
      clear hL hpl hlen HP
      obtain ⟨sa, sc, rfl, _, _, _⟩ := IL.is
      rw [hle] at IL ⊢
      replace k3 := u1.blk k3
      replace U0 := U0.trans u1
      clear u1
      go_wp2_with fail
      refine (HF.out _).mono ?_
      rintro e w2 ⟨rfl, u2⟩
      replace k3 := u2.blk k3
      replace U0 := U0.trans u2
      replace IL := IL.up u2
      clear u2 HF
      go_wp2_with fail
      refine (HI.out _).mono ?_
      rintro e w3 ⟨rfl, u3⟩
      replace k3 := u3.blk k3
      replace U0 := U0.trans u3
      replace IL := IL.up u3
      clear u3 HI
      go_wp2_with fail
      refine (HL.out _).mono ?_
      rintro e w4 ⟨rfl, rfl⟩
      go_wp2_with fail
      refine (HIs.out _ hq _ _ IL).mono ?_
      rintro e w4 ⟨rfl, u4⟩
      replace k3 := u4.blk k3
      replace U0 := U0.trans u4
      replace IL := IL.up u4
      clear u4 HIs
      go_wp2_with fail
      refine (HK.out _ hq _ _ IL).mono ?_
      rintro e w5 ⟨rfl, u5⟩
      replace IL := IL.up u5
      replace U0 := U0.trans u5
      go_wp2_with fail
      refine (HT.out _ hq _ _ IL).mono ?_
      rintro e w6 ⟨rfl, rfl⟩
      go_wp2_with fail
      refine (HW.out _).mono ?_
      rintro e w6 ⟨rfl, u6⟩
      go_wp2
      go_ret
      exact ⟨rfl, U0.trans u6⟩
    have hoz : ¬ off = 0 := fun e => hz (h0.2 e)
    have HR1 := Lib.hid (fun w => Reach_yes (dl := dl) (dh := dh) w hr r hr2)
    have HR2 := Lib.hid (fun w => Reach_yes (dl := dl) (dh := dh) w hr (r - 1) (by omega))
    have hy1 : inB (-off) (-(S.most s j r)) (S.most f j r) = true := by rw [← hin r]; exact hrk.2.2 (by omega)
    have hy2 : inB (-off) (-(S.most s j (r - 1))) (S.most f j (r - 1)) = false := by rw [← hin (r - 1)]; exact hrk.2.1 (r - 1) (by omega)
    have HH1 := Lib.hid (fun w => show Calls Try.prog 43 #[SpV (-(S.most s j r)) (S.most f j r), .int .i64 (-off)] w fun e w' => e = .returned (.bool true) ∧ Up w w' by rw [← hy1]; exact B_Has_any _ _ _ w)
    have HH2 := Lib.hid (fun w => show Calls Try.prog 43 #[SpV (-(S.most s j (r - 1))) (S.most f j (r - 1)), .int .i64 (-off)] w fun e w' => e = .returned (.bool false) ∧ Up w w' by rw [← hy2]; exact B_Has_any _ _ _ w)
    have HA := Lib.hid (fun w' (u : Up w w') => B_At_any (I.up u) 0)
    generalize S.at bits 0 = av at *
    obtain ⟨mk, hmk⟩ : ∃ x, min (r : Int) 60 = x := ⟨_, rfl⟩
    have hmn := min_run hmk
    have HR3 := Lib.hid (fun w => B_Rest_any av mk w (by omega) (by omega))
    have q1 := Int.emod_nonneg av (b := mk) (by omega)
    have q2 := Int.emod_lt_of_pos av (b := mk) (by omega)
    obtain ⟨T, hT⟩ : ∃ T : Nat, av % mk = T := ⟨(av % mk).toNat, by omega⟩
    rw [hT] at HR3 q1 q2
    have HSt := Lib.hid (fun w' (u : Up w w') => l_steered_true (dl := dl) (dh := dh) hr (T := T) (by omega) (I.up u))
    have hsl := S.strs_len (f := f) (s := s) (j := j) (T := T) (bits := bits) true
    obtain ⟨m1, m2⟩ := S.strs_reach (f := f) (s := s) (j := j) (T := T) (bits := bits) f1 s1 j1
    generalize S.strs f s j T bits true = zs at *
    have e1 := S.most_bd (e := s) (j := j) s1 (by omega) T
    have e2 := S.most_bd (e := f) (j := j) f1 (by omega) T
    have e3 : (T : Int) * s ≤ 60 * 500 := Int.mul_le_mul (by omega) (by omega) (by omega) (by omega)
    have e4 : (T : Int) * f ≤ 60 * 500 := Int.mul_le_mul (by omega) (by omega) (by omega) (by omega)
    have hw64 : wrap64 zs.sum = zs.sum := wrap_in (by unfold D.in64; omega)
    have hnp : S.plans f s j off zs = false := by
      refine Bool.eq_false_iff.2 fun h => ?_
      have a := (S.plans_iff h).2.2.2
      rw [hw64] at a
      have b : off = -zs.sum := by omega
      rw [b] at hrk
      have := S.Few.within f1 s1 (by omega) (T := T) (b := zs.sum) (by omega) m1 m2 hrk
      omega
    have HI2 := Lib.hid (fun w v (I : Ints w v zs) => show Calls Try.prog 16 #[RV f s j dl dh, .int .i64 off, v] w fun e w' => e = .returned (.tuple #[.bool false, .int .i64 0]) ∧ Up w w' by rw [← hnp]; exact IsPlan_yes hr off o1 o2 I)
    generalize -(S.most s j r) = ra at *
    generalize S.most f j r = rb at *
    generalize -(S.most s j (r - 1)) = ta at *
    generalize S.most f j (r - 1) = tb at *
    have hz' : ((r : Int) == 0) = false := by simpa using hz
    have hoz' : (off == 0) = false := by simpa using hoz
    have hrz : ¬ (r : Int) = 0 := by omega
    have hr200 : decide ((200 : Int) < (r : Int)) = false := decide_eq_false (by omega)
    have wr1 : IntKind.i64.wrap ((r : Int) - 1) = ((r - 1 : Nat) : Int) := by rw [IntWalk.i64_in _ (by omega)]; omega
    clear hr hin hrk o1 o2 h0 I hy1 hy2 hmk q1 q2 hT m1 m2 e1 e2 e3 e4 hw64 hnp hsl f1 f2 s1 s2 j1 j2 hr2
    go_enter Try.func8, Try.ntmps8
    go_wp2_with fail
    refine (HP.out _).mono ?_
    rintro e w1 ⟨v, L, rfl, hL, u1, IL⟩
    have hq := hpl L hL
    have hle := hlen L
    generalize xs L = ys at *
    clear hL hpl hlen HP
    obtain ⟨sa, sc, rfl, _, _, _⟩ := IL.is
    rw [hle] at IL ⊢
    replace k3 := u1.blk k3
    replace U0 := U0.trans u1
    clear u1
    go_wp2_with fail
    refine (HF.out _).mono ?_
    rintro e w2 ⟨rfl, u2⟩
    replace k3 := u2.blk k3
    replace U0 := U0.trans u2
    replace IL := IL.up u2
    clear u2 HF
    go_wp2_with fail
    refine (HI.out _).mono ?_
    rintro e w3 ⟨rfl, u3⟩
    replace k3 := u3.blk k3
    replace U0 := U0.trans u3
    replace IL := IL.up u3
    clear u3 HI
    go_wp2_with fail
    refine (HL.out _).mono ?_
    rintro e w4 ⟨rfl, rfl⟩
    go_wp2_with fail
    refine (HIs.out _ hq _ _ IL).mono ?_
    rintro e w4 ⟨rfl, u4⟩
    replace k3 := u4.blk k3
    replace U0 := U0.trans u4
    replace IL := IL.up u4
    clear u4 HIs
    go_wp2_with fail
    refine (HK.out _ hq _ _ IL).mono ?_
    rintro e w5 ⟨rfl, u5⟩
    replace k3 := u5.blk k3
    replace IL := IL.up u5
    replace U0 := U0.trans u5
    clear u5 HK
    go_wp2_with fail
    refine (HT.out _ hq _ _ IL).mono ?_
    rintro e w6 ⟨rfl, rfl⟩
    clear HT IL hq
    go_wp2_with fail
    refine (HR1.out _).mono ?_
    rintro e w6 ⟨rfl, u6⟩
    have m15 := blk_new w6 (.cells #[.int .i64 ra, .int .i64 rb] 23) _ rfl
    have l3 := blk_lt (u6.blk k3)
    replace k3 := blk_keep (.cells #[.int .i64 ra, .int .i64 rb] 23) (u6.blk k3)
    replace U0 := (U0.trans u6).alloc (.cells #[.int .i64 ra, .int .i64 rb] 23)
    clear u6 HR1
    go_wp2_with fail
    refine (HR2.out _).mono ?_
    rintro e w7 ⟨rfl, u7⟩
    have m16 := blk_new w7 (.cells #[.int .i64 ta, .int .i64 tb] 23) _ rfl
    have l3 := blk_lt (u7.blk k3)
    have l15 := blk_lt (u7.blk m15)
    replace k3 := blk_keep (.cells #[.int .i64 ta, .int .i64 tb] 23) (u7.blk k3)
    replace m15 := blk_keep (.cells #[.int .i64 ta, .int .i64 tb] 23) (u7.blk m15)
    replace U0 := (U0.trans u7).alloc (.cells #[.int .i64 ta, .int .i64 tb] 23)
    clear u7 HR2 wr1
    obtain ⟨p15, hp15⟩ : ∃ p, w6.heap.size = p := ⟨_, rfl⟩
    obtain ⟨p16, hp16⟩ : ∃ p, w7.heap.size = p := ⟨_, rfl⟩
    obtain ⟨W3, hW3⟩ : ∃ W, w7.alloc (.cells #[.int .i64 ta, .int .i64 tb] 23) = W := ⟨_, rfl⟩
    rw [hp15] at m15
    rw [hp16] at m16
    rw [hW3] at m15 m16 k3 U0
    go_wp2_with fail
    clear hp15 hp16 hW3 l3 l15
    refine (HH1.out _).mono ?_
    rintro e w8 ⟨rfl, u8⟩
    replace k3 := u8.blk k3
    replace m16 := u8.blk m16
    replace U0 := U0.trans u8
    clear u8 HH1 m15
    go_wp2_with fail
    refine (HH2.out _).mono ?_
    rintro e w9 ⟨rfl, u9⟩
    replace k3 := u9.blk k3
    replace U0 := U0.trans u9
    clear u9 HH2 m16
    go_wp2_with fail
    refine wp_region_held_drew (S := fun w' => Up w w' ∧ mblk w' w.heap.size = some (.cells #[.int .i64 f, .int .i64 s, .int .i64 j, .int .i64 dl, .int .i64 dh] 25 (0, 0))) (by kernel_rfl) ⟨U0.drew, by rw [blk_drew]; exact k3⟩ (fun hHeld => ?_)
    clear U0 k3
    refine takeH (i := 0) (d := (some 177)) (v := ?v1) rfl rfl (by kernel_rfl) (by kernel_rfl) (by kernel_rfl) (fun _ _ _ h => h) (by rfl) ?hy1 (by assumption) ?_
    case hy1 => ((intro w hSw; (try dsimp only at hSw); (try go_split_ands); go_simp); try with_reducible rfl)
    simp only [Act.put, List.setIfInBounds_toArray, List.set_cons_zero, List.set_cons_succ]
    refine takeH (i := 1) (d := (some 178)) (v := ?v2) rfl rfl (by kernel_rfl) (by kernel_rfl) (by kernel_rfl) (fun _ _ _ h => h) (by rfl) ?hy2 (by assumption) ?_
    case hy2 => ((intro w hSw; (try dsimp only at hSw); (try go_split_ands); go_simp); try with_reducible rfl)
    simp only [Act.put, List.setIfInBounds_toArray, List.set_cons_zero, List.set_cons_succ]
    refine takeH (i := 3) (d := (some 180)) (v := ?v3) rfl rfl (by kernel_rfl) (by kernel_rfl) (by kernel_rfl) (fun _ _ _ h => h) (by rfl) ?hy3 (by assumption) ?_
    case hy3 => ((intro w hSw; (try dsimp only at hSw); (try go_split_ands); go_simp); try with_reducible rfl)
    simp only [Act.put, List.setIfInBounds_toArray, List.set_cons_zero, List.set_cons_succ]
    refine takeH (i := 6) (d := (some 183)) (v := ?v4) rfl rfl (by kernel_rfl) (by kernel_rfl) (by kernel_rfl) (fun _ _ _ h => h) (by rfl) ?hy4 (by assumption) ?_
    case hy4 => ((intro w hSw; (try dsimp only at hSw); (try go_split_ands); go_simp); try with_reducible rfl)
    simp only [Act.put, List.setIfInBounds_toArray, List.set_cons_zero, List.set_cons_succ]
    refine takeH (i := 4) (d := (some 181)) (v := ?v5) rfl rfl (by kernel_rfl) (by kernel_rfl) (by kernel_rfl) (fun _ _ _ h => h) (by rfl) ?hy5 (by assumption) ?_
    case hy5 => ((intro w hSw; (try dsimp only at hSw); (try go_split_ands); go_simp); try with_reducible rfl)
    simp only [Act.put, List.setIfInBounds_toArray, List.set_cons_zero, List.set_cons_succ]
    refine wpAnyH_ready (rs := [2]) (by kernel_rfl) (by simp) ?_
    refine AllReadyH.cons rfl (fun K hK => ?_) AllReadyH.nil
    go_simp
    refine (HA.out _ hHeld.1).mono ?_
    rintro e w10 ⟨rfl, rfl⟩
    go_wp2_with fail
    refine hK.out _ _ hHeld (fun hHeld => ?_)
    clear hK K HA
    refine wpAnyH_ready (rs := [5]) (by kernel_rfl) (by simp) ?_
    refine AllReadyH.cons rfl (fun K hK => ?_) AllReadyH.nil
    go_simp
    refine (HR3.out _).mono ?_
    rintro e w10 ⟨rfl, rfl⟩
    go_wp2_with fail
    refine hK.out _ _ hHeld (fun hHeld => ?_)
    clear hK K HR3
    refine wpAnyH_ready (rs := [7]) (by kernel_rfl) (by simp) ?_
    refine AllReadyH.cons rfl (fun K hK => ?_) AllReadyH.nil
    go_simp
    refine (HSt.out _ hHeld.1).mono ?_
    rintro e w10 ⟨ov, rfl, u10, IS⟩
    go_wp2_with fail
    refine hK.out _ _ ⟨hHeld.1.trans u10, u10.blk hHeld.2⟩ (fun hHeld => ?_)
    clear hK K HSt u10
    refine takeH (i := 8) (d := (some 18)) (v := ?v9) rfl rfl (by kernel_rfl) (by kernel_rfl) (by kernel_rfl) (fun _ _ _ h => h) (by rfl) ?hy9 (by assumption) ?_
    case hy9 => ((intro w hSw; (try dsimp only at hSw); (try go_split_ands); go_simp); try with_reducible rfl)
    simp only [Act.put, List.setIfInBounds_toArray, List.set_cons_zero, List.set_cons_succ]
    refine wpAnyH_done (by kernel_rfl) ?_ _
    obtain ⟨U, k3⟩ := hHeld
    go_wp2_with fail
    refine (HI2.out _ _ IS).mono ?_
    rintro e w11 ⟨rfl, u11⟩
    go_wp2_with fail
    refine (HW.out _).mono ?_
    rintro e w12 ⟨rfl, u12⟩
    go_wp2
    go_ret
    exact ⟨rfl, (U.trans u11).trans u12⟩

end Go.Proofs.Ytckjggkikpgidaa
