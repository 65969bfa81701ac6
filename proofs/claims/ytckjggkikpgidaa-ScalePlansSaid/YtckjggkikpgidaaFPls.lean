import Derived.Test.YtckjggkikpgidaaRfe
/- The law ScalePlans. -/
namespace Go.Proofs.Ytckjggkikpgidaa
open Go.RowKit

theorem r_IsPlan_no (f s j dl dh off : Int) (h : S.ok f s j dl dh = false) {v : Value} (w : World) : Calls Try.prog 17 #[RV f s j dl dh, .int .i64 off, v] w fun e w' => e = .returned (.tuple #[.bool false, .int .i64 40]) ∧ Up w w' := by
  have U0 := (Up.refl w).alloc (.cells #[.int .i64 f, .int .i64 s, .int .i64 j, .int .i64 dl, .int .i64 dh] 25)
  have HA := Lib.hid (fun w => r_asked_no f s j dl dh off h w)
  clear h
  go_enter Try.func17, Try.ntmps17
  go_wp2_with fail
  refine (HA.out _).mono ?_
  rintro e w1 ⟨rfl, u1⟩
  go_wp2
  go_ret2
  exact ⟨rfl, U0.trans u1⟩
theorem r_IsPlan_ask (f s j dl dh off : Int) (h : S.ok f s j dl dh = true) (ho : ¬ (-20000 ≤ off ∧ off ≤ 20000)) {v : Value} (w : World) : Calls Try.prog 17 #[RV f s j dl dh, .int .i64 off, v] w fun e w' => e = .returned (.tuple #[.bool false, .int .i64 41]) ∧ Up w w' := by
  have U0 := (Up.refl w).alloc (.cells #[.int .i64 f, .int .i64 s, .int .i64 j, .int .i64 dl, .int .i64 dh] 25)
  have HA := Lib.hid (fun w => r_asked_ask f s j dl dh off h ho w)
  clear h ho
  go_enter Try.func17, Try.ntmps17
  go_wp2_with fail
  refine (HA.out _).mono ?_
  rintro e w1 ⟨rfl, u1⟩
  go_wp2
  go_ret2
  exact ⟨rfl, U0.trans u1⟩
theorem S.isplan_both (f s j dl dh off : Int) (xs : List Int) : ∃ (b : Bool) (e : Int), Hid (∀ w v (_ : Ints w v xs), Calls Try.prog 16 #[RV f s j dl dh, .int .i64 off, v] w fun x w' => x = .returned (.tuple #[.bool b, .int .i64 e]) ∧ Up w w') ∧ Hid (∀ w v (_ : Ints w v xs), Calls Try.prog 17 #[RV f s j dl dh, .int .i64 off, v] w fun x w' => x = .returned (.tuple #[.bool b, .int .i64 e]) ∧ Up w w') := by
  cases h : S.ok f s j dl dh with
  | false => exact ⟨false, 40, Lib.hid fun w v _ => IsPlan_no h off, Lib.hid fun w v _ => r_IsPlan_no f s j dl dh off h w⟩
  | true =>
    by_cases ho : -20000 ≤ off ∧ off ≤ 20000
    · exact ⟨_, 0, Lib.hid fun w v I => IsPlan_yes h off ho.1 ho.2 I, Lib.hid fun w v I => r_IsPlan_yes h off ho.1 ho.2 I⟩
    · exact ⟨false, 41, Lib.hid fun w v _ => IsPlan_ask h off ho, Lib.hid fun w v _ => r_IsPlan_ask f s j dl dh off h ho w⟩
theorem S.few_both (f s j dl dh off : Int) : (∃ n e : Int, ¬ e = 0 ∧ Hid (∀ w, Calls Try.prog 18 #[RV f s j dl dh, .int .i64 off] w fun x w' => x = .returned (.tuple #[.int .i64 n, .int .i64 e]) ∧ Up w w') ∧ Hid (∀ w, Calls Try.prog 19 #[RV f s j dl dh, .int .i64 off] w fun x w' => x = .returned (.tuple #[.int .i64 n, .int .i64 e]) ∧ Up w w') ∧ Hid (∀ w, Calls Try.prog 20 #[RV f s j dl dh, .int .i64 off] w fun x w' => x = .returned (.tuple #[.slice none 0 0, .int .i64 e]) ∧ Up w w'))
    ∨ (∃ r : Nat, Hid (∀ w, Calls Try.prog 18 #[RV f s j dl dh, .int .i64 off] w fun x w' => x = .returned (.tuple #[.int .i64 r, .int .i64 0]) ∧ Up w w') ∧ Hid (∀ w, Calls Try.prog 19 #[RV f s j dl dh, .int .i64 off] w fun x w' => x = .returned (.tuple #[.int .i64 r, .int .i64 0]) ∧ Up w w') ∧ Hid (∀ w, Calls Try.prog 20 #[RV f s j dl dh, .int .i64 off] w fun x w' => ∃ v ys, x = .returned (.tuple #[v, .int .i64 0]) ∧ Up w w' ∧ Ints w' v ys ∧ ys.length = r ∧ Hid (∀ w v (_ : Ints w v ys), Calls Try.prog 17 #[RV f s j dl dh, .int .i64 off, v] w fun x w' => x = .returned (.tuple #[.bool true, .int .i64 0]) ∧ Up w w'))) := by
  cases h : S.ok f s j dl dh with
  | false => exact .inl ⟨0, 40, by decide, Lib.hid fun w => Fewest_no w h off, Lib.hid fun w => r_Fewest_no f s j dl dh off h w, Lib.hid fun w => Plan_no w h off⟩
  | true =>
    by_cases ho : -20000 ≤ off ∧ off ≤ 20000
    · obtain ⟨o1, o2⟩ := ho
      obtain ⟨r, hrk⟩ := S.Few.ex f s j off
      have A := fun w => Fewest_yes (dl := dl) (dh := dh) w h off o1 o2 hrk
      have B := fun w => r_Fewest_yes f s j dl dh off h o1 o2 hrk w
      by_cases h2 : r ≤ 200
      · rw [if_pos h2, if_pos h2] at A B
        refine .inr ⟨r, Lib.hid A, Lib.hid B, Lib.hid fun w => (Plan_yes w h off o1 o2 hrk h2).mono ?_⟩
        rintro x w' ⟨v, L, e, hL, u, I⟩
        have hq := S.plan_is h o1 o2 h2 hrk hL
        refine ⟨v, _, e, u, I, S.list_len _ _ _, Lib.hid fun w v I => ?_⟩
        rw [← hq]
        exact r_IsPlan_yes h off o1 o2 I
      · rw [if_neg h2, if_neg h2] at A B
        exact .inl ⟨0, 4, by decide, Lib.hid A, Lib.hid B, Lib.hid fun w => Plan_none w h off o1 o2 hrk (by omega)⟩
    · exact .inl ⟨0, 41, by decide, Lib.hid fun w => Fewest_ask w h off ho, Lib.hid fun w => r_Fewest_ask f s j dl dh off h ho w, Lib.hid fun w => Plan_ask w h off ho⟩
set_option maxRecDepth 100000 in
set_option maxHeartbeats 4000000 in
theorem scalePlans_any (f s j dl dh off : Int) {bv : Option Addr} {bn bc : Nat} {xs : List Int} {w : World} (I : Ints w (.slice bv bn bc) xs) : Calls Try.prog 3 #[RV f s j dl dh, .int .i64 off, .slice bv bn bc] w fun e w' => e = .returned (.bool true) ∧ Up w w' := by
  have U0 := (Up.refl w).alloc (.cells #[.int .i64 f, .int .i64 s, .int .i64 j, .int .i64 dl, .int .i64 dh] 25)
  have k3 := blk_new w (.cells #[.int .i64 f, .int .i64 s, .int .i64 j, .int .i64 dl, .int .i64 dh] 25) _ rfl
  have HW := Lib.hid (fun w => l_works_any w)
  have HI := Lib.hid (fun w' (u : Up w w') => I.up u)
  obtain ⟨b, e0, HA, HB⟩ := S.isplan_both f s j dl dh off xs
  have HM := S.few_both f s j dl dh off
  clear I
  rcases HM with ⟨n, e, hne, HC, HD, HE⟩ | ⟨r, HC, HD, HE⟩
  · have hne2 : (e == 0) = false := by simpa using hne
    go_enter Try.func3, Try.ntmps3
    go_wp2_with fail
    refine (HA.out _ _ (HI.out _ U0)).mono ?_
    rintro x w1 ⟨rfl, u1⟩
    replace k3 := u1.blk k3
    replace U0 := U0.trans u1
    clear u1 HA
    go_wp2_with fail
    refine (HB.out _ _ (HI.out _ U0)).mono ?_
    rintro x w1 ⟨rfl, u1⟩
    replace k3 := u1.blk k3
    replace U0 := U0.trans u1
    clear u1 HB HI
    go_wp2_with fail
    refine (HC.out _).mono ?_
    rintro x w1 ⟨rfl, u1⟩
    replace k3 := u1.blk k3
    replace U0 := U0.trans u1
    clear u1 HC
    go_wp2_with fail
    refine (HD.out _).mono ?_
    rintro x w1 ⟨rfl, u1⟩
    replace k3 := u1.blk k3
    replace U0 := U0.trans u1
    clear u1 HD
    go_wp2_with fail
    refine (HE.out _).mono ?_
    rintro x w1 ⟨rfl, u1⟩
    replace U0 := U0.trans u1
    clear u1 HE k3
    go_wp2_with fail
    refine (HW.out _).mono ?_
    rintro x w7 ⟨rfl, u7⟩
    go_wp2
    go_ret
    exact ⟨rfl, U0.trans u7⟩
  · go_enter Try.func3, Try.ntmps3
    go_wp2_with fail
    refine (HA.out _ _ (HI.out _ U0)).mono ?_
    rintro x w1 ⟨rfl, u1⟩
    replace k3 := u1.blk k3
    replace U0 := U0.trans u1
    clear u1 HA
    go_wp2_with fail
    refine (HB.out _ _ (HI.out _ U0)).mono ?_
    rintro x w1 ⟨rfl, u1⟩
    replace k3 := u1.blk k3
    replace U0 := U0.trans u1
    clear u1 HB HI
    go_wp2_with fail
    refine (HC.out _).mono ?_
    rintro x w1 ⟨rfl, u1⟩
    replace k3 := u1.blk k3
    replace U0 := U0.trans u1
    clear u1 HC
    go_wp2_with fail
    refine (HD.out _).mono ?_
    rintro x w1 ⟨rfl, u1⟩
    replace k3 := u1.blk k3
    replace U0 := U0.trans u1
    clear u1 HD
    go_wp2_with fail
    refine (HE.out _).mono ?_
    rintro x w1 ⟨v, ys, rfl, u1, IL, hle, HP⟩
    replace k3 := u1.blk k3
    replace U0 := U0.trans u1
    obtain ⟨sa, sc, rfl, _, _, _⟩ := IL.is
    rw [hle] at IL ⊢
    clear u1 HE
    go_wp2_with fail
    refine (HP.out _ _ IL).mono ?_
    rintro x w2 ⟨rfl, u2⟩
    replace U0 := U0.trans u2
    clear u2 HP IL k3
    go_wp2_with fail
    refine (HW.out _).mono ?_
    rintro x w7 ⟨rfl, u7⟩
    go_wp2
    go_ret
    exact ⟨rfl, U0.trans u7⟩

end Go.Proofs.Ytckjggkikpgidaa
