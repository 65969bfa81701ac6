import Derived.Test.YtcadpdbadgejfaaRfK
import Derived.Test.YtcadpdbadgejfaaBex
/- The contracts of the reference's Check and change. -/
namespace Go.Proofs.Ytcadpdbadgejfaa
open Go.RowKit

section
variable {f s j dl dh ticks : Int} {a a' : Option Addr} {n c n' c' : Nat} {xs : List Int} {ls : List (Int × Int × Int)}
set_option maxRecDepth 100000 in
set_option maxHeartbeats 4000000 in
theorem r_Check_any {w : World} (I : Ints w (.slice a n c) xs) (I' : Lks w (.slice a' n' c') ls) : Calls Try.prog 30 #[BV f s j dl dh ticks (.slice a n c) (.slice a' n' c')] w fun e w' => e = .returned (.int .i64 (if S.bookOk f s j dl dh ticks xs ls then 0 else 40)) ∧ Up w w' := by
  have U0 := (Up.refl w).alloc (.cells (BC f s j dl dh ticks (.slice a n c) (.slice a' n' c')) 44)
  have k1 := blk_new w (.cells (BC f s j dl dh ticks (.slice a n c) (.slice a' n' c')) 44) _ rfl
  have HR := Lib.hid (fun w => r_checkRule_any f s j dl dh w)
  have HL := Lib.hid (fun w => B_Lies_any ticks 1 60 w)
  have HKp := Lib.hid (fun (h : S.ok f s j dl dh = true) w' (u : Up w w') => r_keeps_any (dl := dl) (dh := dh) h (I.up u))
  have HI' := Lib.hid (fun w' (u : Up w w') => I'.up u)
  have hln := I.len
  have hln' := I'.len.1
  subst hln hln'
  obtain ⟨rv, hrv⟩ : ∃ y : Int, (if S.bookOk f s j dl dh ticks xs ls then (0 : Int) else 40) = y := ⟨_, rfl⟩
  rw [hrv]
  unfold S.bookOk at hrv
  clear I I'
  cases h1 : S.ok f s j dl dh
  · rw [h1, Bool.false_and, if_neg (by decide)] at hrv
    subst hrv
    rw [h1] at HR
    clear h1 HKp HL HI'
    go_enter Try.func30, Try.ntmps30
    go_wp2_with fail
    refine (HR.out _).mono ?_
    rintro e w1 ⟨rfl, u1⟩
    replace k1 := u1.blk k1
    replace U0 := U0.trans u1
    clear u1
    clear HR
    go_wp2_with fail
    go_loopw [3, 4] (fun o i wr => o = .bool false ∧ Up w wr) (fun _ _ _ => 0)
    case atStart => exact ⟨by first | rfl | (rw [decide_eq_false (Int.not_le.2 h5')]), U0⟩
    case round =>
      clear U0 k1
      obtain ⟨rfl, U0⟩ := hrel
      go_wp2
      go_ret
      exact ⟨rfl, U0⟩
  · rw [h1, Bool.true_and] at hrv
    rw [h1] at HR
    replace HKp := Lib.hid (HKp.out h1)
    clear h1
    cases h2 : inB ticks 1 60
    · rw [h2, Bool.false_and, if_neg (by decide)] at hrv
      subst hrv
      rw [h2] at HL
      clear h2 HKp HI'
      go_enter Try.func30, Try.ntmps30
      go_wp2_with fail
      refine (HR.out _).mono ?_
      rintro e w1 ⟨rfl, u1⟩
      replace k1 := u1.blk k1
      replace U0 := U0.trans u1
      clear u1
      clear HR
      go_wp2_with fail
      refine (HL.out _).mono ?_
      rintro e w1 ⟨rfl, rfl⟩
      clear HL
      go_wp2_with fail
      go_loopw [3, 4] (fun o i wr => o = .bool false ∧ Up w wr) (fun _ _ _ => 0)
      case atStart => exact ⟨by first | rfl | (rw [decide_eq_false (Int.not_le.2 h5')]), U0⟩
      case round =>
        clear U0 k1
        obtain ⟨rfl, U0⟩ := hrel
        go_wp2
        go_ret
        exact ⟨rfl, U0⟩
    · rw [h2, Bool.true_and] at hrv
      rw [h2] at HL
      clear h2
      by_cases h3 : (xs.length : Int) ≤ ticks
      · rw [decide_eq_true h3, Bool.true_and] at hrv
        cases h4 : S.keeps f s j 0 xs
        · rw [h4, Bool.false_and, if_neg (by decide)] at hrv
          subst hrv
          rw [h4] at HKp
          clear h4 HI'
          go_enter Try.func30, Try.ntmps30
          go_wp2_with fail
          refine (HR.out _).mono ?_
          rintro e w1 ⟨rfl, u1⟩
          replace k1 := u1.blk k1
          replace U0 := U0.trans u1
          clear u1
          clear HR
          go_wp2_with fail
          refine (HL.out _).mono ?_
          rintro e w1 ⟨rfl, rfl⟩
          clear HL
          go_wp2_with fail
          refine (HKp.out _ U0).mono ?_
          rintro e w1 ⟨rfl, u1⟩
          replace k1 := u1.blk k1
          replace U0 := U0.trans u1
          clear u1
          clear HKp
          go_wp2_with fail
          go_loopw [3, 4] (fun o i wr => o = .bool false ∧ Up w wr) (fun _ _ _ => 0)
          case atStart => exact ⟨by first | rfl | (rw [decide_eq_false (Int.not_le.2 h5')]), U0⟩
          case round =>
            clear U0 k1
            obtain ⟨rfl, U0⟩ := hrel
            go_wp2
            go_ret
            exact ⟨rfl, U0⟩
        · rw [h4, Bool.true_and] at hrv
          rw [h4] at HKp
          clear h4
          by_cases h5 : ls.length ≤ 10
          · rw [decide_eq_true h5, Bool.true_and] at hrv
            have h5' : (ls.length : Int) ≤ 10 := by omega
            have HV := Lib.hid hrv
            clear hrv
            go_enter Try.func30, Try.ntmps30
            go_wp2_with fail
            refine (HR.out _).mono ?_
            rintro e w1 ⟨rfl, u1⟩
            replace k1 := u1.blk k1
            replace U0 := U0.trans u1
            clear u1
            clear HR
            go_wp2_with fail
            refine (HL.out _).mono ?_
            rintro e w1 ⟨rfl, rfl⟩
            clear HL
            go_wp2_with fail
            refine (HKp.out _ U0).mono ?_
            rintro e w1 ⟨rfl, u1⟩
            replace k1 := u1.blk k1
            replace U0 := U0.trans u1
            clear u1
            clear HKp
            go_wp2_with fail
            go_loopw [3, 4] (fun o i wr => ∃ (k : Nat) (b : Bool), k ≤ ls.length ∧ i = .int .i64 k ∧ o = .bool b ∧ Hid (ls.all (S.lookOk ticks) = (b && (ls.drop k).all (S.lookOk ticks))) ∧ Up w wr ∧ mblk wr w.heap.size = some (.cells (BC f s j dl dh ticks (.slice a xs.length c) (.slice a' ls.length c')) 44 (0, 0))) (fun _ i _ => ls.length - (intOf i).toNat)
            case atStart => exact ⟨0, true, Nat.zero_le _, rfl, rfl, by simp [Hid], U0, k1⟩
            case round =>
              clear U0 k1
              obtain ⟨k, b, hk, rfl, rfl, hA, U0, k1⟩ := hrel
              cases b with
              | false =>
                have hz := hA.out
                rw [Bool.false_and] at hz
                have hv := HV.out
                rw [hz, if_neg (by decide)] at hv
                subst hv
                clear hz hA
                go_wp2
                go_ret
                exact ⟨rfl, U0⟩
              | true =>
                by_cases hlt : k < ls.length
                · have hlt' : (k : Int) < (ls.length : Int) := by omega
                  have hz := hA.out
                  rw [Bool.true_and, S.all_drop hlt] at hz
                  have HZ := Lib.hid hz
                  obtain ⟨a1, c1, e1, _, _, hm⟩ := (HI'.out _ U0).is
                  injection e1 with e1 e2 e3
                  subst e1 e3
                  clear e2
                  obtain ⟨g, off, rfl, gl, hc⟩ := hm (by omega)
                  obtain ⟨x1, x2, x3⟩ := hc k hlt
                  generalize ls.getD k (0, 0, 0) = z at *
                  obtain ⟨t, lo, hi⟩ := z
                  simp only at x1 x2 x3
                  have eq : S.lookOk ticks (t, lo, hi) = (inB t 0 ticks && S.spanOk lo hi 20000) := rfl
                  rw [eq] at HZ
                  have e4 : decide (lo ≤ hi ∧ -20000 ≤ lo ∧ hi ≤ 20000) = S.spanOk lo hi 20000 := by
                    rw [Bool.eq_iff_iff, decide_eq_true_iff, S.spanOk_iff]
                    constructor
                    · intro h; omega
                    · intro h; omega
                  have H1 := Lib.hid (fun w => B_Lies_any t 0 ticks w)
                  have H2 := Lib.hid (fun w => show Calls Try.prog 77 #[SpV lo hi, .int .i64 (-20000), .int .i64 20000] w fun e w' => e = .returned (.bool (S.spanOk lo hi 20000)) ∧ Up w w' by rw [← e4]; exact B_Valid_any _ _ _ _ w)
                  generalize inB t 0 ticks = b1 at *
                  generalize S.spanOk lo hi 20000 = b2 at *
                  clear hc hm hz eq e4 hA
                  go_wp2_with fail
                  refine wp_region_held_drew (S := fun w' => Up w w' ∧ mblk w' w.heap.size = some (.cells (BC f s j dl dh ticks (.slice a xs.length c) (.slice (some ⟨g, off, none⟩) ls.length c')) 44 (0, 0)) ∧ w'.cell? ⟨g, off + k * 3, none⟩ = some (.int .i64 t) ∧ w'.cell? ⟨g, off + k * 3 + 1, none⟩ = some (.int .i64 lo) ∧ w'.cell? ⟨g, off + k * 3 + 2, none⟩ = some (.int .i64 hi)) (by kernel_rfl) ⟨U0.drew, by rw [blk_drew]; exact k1, x1, x2, x3⟩ (fun hHeld => ?_)
                  clear U0 k1 x1 x2 x3
                  refine takeH (i := 0) (d := (some 44)) (v := ?v1) rfl rfl (by kernel_rfl) (by kernel_rfl) (by kernel_rfl) (fun _ _ _ h => h) (by rfl) ?hy1 (by assumption) ?_
                  case hy1 => ((intro w hSw; (try dsimp only at hSw); (try go_split_ands); go_simp); try with_reducible rfl)
                  simp only [Act.put, List.setIfInBounds_toArray, List.set_cons_zero, List.set_cons_succ]
                  refine takeH (i := 2) (d := (some 46)) (v := ?v2) rfl rfl (by kernel_rfl) (by kernel_rfl) (by kernel_rfl) (fun _ _ _ h => h) (by rfl) ?hy2 (by assumption) ?_
                  case hy2 => ((intro w hSw; (try dsimp only at hSw); (try go_split_ands); go_simp); try with_reducible rfl)
                  simp only [Act.put, List.setIfInBounds_toArray, List.set_cons_zero, List.set_cons_succ]
                  refine takeH (i := 6) (d := (some 50)) (v := ?v3) rfl rfl (by kernel_rfl) (by kernel_rfl) (by kernel_rfl) (fun _ _ _ h => h) (by rfl) ?hy3 (by assumption) ?_
                  case hy3 => ((intro w hSw; (try dsimp only at hSw); (try go_split_ands); go_simp); try with_reducible rfl)
                  simp only [Act.put, List.setIfInBounds_toArray, List.set_cons_zero, List.set_cons_succ]
                  refine takeH (i := 1) (d := (some 45)) (v := ?v4) rfl rfl (by kernel_rfl) (by kernel_rfl) (by kernel_rfl) (fun _ _ _ h => h) (by rfl) ?hy4 (by assumption) ?_
                  case hy4 => ((intro w hSw; (try dsimp only at hSw); (try go_split_ands); go_simp); try with_reducible rfl)
                  simp only [Act.put, List.setIfInBounds_toArray, List.set_cons_zero, List.set_cons_succ]
                  refine takeH (i := 7) (d := (some 51)) (v := ?v5) rfl rfl (by kernel_rfl) (by kernel_rfl) (by kernel_rfl) (fun _ _ _ h => h) (by rfl) ?hy5 (by assumption) ?_
                  case hy5 => ((intro w hSw; (try dsimp only at hSw); (try go_split_ands); go_simp); try with_reducible rfl)
                  simp only [Act.put, List.setIfInBounds_toArray, List.set_cons_zero, List.set_cons_succ]
                  refine takeH (i := 3) (d := (some 47)) (v := ?v6) rfl rfl (by kernel_rfl) (by kernel_rfl) (by kernel_rfl) (fun _ _ _ h => h) (by rfl) ?hy6 (by assumption) ?_
                  case hy6 => ((intro w hSw; (try dsimp only at hSw); (try go_split_ands); go_simp); try with_reducible rfl)
                  simp only [Act.put, List.setIfInBounds_toArray, List.set_cons_zero, List.set_cons_succ]
                  refine takeH (i := 4) (d := (some 48)) (v := ?v7) rfl rfl (by kernel_rfl) (by kernel_rfl) (by kernel_rfl) (fun _ _ _ h => h) (by rfl) ?hy7 (by assumption) ?_
                  case hy7 => ((intro w hSw; (try dsimp only at hSw); (try go_split_ands); go_simp); try with_reducible rfl)
                  simp only [Act.put, List.setIfInBounds_toArray, List.set_cons_zero, List.set_cons_succ]
                  refine takeH (i := 5) (d := (some 49)) (v := ?v8) rfl rfl (by kernel_rfl) (by kernel_rfl) (by kernel_rfl) (fun _ _ _ h => h) (by rfl) ?hy8 (by assumption) ?_
                  case hy8 => ((intro w hSw; (try dsimp only at hSw); (try go_split_ands); go_simp); try with_reducible rfl)
                  simp only [Act.put, List.setIfInBounds_toArray, List.set_cons_zero, List.set_cons_succ]
                  refine wpAnyH_ready (rs := [8]) (by kernel_rfl) (by simp) ?_
                  refine AllReadyH.cons rfl (fun K hK => ?_) AllReadyH.nil
                  go_simp
                  refine (H1.out _).mono ?_
                  rintro e w3 ⟨rfl, rfl⟩
                  go_wp2_with fail
                  refine hK.out _ _ hHeld (fun hHeld => ?_)
                  clear hK K H1
                  cases b1
                  · skip
                    refine takeH (i := 9) (d := (some 53)) (v := ?v10) rfl rfl (by kernel_rfl) (by kernel_rfl) (by kernel_rfl) (fun _ _ _ h => h) (by rfl) ?hy10 (by assumption) ?_
                    case hy10 => ((intro w hSw; (try dsimp only at hSw); (try go_split_ands); go_simp); try with_reducible rfl)
                    simp only [Act.put, List.setIfInBounds_toArray, List.set_cons_zero, List.set_cons_succ]
                    refine skipH (i := 10) (d := (some 54)) rfl rfl (by kernel_rfl) (by kernel_rfl) (by kernel_rfl) (fun _ _ _ h => h) (by rfl) (by assumption) ?_
                    simp only [Act.put, List.setIfInBounds_toArray, List.set_cons_zero, List.set_cons_succ]
                    refine skipH (i := 12) (d := (some 56)) rfl rfl (by kernel_rfl) (by kernel_rfl) (by kernel_rfl) (fun _ _ _ h => h) (by rfl) (by assumption) ?_
                    simp only [Act.put, List.setIfInBounds_toArray, List.set_cons_zero, List.set_cons_succ]
                    refine skipH (i := 11) (d := (some 55)) rfl rfl (by kernel_rfl) (by kernel_rfl) (by kernel_rfl) (fun _ _ _ h => h) (by rfl) (by assumption) ?_
                    simp only [Act.put, List.setIfInBounds_toArray, List.set_cons_zero, List.set_cons_succ]
                    refine skipH (i := 13) (d := (some 57)) rfl rfl (by kernel_rfl) (by kernel_rfl) (by kernel_rfl) (fun _ _ _ h => h) (by rfl) (by assumption) ?_
                    simp only [Act.put, List.setIfInBounds_toArray, List.set_cons_zero, List.set_cons_succ]
                    refine skipH (i := 14) (d := (some 58)) rfl rfl (by kernel_rfl) (by kernel_rfl) (by kernel_rfl) (fun _ _ _ h => h) (by rfl) (by assumption) ?_
                    simp only [Act.put, List.setIfInBounds_toArray, List.set_cons_zero, List.set_cons_succ]
                    refine skipH (i := 15) (d := (some 59)) rfl rfl (by kernel_rfl) (by kernel_rfl) (by kernel_rfl) (fun _ _ _ h => h) (by rfl) (by assumption) ?_
                    simp only [Act.put, List.setIfInBounds_toArray, List.set_cons_zero, List.set_cons_succ]
                    refine skipH (i := 16) (d := (some 60)) rfl rfl (by kernel_rfl) (by kernel_rfl) (by kernel_rfl) (fun _ _ _ h => h) (by rfl) (by assumption) ?_
                    simp only [Act.put, List.setIfInBounds_toArray, List.set_cons_zero, List.set_cons_succ]
                    refine takeH (i := 17) (d := (some 61)) (v := ?v18) rfl rfl (by kernel_rfl) (by kernel_rfl) (by kernel_rfl) (fun _ _ _ h => h) (by rfl) ?hy18 (by assumption) ?_
                    case hy18 => ((intro w hSw; (try dsimp only at hSw); (try go_split_ands); go_simp); try with_reducible rfl)
                    simp only [Act.put, List.setIfInBounds_toArray, List.set_cons_zero, List.set_cons_succ]
                    refine takeH (i := 18) (d := (some 3)) (v := ?v19) rfl rfl (by kernel_rfl) (by kernel_rfl) (by kernel_rfl) (fun _ _ _ h => h) (by rfl) ?hy19 (by assumption) ?_
                    case hy19 => ((intro w hSw; (try dsimp only at hSw); (try go_split_ands); go_simp); try with_reducible rfl)
                    simp only [Act.put, List.setIfInBounds_toArray, List.set_cons_zero, List.set_cons_succ]
                    refine wpAnyH_done (by kernel_rfl) ?_ _
                    go_wp2_with fail
                    go_roundw
                    case rel => exact ⟨k + 1, false, by omega, by go_num, rfl, by rw [HZ.out]; simp [Hid], hHeld.1, hHeld.2.1⟩
                    case measure => simp [intOf]; omega
                  · skip
                    refine takeH (i := 9) (d := (some 53)) (v := ?v20) rfl rfl (by kernel_rfl) (by kernel_rfl) (by kernel_rfl) (fun _ _ _ h => h) (by rfl) ?hy20 (by assumption) ?_
                    case hy20 => ((intro w hSw; (try dsimp only at hSw); (try go_split_ands); go_simp); try with_reducible rfl)
                    simp only [Act.put, List.setIfInBounds_toArray, List.set_cons_zero, List.set_cons_succ]
                    refine takeH (i := 10) (d := (some 54)) (v := ?v21) rfl rfl (by kernel_rfl) (by kernel_rfl) (by kernel_rfl) (fun _ _ _ h => h) (by rfl) ?hy21 (by assumption) ?_
                    case hy21 => ((intro w hSw; (try dsimp only at hSw); (try go_split_ands); go_simp); try with_reducible rfl)
                    simp only [Act.put, List.setIfInBounds_toArray, List.set_cons_zero, List.set_cons_succ]
                    refine takeH (i := 12) (d := (some 56)) (v := ?v22) rfl rfl (by kernel_rfl) (by kernel_rfl) (by kernel_rfl) (fun _ _ _ h => h) (by rfl) ?hy22 (by assumption) ?_
                    case hy22 => ((intro w hSw; (try dsimp only at hSw); (try go_split_ands); go_simp); try with_reducible rfl)
                    simp only [Act.put, List.setIfInBounds_toArray, List.set_cons_zero, List.set_cons_succ]
                    refine takeH (i := 11) (d := (some 55)) (v := ?v23) rfl rfl (by kernel_rfl) (by kernel_rfl) (by kernel_rfl) (fun _ _ _ h => h) (by rfl) ?hy23 (by assumption) ?_
                    case hy23 => ((intro w hSw; (try dsimp only at hSw); (try go_split_ands); go_simp); try with_reducible rfl)
                    simp only [Act.put, List.setIfInBounds_toArray, List.set_cons_zero, List.set_cons_succ]
                    refine takeH (i := 13) (d := (some 57)) (v := ?v24) rfl rfl (by kernel_rfl) (by kernel_rfl) (by kernel_rfl) (fun _ _ _ h => h) (by rfl) ?hy24 (by assumption) ?_
                    case hy24 => ((intro w hSw; (try dsimp only at hSw); (try go_split_ands); go_simp); try with_reducible rfl)
                    simp only [Act.put, List.setIfInBounds_toArray, List.set_cons_zero, List.set_cons_succ]
                    refine takeH (i := 14) (d := (some 58)) (v := ?v25) rfl rfl (by kernel_rfl) (by kernel_rfl) (by kernel_rfl) (fun _ _ _ h => h) (by rfl) ?hy25 (by assumption) ?_
                    case hy25 => ((intro w hSw; (try dsimp only at hSw); (try go_split_ands); go_simp); try with_reducible rfl)
                    simp only [Act.put, List.setIfInBounds_toArray, List.set_cons_zero, List.set_cons_succ]
                    refine takeH (i := 15) (d := (some 59)) (v := ?v26) rfl rfl (by kernel_rfl) (by kernel_rfl) (by kernel_rfl) (fun _ _ _ h => h) (by rfl) ?hy26 (by assumption) ?_
                    case hy26 => ((intro w hSw; (try dsimp only at hSw); (try go_split_ands); go_simp); try with_reducible rfl)
                    simp only [Act.put, List.setIfInBounds_toArray, List.set_cons_zero, List.set_cons_succ]
                    refine wpAnyH_ready (rs := [16]) (by kernel_rfl) (by simp) ?_
                    refine AllReadyH.cons rfl (fun K hK => ?_) AllReadyH.nil
                    go_simp
                    refine (H2.out _).mono ?_
                    rintro e w3 ⟨rfl, u3⟩
                    go_wp2_with fail
                    refine hK.out _ _ ⟨hHeld.1.trans u3, u3.blk hHeld.2.1, u3.cell2 hHeld.2.2.1, u3.cell2 hHeld.2.2.2.1, u3.cell2 hHeld.2.2.2.2⟩ (fun hHeld => ?_)
                    clear hK K H2 u3
                    refine takeH (i := 17) (d := (some 61)) (v := ?v28) rfl rfl (by kernel_rfl) (by kernel_rfl) (by kernel_rfl) (fun _ _ _ h => h) (by rfl) ?hy28 (by assumption) ?_
                    case hy28 => ((intro w hSw; (try dsimp only at hSw); (try go_split_ands); go_simp); try with_reducible rfl)
                    simp only [Act.put, List.setIfInBounds_toArray, List.set_cons_zero, List.set_cons_succ]
                    refine takeH (i := 18) (d := (some 3)) (v := ?v29) rfl rfl (by kernel_rfl) (by kernel_rfl) (by kernel_rfl) (fun _ _ _ h => h) (by rfl) ?hy29 (by assumption) ?_
                    case hy29 => ((intro w hSw; (try dsimp only at hSw); (try go_split_ands); go_simp); try with_reducible rfl)
                    simp only [Act.put, List.setIfInBounds_toArray, List.set_cons_zero, List.set_cons_succ]
                    refine wpAnyH_done (by kernel_rfl) ?_ _
                    go_wp2_with fail
                    go_roundw
                    case rel => exact ⟨k + 1, b2, by omega, by go_num, rfl, by rw [HZ.out]; simp [Hid], hHeld.1, hHeld.2.1⟩
                    case measure => simp [intOf]; omega
                · have hz := hA.out
                  rw [Bool.true_and, List.drop_eq_nil_of_le (by omega)] at hz
                  have hv := HV.out
                  rw [hz, if_pos (by rfl)] at hv
                  subst hv
                  clear hz hA
                  go_wp2
                  go_ret
                  exact ⟨rfl, U0⟩
          · rw [decide_eq_false h5, Bool.false_and, if_neg (by decide)] at hrv
            subst hrv
            have h5' : ¬ (ls.length : Int) ≤ 10 := by omega
            clear HI'
            go_enter Try.func30, Try.ntmps30
            go_wp2_with fail
            refine (HR.out _).mono ?_
            rintro e w1 ⟨rfl, u1⟩
            replace k1 := u1.blk k1
            replace U0 := U0.trans u1
            clear u1
            clear HR
            go_wp2_with fail
            refine (HL.out _).mono ?_
            rintro e w1 ⟨rfl, rfl⟩
            clear HL
            go_wp2_with fail
            refine (HKp.out _ U0).mono ?_
            rintro e w1 ⟨rfl, u1⟩
            replace k1 := u1.blk k1
            replace U0 := U0.trans u1
            clear u1
            clear HKp
            go_wp2_with fail
            go_loopw [3, 4] (fun o i wr => o = .bool false ∧ Up w wr) (fun _ _ _ => 0)
            case atStart => exact ⟨by first | rfl | (rw [decide_eq_false (Int.not_le.2 h5')]), U0⟩
            case round =>
              clear U0 k1
              obtain ⟨rfl, U0⟩ := hrel
              go_wp2
              go_ret
              exact ⟨rfl, U0⟩
      · rw [decide_eq_false h3, Bool.false_and, Bool.false_and, if_neg (by decide)] at hrv
        subst hrv
        clear HI' HKp
        go_enter Try.func30, Try.ntmps30
        go_wp2_with fail
        refine (HR.out _).mono ?_
        rintro e w1 ⟨rfl, u1⟩
        replace k1 := u1.blk k1
        replace U0 := U0.trans u1
        clear u1
        clear HR
        go_wp2_with fail
        refine (HL.out _).mono ?_
        rintro e w1 ⟨rfl, rfl⟩
        clear HL
        go_wp2_with fail
        go_loopw [3, 4] (fun o i wr => o = .bool false ∧ Up w wr) (fun _ _ _ => 0)
        case atStart => exact ⟨by first | rfl | (rw [decide_eq_false (Int.not_le.2 h5')]), U0⟩
        case round =>
          clear U0 k1
          obtain ⟨rfl, U0⟩ := hrel
          go_wp2
          go_ret
          exact ⟨rfl, U0⟩

set_option maxRecDepth 100000 in
theorem r_change_any {w : World} (I : Ints w (.slice a n c) xs) (k : Nat) (hx : -500 ≤ xs.getD k 0 ∧ xs.getD k 0 ≤ 500) (d1 : -100 ≤ dl ∧ dl ≤ 100) (d2 : -100 ≤ dh ∧ dh ≤ 100) : Calls Try.prog 94 #[BV f s j dl dh ticks (.slice a n c) (.slice a' n' c'), .int .i64 k] w fun e w' => e = .returned (SpV (xs.getD k 0 + dl) (xs.getD k 0 + dh)) ∧ Up w w' := by
  have U0 := ((Up.refl w).alloc (.cells (BC f s j dl dh ticks (.slice a n c) (.slice a' n' c')) 44)).alloc (.cells #[.int .i64 0, .int .i64 0] 23)
  have k1 := blk_keep (.cells #[.int .i64 0, .int .i64 0] 23) (blk_new w (.cells (BC f s j dl dh ticks (.slice a n c) (.slice a' n' c')) 44) _ rfl)
  have k4 := blk_new (w.alloc (.cells (BC f s j dl dh ticks (.slice a n c) (.slice a' n' c')) 44)) (.cells #[.int .i64 0, .int .i64 0] 23) (w.heap.size + 1) (by simp)
  have hln := I.len
  subst hln
  by_cases hk : k < xs.length
  · obtain ⟨a0, c0, e0, _, hl, hm⟩ := (I.up U0).is
    injection e0 with e1 e2 e3
    subst e1 e3
    clear e2
    obtain ⟨g, off, rfl, gl, hc⟩ := hm (by omega)
    have cx := hc k hk
    have hk' : (k : Int) < (xs.length : Int) := by omega
    generalize xs.getD k 0 = x at *
    have w1 : IntKind.i64.wrap (dl + x) = x + dl := by rw [IntWalk.i64_in _ (by omega), Int.add_comm]
    have w2 : IntKind.i64.wrap (dh + x) = x + dh := by rw [IntWalk.i64_in _ (by omega), Int.add_comm]
    have HT := Lib.hid (fun w => B_To_any (x + dl) (x + dh) w)
    generalize x + dl = y1 at *
    generalize x + dh = y2 at *
    clear hc hm I hx d1 d2
    go_enter Try.func94, Try.ntmps94
    go_wp2_with fail
    refine (HT.out _).mono ?_
    rintro e w3 ⟨rfl, u1⟩
    have m4 := u1.blk k4
    have z4 := frozB m4
    have V := U0.trans u1
    have UE := (V.set (p := ⟨w.heap.size + 1, 0, none⟩) (show w.heap.size ≤ w.heap.size + 1 by omega) (.int .i64 y1)).set (p := ⟨w.heap.size + 1, 1, none⟩) (show w.heap.size ≤ w.heap.size + 1 by omega) (.int .i64 y2)
    have C := Lib.hid (cellB (blk_put (blk_put m4 0 (.int .i64 y1)) 1 (.int .i64 y2)))
    clear V u1 U0 k4 cx
    go_wp2_with fail
    have cc := C.out
    exact bodyPost_ret (v := SpV y1 y2) (by simp [results, Try.results94, go_sem, cc]) rfl ⟨rfl, UE⟩
  · have hk' : ¬ (k : Int) < (xs.length : Int) := by omega
    have hz : xs.getD k 0 = 0 := by rw [List.getD_eq_getElem?_getD, List.getElem?_eq_none (by omega)]; rfl
    rw [hz, Int.zero_add, Int.zero_add]
    have w1 : IntKind.i64.wrap (dl + 0) = dl := by rw [Int.add_zero]; exact IntWalk.i64_in _ (by omega)
    have w2 : IntKind.i64.wrap (dh + 0) = dh := by rw [Int.add_zero]; exact IntWalk.i64_in _ (by omega)
    have w3 : IntKind.i64.wrap dl = dl := IntWalk.i64_in _ (by omega)
    have w4 : IntKind.i64.wrap dh = dh := IntWalk.i64_in _ (by omega)
    have HT := Lib.hid (fun w => B_To_any dl dh w)
    clear I hx d1 d2 hz
    go_enter Try.func94, Try.ntmps94
    go_wp2_with fail
    refine (HT.out _).mono ?_
    rintro e w3 ⟨rfl, u1⟩
    have m4 := u1.blk k4
    have z4 := frozB m4
    have V := U0.trans u1
    have UE := (V.set (p := ⟨w.heap.size + 1, 0, none⟩) (show w.heap.size ≤ w.heap.size + 1 by omega) (.int .i64 dl)).set (p := ⟨w.heap.size + 1, 1, none⟩) (show w.heap.size ≤ w.heap.size + 1 by omega) (.int .i64 dh)
    have C := Lib.hid (cellB (blk_put (blk_put m4 0 (.int .i64 dl)) 1 (.int .i64 dh)))
    clear V u1 U0 k4
    go_wp2_with fail
    have cc := C.out
    exact bodyPost_ret (v := SpV dl dh) (by simp [results, Try.results94, go_sem, cc]) rfl ⟨rfl, UE⟩
end

end Go.Proofs.Ytcadpdbadgejfaa
