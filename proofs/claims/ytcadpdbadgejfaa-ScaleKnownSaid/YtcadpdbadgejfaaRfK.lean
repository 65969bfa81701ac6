import Derived.Test.YtcadpdbadgejfaaRfJ
/- The contracts of the reference's asked, smooth and IsPlan. -/
namespace Go.Proofs.Ytcadpdbadgejfaa
open Go.RowKit

theorem r_asked_no (f s j dl dh off : Int) (h : S.ok f s j dl dh = false) (w : World) : Calls Try.prog 57 #[RV f s j dl dh, .int .i64 off] w fun e w' => e = .returned (.int .i64 40) ∧ Up w w' := by
  have U0 := (Up.refl w).alloc (.cells #[.int .i64 f, .int .i64 s, .int .i64 j, .int .i64 dl, .int .i64 dh] 25)
  have HC := Lib.hid (fun w => r_checkRule_any f s j dl dh w)
  rw [h] at HC
  clear h
  go_enter Try.func57, Try.ntmps57
  go_wp2_with fail
  refine (HC.out _).mono ?_
  rintro e w1 ⟨rfl, u1⟩
  go_wp2
  go_ret
  exact ⟨rfl, U0.trans u1⟩
theorem r_asked_ask (f s j dl dh off : Int) (h : S.ok f s j dl dh = true) (ho : ¬ (-20000 ≤ off ∧ off ≤ 20000)) (w : World) : Calls Try.prog 57 #[RV f s j dl dh, .int .i64 off] w fun e w' => e = .returned (.int .i64 41) ∧ Up w w' := by
  have U0 := (Up.refl w).alloc (.cells #[.int .i64 f, .int .i64 s, .int .i64 j, .int .i64 dl, .int .i64 dh] 25)
  have HC := Lib.hid (fun w => r_checkRule_any f s j dl dh w)
  rw [h] at HC
  have HL := Lib.hid (fun w => show Calls Try.prog 42 #[.int .i64 off, .int .i64 (-20000), .int .i64 20000] w fun e w' => e = .returned (.bool false) ∧ w = w' by rw [← inB_no ho]; exact B_Lies_any _ _ _ w)
  clear h ho
  go_enter Try.func57, Try.ntmps57
  go_wp2_with fail
  refine (HC.out _).mono ?_
  rintro e w1 ⟨rfl, u1⟩
  go_wp2_with fail
  refine (HL.out _).mono ?_
  rintro e w2 ⟨rfl, rfl⟩
  go_wp2
  go_ret
  exact ⟨rfl, U0.trans u1⟩
theorem r_asked_yes (f s j dl dh off : Int) (h : S.ok f s j dl dh = true) (o1 : -20000 ≤ off) (o2 : off ≤ 20000) (w : World) : Calls Try.prog 57 #[RV f s j dl dh, .int .i64 off] w fun e w' => e = .returned (.int .i64 0) ∧ Up w w' := by
  have U0 := (Up.refl w).alloc (.cells #[.int .i64 f, .int .i64 s, .int .i64 j, .int .i64 dl, .int .i64 dh] 25)
  have HC := Lib.hid (fun w => r_checkRule_any f s j dl dh w)
  rw [h] at HC
  have HL := Lib.hid (fun w => show Calls Try.prog 42 #[.int .i64 off, .int .i64 (-20000), .int .i64 20000] w fun e w' => e = .returned (.bool true) ∧ w = w' by rw [← inB_yes o1 o2]; exact B_Lies_any _ _ _ w)
  clear h o1 o2
  go_enter Try.func57, Try.ntmps57
  go_wp2_with fail
  refine (HC.out _).mono ?_
  rintro e w1 ⟨rfl, u1⟩
  go_wp2_with fail
  refine (HL.out _).mono ?_
  rintro e w2 ⟨rfl, rfl⟩
  go_wp2
  go_ret
  exact ⟨rfl, U0.trans u1⟩
set_option maxRecDepth 100000 in
set_option maxHeartbeats 4000000 in
theorem r_smooth_any (f s j dl dh : Int) (j1 : 1 ≤ j) {xs : List Int} (hp : -500 ≤ S.prv xs xs.length ∧ S.prv xs xs.length ≤ 500) {v : Value} {w : World} (I : Ints w v xs) : Calls Try.prog 59 #[RV f s j dl dh, v] w fun e w' => e = .returned (.bool (decide (max (S.prv xs xs.length) (-(S.prv xs xs.length)) ≤ j))) ∧ Up w w' := by
  have U0 := (Up.refl w).alloc (.cells #[.int .i64 f, .int .i64 s, .int .i64 j, .int .i64 dl, .int .i64 dh] 25)
  have k0 := blk_new w (.cells #[.int .i64 f, .int .i64 s, .int .i64 j, .int .i64 dl, .int .i64 dh] 25) _ rfl
  obtain ⟨a, c, rfl, _, hl, hm⟩ := I.is
  by_cases hz : xs.length = 0
  · rw [hz]
    have e0 : decide (max (S.prv xs 0) (-(S.prv xs 0)) ≤ j) = true := decide_eq_true (by show max 0 (-0) ≤ j; omega)
    rw [e0]
    clear e0 hp hm I hz hl
    go_enter Try.func59, Try.ntmps59
    go_wp2_with fail
    refine wp_region_held_drew (S := fun w' => Up w w') (by kernel_rfl) U0.drew (fun hHeld => ?_)
    refine takeH (i := 0) (d := (some 5)) (v := ?v1) rfl rfl (by kernel_rfl) (by kernel_rfl) (by kernel_rfl) (fun _ _ _ h => h) (by rfl) ?hy1 (by assumption) ?_
    case hy1 => ((intro w hSw; (try dsimp only at hSw); (try go_split_ands); go_simp); try with_reducible rfl)
    simp only [Act.put, List.setIfInBounds_toArray, List.set_cons_zero, List.set_cons_succ]
    refine takeH (i := 1) (d := (some 6)) (v := ?v2) rfl rfl (by kernel_rfl) (by kernel_rfl) (by kernel_rfl) (fun _ _ _ h => h) (by rfl) ?hy2 (by assumption) ?_
    case hy2 => ((intro w hSw; (try dsimp only at hSw); (try go_split_ands); go_simp); try with_reducible rfl)
    simp only [Act.put, List.setIfInBounds_toArray, List.set_cons_zero, List.set_cons_succ]
    refine takeH (i := 2) (d := (some 7)) (v := ?v3) rfl rfl (by kernel_rfl) (by kernel_rfl) (by kernel_rfl) (fun _ _ _ h => h) (by rfl) ?hy3 (by assumption) ?_
    case hy3 => ((intro w hSw; (try dsimp only at hSw); (try go_split_ands); go_simp); try with_reducible rfl)
    simp only [Act.put, List.setIfInBounds_toArray, List.set_cons_zero, List.set_cons_succ]
    refine takeH (i := 3) (d := (some 8)) (v := ?v4) rfl rfl (by kernel_rfl) (by kernel_rfl) (by kernel_rfl) (fun _ _ _ h => h) (by rfl) ?hy4 (by assumption) ?_
    case hy4 => ((intro w hSw; (try dsimp only at hSw); (try go_split_ands); go_simp); try with_reducible rfl)
    simp only [Act.put, List.setIfInBounds_toArray, List.set_cons_zero, List.set_cons_succ]
    refine skipH (i := 4) (d := (some 9)) rfl rfl (by kernel_rfl) (by kernel_rfl) (by kernel_rfl) (fun _ _ _ h => h) (by rfl) (by assumption) ?_
    simp only [Act.put, List.setIfInBounds_toArray, List.set_cons_zero, List.set_cons_succ]
    refine skipH (i := 5) (d := (some 10)) rfl rfl (by kernel_rfl) (by kernel_rfl) (by kernel_rfl) (fun _ _ _ h => h) (by rfl) (by assumption) ?_
    simp only [Act.put, List.setIfInBounds_toArray, List.set_cons_zero, List.set_cons_succ]
    refine skipH (i := 6) (d := (some 11)) rfl rfl (by kernel_rfl) (by kernel_rfl) (by kernel_rfl) (fun _ _ _ h => h) (by rfl) (by assumption) ?_
    simp only [Act.put, List.setIfInBounds_toArray, List.set_cons_zero, List.set_cons_succ]
    refine skipH (i := 7) (d := (some 12)) rfl rfl (by kernel_rfl) (by kernel_rfl) (by kernel_rfl) (fun _ _ _ h => h) (by rfl) (by assumption) ?_
    simp only [Act.put, List.setIfInBounds_toArray, List.set_cons_zero, List.set_cons_succ]
    refine skipH (i := 8) (d := (some 13)) rfl rfl (by kernel_rfl) (by kernel_rfl) (by kernel_rfl) (fun _ _ _ h => h) (by rfl) (by assumption) ?_
    simp only [Act.put, List.setIfInBounds_toArray, List.set_cons_zero, List.set_cons_succ]
    refine skipH (i := 9) (d := (some 14)) rfl rfl (by kernel_rfl) (by kernel_rfl) (by kernel_rfl) (fun _ _ _ h => h) (by rfl) (by assumption) ?_
    simp only [Act.put, List.setIfInBounds_toArray, List.set_cons_zero, List.set_cons_succ]
    refine skipH (i := 10) (d := (some 15)) rfl rfl (by kernel_rfl) (by kernel_rfl) (by kernel_rfl) (fun _ _ _ h => h) (by rfl) (by assumption) ?_
    simp only [Act.put, List.setIfInBounds_toArray, List.set_cons_zero, List.set_cons_succ]
    refine skipH (i := 11) (d := (some 16)) rfl rfl (by kernel_rfl) (by kernel_rfl) (by kernel_rfl) (fun _ _ _ h => h) (by rfl) (by assumption) ?_
    simp only [Act.put, List.setIfInBounds_toArray, List.set_cons_zero, List.set_cons_succ]
    refine skipH (i := 12) (d := (some 17)) rfl rfl (by kernel_rfl) (by kernel_rfl) (by kernel_rfl) (fun _ _ _ h => h) (by rfl) (by assumption) ?_
    simp only [Act.put, List.setIfInBounds_toArray, List.set_cons_zero, List.set_cons_succ]
    refine skipH (i := 13) (d := (some 18)) rfl rfl (by kernel_rfl) (by kernel_rfl) (by kernel_rfl) (fun _ _ _ h => h) (by rfl) (by assumption) ?_
    simp only [Act.put, List.setIfInBounds_toArray, List.set_cons_zero, List.set_cons_succ]
    refine takeH (i := 14) (d := (some 19)) (v := ?v15) rfl rfl (by kernel_rfl) (by kernel_rfl) (by kernel_rfl) (fun _ _ _ h => h) (by rfl) ?hy15 (by assumption) ?_
    case hy15 => ((intro w hSw; (try dsimp only at hSw); (try go_split_ands); go_simp); try with_reducible rfl)
    simp only [Act.put, List.setIfInBounds_toArray, List.set_cons_zero, List.set_cons_succ]
    refine takeH (i := 15) (d := (some 4)) (v := ?v16) rfl rfl (by kernel_rfl) (by kernel_rfl) (by kernel_rfl) (fun _ _ _ h => h) (by rfl) ?hy16 (by assumption) ?_
    case hy16 => ((intro w hSw; (try dsimp only at hSw); (try go_split_ands); go_simp); try with_reducible rfl)
    simp only [Act.put, List.setIfInBounds_toArray, List.set_cons_zero, List.set_cons_succ]
    refine wpAnyH_done (by kernel_rfl) ?_ _
    go_wp2
    go_ret
    exact ⟨rfl, hHeld⟩
  · obtain ⟨g, off, rfl, gl, hc⟩ := hm (by omega)
    obtain ⟨n, hn⟩ : ∃ n, xs.length = n + 1 := ⟨xs.length - 1, by omega⟩
    have c1 := (U0.facts.1 g (off + n) gl).trans (hc n (by omega))
    rw [hn] at hp hl ⊢
    have ep : S.prv xs (n + 1) = xs.getD n 0 := rfl
    rw [ep] at hp ⊢
    generalize xs.getD n 0 = p at *
    have HS := Lib.hid (fun w => B_Size_any p w (by omega) (by omega))
    have w2 : IntKind.i64.wrap (n : Int) = (n : Int) := IntWalk.i64_in _ (by omega)
    have hnz : ¬ (n : Int) + 1 = 0 := by omega
    have hnb : ((n : Int) + 1 == 0) = false := by simpa using hnz
    have bk : (n : Int) < (n : Int) + 1 := by omega
    generalize max p (-p) = q at *
    clear hc I hm hz hn hl hp
    go_enter Try.func59, Try.ntmps59
    go_wp2_with fail
    refine wp_region_held_drew (S := fun w' => Up w w' ∧ mblk w' w.heap.size = some (.cells #[.int .i64 f, .int .i64 s, .int .i64 j, .int .i64 dl, .int .i64 dh] 25 (0, 0)) ∧ w'.cell? ⟨g, off + n, none⟩ = some (.int .i64 p)) (by kernel_rfl) ⟨U0.drew, by rw [blk_drew]; exact k0, c1⟩ (fun hHeld => ?_)
    clear U0 k0 c1
    refine takeH (i := 0) (d := (some 5)) (v := ?v17) rfl rfl (by kernel_rfl) (by kernel_rfl) (by kernel_rfl) (fun _ _ _ h => h) (by rfl) ?hy17 (by assumption) ?_
    case hy17 => ((intro w hSw; (try dsimp only at hSw); (try go_split_ands); go_simp); try with_reducible rfl)
    simp only [Act.put, List.setIfInBounds_toArray, List.set_cons_zero, List.set_cons_succ]
    refine takeH (i := 1) (d := (some 6)) (v := ?v18) rfl rfl (by kernel_rfl) (by kernel_rfl) (by kernel_rfl) (fun _ _ _ h => h) (by rfl) ?hy18 (by assumption) ?_
    case hy18 => ((intro w hSw; (try dsimp only at hSw); (try go_split_ands); go_simp); try with_reducible rfl)
    simp only [Act.put, List.setIfInBounds_toArray, List.set_cons_zero, List.set_cons_succ]
    refine takeH (i := 2) (d := (some 7)) (v := ?v19) rfl rfl (by kernel_rfl) (by kernel_rfl) (by kernel_rfl) (fun _ _ _ h => h) (by rfl) ?hy19 (by assumption) ?_
    case hy19 => ((intro w hSw; (try dsimp only at hSw); (try go_split_ands); go_simp); try with_reducible rfl)
    simp only [Act.put, List.setIfInBounds_toArray, List.set_cons_zero, List.set_cons_succ]
    refine takeH (i := 3) (d := (some 8)) (v := ?v20) rfl rfl (by kernel_rfl) (by kernel_rfl) (by kernel_rfl) (fun _ _ _ h => h) (by rfl) ?hy20 (by assumption) ?_
    case hy20 => ((intro w hSw; (try dsimp only at hSw); (try go_split_ands); go_simp); try with_reducible rfl)
    simp only [Act.put, List.setIfInBounds_toArray, List.set_cons_zero, List.set_cons_succ]
    refine takeH (i := 4) (d := (some 9)) (v := ?v21) rfl rfl (by kernel_rfl) (by kernel_rfl) (by kernel_rfl) (fun _ _ _ h => h) (by rfl) ?hy21 (by assumption) ?_
    case hy21 => ((intro w hSw; (try dsimp only at hSw); (try go_split_ands); go_simp); try with_reducible rfl)
    simp only [Act.put, List.setIfInBounds_toArray, List.set_cons_zero, List.set_cons_succ]
    refine takeH (i := 5) (d := (some 10)) (v := ?v22) rfl rfl (by kernel_rfl) (by kernel_rfl) (by kernel_rfl) (fun _ _ _ h => h) (by rfl) ?hy22 (by assumption) ?_
    case hy22 => ((intro w hSw; (try dsimp only at hSw); (try go_split_ands); go_simp); try with_reducible rfl)
    simp only [Act.put, List.setIfInBounds_toArray, List.set_cons_zero, List.set_cons_succ]
    refine takeH (i := 6) (d := (some 11)) (v := ?v23) rfl rfl (by kernel_rfl) (by kernel_rfl) (by kernel_rfl) (fun _ _ _ h => h) (by rfl) ?hy23 (by assumption) ?_
    case hy23 => ((intro w hSw; (try dsimp only at hSw); (try go_split_ands); go_simp); try with_reducible rfl)
    simp only [Act.put, List.setIfInBounds_toArray, List.set_cons_zero, List.set_cons_succ]
    refine takeH (i := 7) (d := (some 12)) (v := ?v24) rfl rfl (by kernel_rfl) (by kernel_rfl) (by kernel_rfl) (fun _ _ _ h => h) (by rfl) ?hy24 (by assumption) ?_
    case hy24 => ((intro w hSw; (try dsimp only at hSw); (try go_split_ands); go_simp); try with_reducible rfl)
    simp only [Act.put, List.setIfInBounds_toArray, List.set_cons_zero, List.set_cons_succ]
    refine takeH (i := 8) (d := (some 13)) (v := ?v25) rfl rfl (by kernel_rfl) (by kernel_rfl) (by kernel_rfl) (fun _ _ _ h => h) (by rfl) ?hy25 (by assumption) ?_
    case hy25 => ((intro w hSw; (try dsimp only at hSw); (try go_split_ands); go_simp); try with_reducible rfl)
    simp only [Act.put, List.setIfInBounds_toArray, List.set_cons_zero, List.set_cons_succ]
    refine takeH (i := 9) (d := (some 14)) (v := ?v26) rfl rfl (by kernel_rfl) (by kernel_rfl) (by kernel_rfl) (fun _ _ _ h => h) (by rfl) ?hy26 (by assumption) ?_
    case hy26 => ((intro w hSw; (try dsimp only at hSw); (try go_split_ands); go_simp); try with_reducible rfl)
    simp only [Act.put, List.setIfInBounds_toArray, List.set_cons_zero, List.set_cons_succ]
    refine takeH (i := 11) (d := (some 16)) (v := ?v27) rfl rfl (by kernel_rfl) (by kernel_rfl) (by kernel_rfl) (fun _ _ _ h => h) (by rfl) ?hy27 (by assumption) ?_
    case hy27 => ((intro w hSw; (try dsimp only at hSw); (try go_split_ands); go_simp); try with_reducible rfl)
    simp only [Act.put, List.setIfInBounds_toArray, List.set_cons_zero, List.set_cons_succ]
    refine takeH (i := 12) (d := (some 17)) (v := ?v28) rfl rfl (by kernel_rfl) (by kernel_rfl) (by kernel_rfl) (fun _ _ _ h => h) (by rfl) ?hy28 (by assumption) ?_
    case hy28 => ((intro w hSw; (try dsimp only at hSw); (try go_split_ands); go_simp); try with_reducible rfl)
    simp only [Act.put, List.setIfInBounds_toArray, List.set_cons_zero, List.set_cons_succ]
    refine wpAnyH_ready (rs := [10]) (by kernel_rfl) (by simp) ?_
    refine AllReadyH.cons rfl (fun K hK => ?_) AllReadyH.nil
    go_simp
    refine (HS.out _).mono ?_
    rintro e w3 ⟨rfl, rfl⟩
    go_wp2_with fail
    refine hK.out _ _ hHeld (fun hHeld => ?_)
    clear hK K HS
    refine takeH (i := 13) (d := (some 18)) (v := ?v30) rfl rfl (by kernel_rfl) (by kernel_rfl) (by kernel_rfl) (fun _ _ _ h => h) (by rfl) ?hy30 (by assumption) ?_
    case hy30 => ((intro w hSw; (try dsimp only at hSw); (try go_split_ands); go_simp); try with_reducible rfl)
    simp only [Act.put, List.setIfInBounds_toArray, List.set_cons_zero, List.set_cons_succ]
    refine takeH (i := 14) (d := (some 19)) (v := ?v31) rfl rfl (by kernel_rfl) (by kernel_rfl) (by kernel_rfl) (fun _ _ _ h => h) (by rfl) ?hy31 (by assumption) ?_
    case hy31 => ((intro w hSw; (try dsimp only at hSw); (try go_split_ands); go_simp); try with_reducible rfl)
    simp only [Act.put, List.setIfInBounds_toArray, List.set_cons_zero, List.set_cons_succ]
    refine takeH (i := 15) (d := (some 4)) (v := ?v32) rfl rfl (by kernel_rfl) (by kernel_rfl) (by kernel_rfl) (fun _ _ _ h => h) (by rfl) ?hy32 (by assumption) ?_
    case hy32 => ((intro w hSw; (try dsimp only at hSw); (try go_split_ands); go_simp); try with_reducible rfl)
    simp only [Act.put, List.setIfInBounds_toArray, List.set_cons_zero, List.set_cons_succ]
    refine wpAnyH_done (by kernel_rfl) ?_ _
    go_wp2
    go_ret
    exact ⟨rfl, hHeld.1⟩
theorem S.plans_eq {f s j : Int} {xs : List Int} (f5 : f ≤ 500) (s5 : s ≤ 500) (h : S.keeps f s j 0 xs = true) : (-500 ≤ S.prv xs xs.length ∧ S.prv xs xs.length ≤ 500) ∧ S.keeps f s j 0 (xs.drop (xs.length - 1)) = (decide (xs.length = 0) || decide (max (S.prv xs xs.length) (-(S.prv xs xs.length)) ≤ j)) := by
  by_cases hz : xs.length = 0
  · have e : xs = [] := List.length_eq_zero_iff.1 hz
    subst e
    exact ⟨by show (-500 : Int) ≤ 0 ∧ (0 : Int) ≤ 500; omega, rfl⟩
  · obtain ⟨n, hn⟩ : ∃ n, xs.length = n + 1 := ⟨xs.length - 1, by omega⟩
    have b := S.keeps_bd xs 0 h n (by omega)
    have hd := S.keeps_drop (f := f) (s := s) (j := j) (k := n) (xs := xs) (by omega) 0
    rw [hn]
    have e : S.prv xs (n + 1) = xs.getD n 0 := rfl
    rw [e, show n + 1 - 1 = n by omega, hd, inB_yes b.1 b.2, List.drop_eq_nil_of_le (by omega)]
    refine ⟨by omega, ?_⟩
    have e2 : decide (n + 1 = 0) = false := decide_eq_false (by omega)
    rw [e2]
    show (true && (inB (xs.getD n 0 - 0) (-j) j && true)) = _
    simp only [Bool.true_and, Bool.and_true, Bool.false_or]
    unfold inB
    exact decide_eq_decide.2 ⟨fun h => by omega, fun h => by omega⟩
set_option maxRecDepth 100000 in
set_option maxHeartbeats 4000000 in
theorem r_IsPlan_yes {f s j dl dh : Int} (hr : S.ok f s j dl dh = true) (off : Int) (o1 : -20000 ≤ off) (o2 : off ≤ 20000) {v : Value} {xs : List Int} {w : World} (I : Ints w v xs) : Calls Try.prog 17 #[RV f s j dl dh, .int .i64 off, v] w fun e w' => e = .returned (.tuple #[.bool (S.plans f s j off xs), .int .i64 0]) ∧ Up w w' := by
  have U0 := (Up.refl w).alloc (.cells #[.int .i64 f, .int .i64 s, .int .i64 j, .int .i64 dl, .int .i64 dh] 25)
  have k0 := blk_new w (.cells #[.int .i64 f, .int .i64 s, .int .i64 j, .int .i64 dl, .int .i64 dh] 25) _ rfl
  obtain ⟨⟨f1, f2⟩, ⟨s1, s2⟩, ⟨j1, j2⟩, _⟩ := S.ok_iff.1 hr
  have HA := Lib.hid (fun w => r_asked_yes f s j dl dh off hr o1 o2 w)
  have HK := Lib.hid (fun w' (u : Up w w') => r_keeps_any (dl := dl) (dh := dh) hr (I.up u))
  have HS := Lib.hid (fun (h : S.keeps f s j 0 xs = true) w' (u : Up w w') => r_smooth_any f s j dl dh j1 (S.plans_eq f2 s2 h).1 (I.up u))
  have HT := Lib.hid (fun w' (u : Up w w') => B_Total_any (I.up u))
  have hE := fun h => (S.plans_eq (f := f) (s := s) (j := j) (xs := xs) f2 s2 h).2
  have wo : IntKind.i64.wrap (-off) = -off := IntWalk.i64_in _ (by omega)
  obtain ⟨a, c, rfl, _, hl, _⟩ := I.is
  have hz : xs.length = 0 → decide (max (S.prv xs xs.length) (-(S.prv xs xs.length)) ≤ j) = true := fun e => by
    rw [e]
    exact decide_eq_true (by show max 0 (-0) ≤ j; omega)
  have hP : S.plans f s j off xs = (decide (xs.length ≤ 200) && (S.keeps f s j 0 xs && (decide (max (S.prv xs xs.length) (-(S.prv xs xs.length)) ≤ j) && decide (wrap64 xs.sum = -off)))) := by
    unfold S.plans
    cases hk : S.keeps f s j 0 xs with
    | false => simp
    | true =>
      rw [hE hk]
      by_cases e : xs.length = 0
      · rw [hz e, decide_eq_true e]; rfl
      · rw [decide_eq_false e, Bool.false_or]
  rw [hP]
  generalize S.keeps f s j 0 xs = kk at *
  generalize decide (max (S.prv xs xs.length) (-(S.prv xs xs.length)) ≤ j) = ss at *
  generalize wrap64 xs.sum = tt at *
  clear hr I hE hP hz f1 f2 s1 s2 j1 j2 o1 o2
  by_cases h2 : xs.length ≤ 200
  rotate_left
  · have h2' : ¬ (xs.length : Int) ≤ 200 := by omega
    rw [decide_eq_false h2]
    go_enter Try.func17, Try.ntmps17
    go_wp2_with fail
    refine (HA.out _).mono ?_
    rintro e w1 ⟨rfl, u1⟩
    go_wp2
    go_ret2
    exact ⟨rfl, U0.trans u1⟩
  · have h2' : (xs.length : Int) ≤ 200 := by omega
    rw [decide_eq_true h2]
    go_enter Try.func17, Try.ntmps17
    go_wp2_with fail
    refine (HA.out _).mono ?_
    rintro e w1 ⟨rfl, u1⟩
    replace k0 := u1.blk k0
    replace U0 := U0.trans u1
    clear u1 HA
    go_wp2_with fail
    refine (HK.out _ U0).mono ?_
    rintro e w2 ⟨rfl, u2⟩
    replace k0 := u2.blk k0
    replace U0 := U0.trans u2
    clear u2 HK
    cases kk
    · go_wp2
      go_ret2
      exact ⟨rfl, U0⟩
    · go_wp2_with fail
      refine (HS.out trivial _ U0).mono ?_
      rintro e w3 ⟨rfl, u3⟩
      replace U0 := U0.trans u3
      clear u3 HS
      cases ss
      · go_wp2
        go_ret2
        exact ⟨rfl, U0⟩
      · go_wp2_with fail
        refine (HT.out _ U0).mono ?_
        rintro e w4 ⟨rfl, rfl⟩
        go_wp2
        go_ret2
        exact ⟨by first | (simp; rfl) | simp, U0⟩

end Go.Proofs.Ytcadpdbadgejfaa

/- The contracts of the reference's reaches, fewest and Fewest. -/
namespace Go.Proofs.Ytcadpdbadgejfaa
open Go.RowKit

theorem Up.cell2 {W w1 : World} (hb : Up W w1) {b j : Nat} {v : Value} (h : W.cell? ⟨b, j, none⟩ = some v) : w1.cell? ⟨b, j, none⟩ = some v := by
  have hl : b < W.heap.size := by
    refine Decidable.byContradiction fun hn => ?_
    have e : W.heap[b]? = none := Array.getElem?_eq_none_iff.2 (by omega)
    unfold World.cell? at h
    simp only [e] at h
    simp at h
  rw [hb.facts.1 b j hl]
  exact h
theorem infoSpan : (Try.prog.info? 23).map (fun i => (i.zero, i.size, i.bytes)) = some (some (.agg #[.int .i64 0, .int .i64 0]), 2, 16) := by kernel_rfl
theorem cell_two_new (w : World) (x y : Value) (t : TypeId) : ∀ j u, [x, y][j]? = some u → (w.alloc (.cells #[x, y] t)).cell? ((⟨w.heap.size, 0, none⟩ : Addr).add j) = some u := by
  intro j u h
  rw [D.add_at, Nat.zero_add, cellB (blk_new w (.cells #[x, y] t) _ rfl) j]
  simpa using h
theorem row_at {W : World} {base size n : Nat} {e : TypeId} {xs : List Value} {g cap : Nat} (ho : W.ownsRow base e size (.slice (some ⟨g, 0, none⟩) n cap) n xs) {m : Nat} {u : Value} (h : xs[m]? = some u) : W.cell? ⟨g, m, none⟩ = some u := by
  obtain ⟨_, ⟨e, _⟩ | ⟨g', cap', cur, e, _, hb, _, _, _, htk⟩⟩ := ho
  · cases e
  · simp only [Value.slice.injEq, Option.some.injEq, Addr.mk.injEq] at e
    obtain ⟨⟨rfl, _⟩, _, _⟩ := e
    rw [cellB (show mblk W g = _ from hb) m]
    rw [← htk, List.getElem?_take] at h
    split at h
    · rwa [Array.getElem?_toList] at h
    · cases h
/-- what can be reached, number after number -/
def S.rch (f s j : Int) : Nat → List Value
  | 0 => []
  | k + 1 => S.rch f s j k ++ [.int .i64 (-(S.most s j k)), .int .i64 (S.most f j k)]
theorem S.rch_len (f s j : Int) (n : Nat) : (S.rch f s j n).length = n * 2 := by
  induction n with
  | zero => rfl
  | succ n ih => show (S.rch f s j n ++ _).length = _; rw [List.length_append, ih]; simp; omega
theorem S.rch_at (f s j : Int) {k : Nat} : ∀ n, k < n → (S.rch f s j n)[k * 2]? = some (.int .i64 (-(S.most s j k))) ∧ (S.rch f s j n)[k * 2 + 1]? = some (.int .i64 (S.most f j k)) := by
  intro n
  induction n with
  | zero => intro h; omega
  | succ n ih =>
    intro h
    show (S.rch f s j n ++ _)[k * 2]? = _ ∧ (S.rch f s j n ++ _)[k * 2 + 1]? = _
    by_cases e : k < n
    · rw [List.getElem?_append_left (by rw [S.rch_len]; omega), List.getElem?_append_left (by rw [S.rch_len]; omega)]
      exact ih e
    · obtain rfl : k = n := by omega
      rw [List.getElem?_append_right (by rw [S.rch_len]; omega), List.getElem?_append_right (by rw [S.rch_len]; omega), S.rch_len]
      constructor
      · rw [Nat.sub_self]; rfl
      · rw [show k * 2 + 1 - k * 2 = 1 by omega]; rfl
set_option maxRecDepth 100000 in
set_option maxHeartbeats 4000000 in
theorem r_reaches_any {f s j dl dh : Int} (hr : S.ok f s j dl dh = true) (w : World) : Calls Try.prog 63 #[RV f s j dl dh] w fun e w' => ∃ g cap, e = .returned (.slice (some ⟨g, 0, none⟩) 201 cap) ∧ Up w w' ∧ ∀ k, k < 201 → w'.cell? ⟨g, k * 2, none⟩ = some (.int .i64 (-(S.most s j k))) ∧ w'.cell? ⟨g, k * 2 + 1, none⟩ = some (.int .i64 (S.most f j k)) := by
  have U0 := (Up.refl w).alloc (.cells #[.int .i64 f, .int .i64 s, .int .i64 j, .int .i64 dl, .int .i64 dh] 25)
  have k0 := blk_new w (.cells #[.int .i64 f, .int .i64 s, .int .i64 j, .int .i64 dl, .int .i64 dh] 25) _ rfl
  have HR := Lib.hid (fun k (hk : k ≤ 200) w => r_reach_any hr k hk w)
  obtain ⟨i0, hi, hz0, hz1, hz2⟩ := info_parts infoSpan
  have hU := Try.underlying94
  clear hr
  go_enter Try.func63, Try.ntmps63
  go_wp2_with fail
  go_loopw [3, 4] (fun l i wr => ∃ k : Nat, k ≤ 201 ∧ i = .int .i64 k ∧ wr.ownsRow (w.heap.size + 1) 23 2 l k (S.rch f s j k) ∧ Up w wr ∧ mblk wr w.heap.size = some (.cells #[.int .i64 f, .int .i64 s, .int .i64 j, .int .i64 dl, .int .i64 dh] 25 (0, 0))) (fun _ i _ => 201 - (intOf i).toNat)
  case atStart => exact ⟨0, by omega, rfl, World.ownsRow_nil _ _ _ _, U0, k0⟩
  case round =>
    clear U0 k0
    obtain ⟨k, hk, rfl, hown, V, k0⟩ := hrel
    by_cases hlt : k ≤ 200
    · have hlt' : (k : Int) ≤ 200 := by omega
      have HRk := Lib.hid (fun w => HR.out k hlt w)
      have HN := Lib.hid (show S.rch f s j (k + 1) = S.rch f s j k ++ [.int .i64 (-(S.most s j k)), .int .i64 (S.most f j k)] from rfl)
      generalize -(S.most s j k) = a at *
      generalize S.most f j k = b at *
      have l0 := blk_lt k0
      go_wp2_with fail
      refine (HRk.out _).mono ?_
      rintro e w1 ⟨rfl, u1⟩
      replace k0 := u1.blk k0
      replace hown := row_up hown u1
      replace V := V.trans u1
      have ls := V.size
      have l0 := blk_lt k0
      clear u1 HRk
      go_wp2_with (at_builtin; refine wpList_append_own _ rfl (.tmp 9) (.tmp 13) 94 rfl (w.heap.size + 1) 23 i0 (.agg #[.int .i64 0, .int .i64 0]) 2 16 hU hi hz0 hz1 hz2 rfl (by decide) _ k _ rfl (hown.alloc _) ⟨w1.heap.size, 0, none⟩ 1 1 [.int .i64 a, .int .i64 b] rfl rfl (cell_two_new _ _ _ _) (by simp [Value.oneCell']) (by unfold maxLen; omega) (by omega) (by simp; omega) ?_; intro v' w5 hown5 hgrow5 hv5)
      have x0 := grown_blk hgrow5 (blk_keep _ k0) (row_block hown (by omega))
      have U5 : Up w w5 := (V.alloc _).grown hgrow5 (fun k e => by have := row_base hown k e; omega)
      go_roundw
      case rel => exact ⟨k + 1, by omega, by go_num, by rw [HN.out]; exact hown5, U5, x0⟩
      case measure => simp [intOf]; omega
    · have hke : k = 201 := by omega
      subst hke
      obtain ⟨g, cap, rfl, hg⟩ := row_slice hown
      have HO := Lib.hid (fun k (hk : k < 201) => (⟨row_at hown (S.rch_at f s j 201 hk).1, row_at hown (S.rch_at f s j 201 hk).2⟩ : _ ∧ _))
      clear hown
      go_wp2
      go_ret
      exact ⟨_, _, rfl, V, HO.out⟩
/-- what so many ticks reach, as the fewest ticks see it -/
theorem S.few_in2 {f s j : Int} (hf : 0 ≤ f) (hs : 0 ≤ s) (hj : 0 ≤ j) (off : Int) (x : Nat) : decide (max off (-off) ≤ S.most (S.part f s (S.against off)) j x) = inB (-off) (-(S.most s j x)) (S.most f j x) := by
  have m1 := (S.most_bd hf hj x).1
  have m2 := (S.most_bd hs hj x).1
  have m3 := (S.most_bd (Int.le_refl 0) hj x).1
  unfold inB
  by_cases p : 0 < off
  · have : S.against off = 0 := by unfold S.against; rw [if_pos p]
    rw [this]
    show decide (max off (-off) ≤ S.most s j x) = _
    exact decide_eq_decide.2 ⟨fun h => ⟨by omega, by omega⟩, fun h => by omega⟩
  · by_cases q : off < 0
    · have : S.against off = 2 := by unfold S.against; rw [if_neg p, if_pos q]
      rw [this]
      show decide (max off (-off) ≤ S.most f j x) = _
      exact decide_eq_decide.2 ⟨fun h => ⟨by omega, by omega⟩, fun h => by omega⟩
    · have : S.against off = 1 := by unfold S.against; rw [if_neg p, if_neg q]
      rw [this]
      show decide (max off (-off) ≤ S.most 0 j x) = _
      exact decide_eq_decide.2 ⟨fun h => ⟨by omega, by omega⟩, fun h => by omega⟩
set_option maxRecDepth 100000 in
set_option maxHeartbeats 4000000 in
theorem r_fewest_any {f s j : Int} (f1 : 0 ≤ f) (s1 : 0 ≤ s) (j1 : 1 ≤ j) (off : Int) (o1 : -20000 ≤ off) (o2 : off ≤ 20000) {r : Nat} (hrk : S.Few f s j off r) {g cap : Nat} {w : World} (hc : ∀ k, k < 201 → w.cell? ⟨g, k * 2, none⟩ = some (.int .i64 (-(S.most s j k))) ∧ w.cell? ⟨g, k * 2 + 1, none⟩ = some (.int .i64 (S.most f j k))) : Calls Try.prog 62 #[.slice (some ⟨g, 0, none⟩) 201 cap, .int .i64 off] w fun e w' => e = .returned (.int .i64 (if r ≤ 200 then (r : Int) else -1)) ∧ Up w w' := by
  have HC := Lib.hid hc
  have HI := Lib.hid (fun x => S.few_in2 (f := f) (s := s) (j := j) f1 s1 (by omega) off x)
  have HF := Lib.hid hrk
  have wo : IntKind.i64.wrap (-off) = -off := IntWalk.i64_in _ (by omega)
  obtain ⟨rv, hrv⟩ : ∃ y, (if r ≤ 200 then (r : Int) else -1) = y := ⟨_, rfl⟩
  rw [hrv]
  have HV := Lib.hid hrv
  clear hc hrk hrv
  go_enter Try.func62, Try.ntmps62
  go_wp2_with fail
  go_loopw [5] (fun i wr => ∃ k : Nat, k ≤ 201 ∧ k ≤ r ∧ i = .int .i64 k ∧ Up w wr) (fun i _ => 201 - (intOf i).toNat)
  case atStart => exact ⟨0, by omega, by omega, rfl, Up.refl _⟩
  case round =>
    obtain ⟨k, hk, hkr, rfl, V⟩ := hrel
    by_cases hlt : k < 201
    · have hlt' : (k : Int) < 201 := by omega
      have ca := V.cell2 (HC.out k hlt).1
      have cb := V.cell2 (HC.out k hlt).2
      have hB := HI.out k
      have HH := Lib.hid (fun w => B_Has_any (-(S.most s j k)) (S.most f j k) (-off) w)
      rw [← hB] at HH
      have hf1 := HF.out.2.1 k
      have hf2 := HF.out.2.2
      have hf0 := HF.out.1
      generalize -(S.most s j k) = a at *
      generalize S.most f j k = b at *
      clear hB
      go_wp2_with fail
      refine (HH.out _).mono ?_
      rintro e w1 ⟨rfl, u1⟩
      by_cases hkk : k = r
      · subst hkk
        rw [hf2 hlt]
        clear hf1 hf2
        go_wp2
        go_ret
        exact ⟨by rw [← HV.out, if_pos (by omega)]; rfl, V.trans u1⟩
      · rw [hf1 (by omega)]
        clear hf1 hf2
        go_wp2_with fail
        go_roundw
        case rel => exact ⟨k + 1, by omega, by omega, by go_num, V.trans u1⟩
        case measure => simp [intOf]; omega
    · have hlt' : ¬ (k : Int) < 201 := by omega
      go_wp2
      go_ret
      exact ⟨by rw [← HV.out, if_neg (by omega)]; rfl, V⟩

theorem r_Fewest_no (f s j dl dh off : Int) (h : S.ok f s j dl dh = false) (w : World) : Calls Try.prog 19 #[RV f s j dl dh, .int .i64 off] w fun e w' => e = .returned (.tuple #[.int .i64 0, .int .i64 40]) ∧ Up w w' := by
  have U0 := (Up.refl w).alloc (.cells #[.int .i64 f, .int .i64 s, .int .i64 j, .int .i64 dl, .int .i64 dh] 25)
  have HA := Lib.hid (fun w => r_asked_no f s j dl dh off h w)
  clear h
  go_enter Try.func19, Try.ntmps19
  go_wp2_with fail
  refine (HA.out _).mono ?_
  rintro e w1 ⟨rfl, u1⟩
  go_wp2
  go_ret2
  exact ⟨rfl, U0.trans u1⟩
theorem r_Fewest_ask (f s j dl dh off : Int) (h : S.ok f s j dl dh = true) (ho : ¬ (-20000 ≤ off ∧ off ≤ 20000)) (w : World) : Calls Try.prog 19 #[RV f s j dl dh, .int .i64 off] w fun e w' => e = .returned (.tuple #[.int .i64 0, .int .i64 41]) ∧ Up w w' := by
  have U0 := (Up.refl w).alloc (.cells #[.int .i64 f, .int .i64 s, .int .i64 j, .int .i64 dl, .int .i64 dh] 25)
  have HA := Lib.hid (fun w => r_asked_ask f s j dl dh off h ho w)
  clear h ho
  go_enter Try.func19, Try.ntmps19
  go_wp2_with fail
  refine (HA.out _).mono ?_
  rintro e w1 ⟨rfl, u1⟩
  go_wp2
  go_ret2
  exact ⟨rfl, U0.trans u1⟩
theorem r_Fewest_yes (f s j dl dh off : Int) (h : S.ok f s j dl dh = true) (o1 : -20000 ≤ off) (o2 : off ≤ 20000) {r : Nat} (hrk : S.Few f s j off r) (w : World) : Calls Try.prog 19 #[RV f s j dl dh, .int .i64 off] w fun e w' => e = .returned (.tuple #[.int .i64 (if r ≤ 200 then r else 0), .int .i64 (if r ≤ 200 then 0 else 4)]) ∧ Up w w' := by
  have U0 := (Up.refl w).alloc (.cells #[.int .i64 f, .int .i64 s, .int .i64 j, .int .i64 dl, .int .i64 dh] 25)
  have k0 := blk_new w (.cells #[.int .i64 f, .int .i64 s, .int .i64 j, .int .i64 dl, .int .i64 dh] 25) _ rfl
  obtain ⟨⟨f1, _⟩, ⟨s1, _⟩, ⟨j1, _⟩, _⟩ := S.ok_iff.1 h
  have HA := Lib.hid (fun w => r_asked_yes f s j dl dh off h o1 o2 w)
  have HR := Lib.hid (fun w => r_reaches_any h w)
  have HF := Lib.hid (fun g cap w hc => r_fewest_any f1 s1 j1 off o1 o2 hrk (g := g) (cap := cap) (w := w) hc)
  by_cases h2 : r ≤ 200
  · rw [if_pos h2, if_pos h2]
    rw [if_pos h2] at HF
    have hn : ¬ (r : Int) < 0 := by omega
    clear h hrk f1 s1 j1 o1 o2
    go_enter Try.func19, Try.ntmps19
    go_wp2_with fail
    refine (HA.out _).mono ?_
    rintro e w1 ⟨rfl, u1⟩
    replace k0 := u1.blk k0
    go_wp2_with fail
    refine (HR.out _).mono ?_
    rintro e w2 ⟨g, cap, rfl, u2, hc⟩
    have HC := Lib.hid hc
    clear hc
    go_wp2_with fail
    refine (HF.out _ _ _ HC.out).mono ?_
    rintro e w3 ⟨rfl, u3⟩
    go_wp2
    go_ret2
    exact ⟨rfl, ((U0.trans u1).trans u2).trans u3⟩
  · rw [if_neg h2, if_neg h2]
    rw [if_neg h2] at HF
    clear h hrk f1 s1 j1 o1 o2
    go_enter Try.func19, Try.ntmps19
    go_wp2_with fail
    refine (HA.out _).mono ?_
    rintro e w1 ⟨rfl, u1⟩
    replace k0 := u1.blk k0
    go_wp2_with fail
    refine (HR.out _).mono ?_
    rintro e w2 ⟨g, cap, rfl, u2, hc⟩
    have HC := Lib.hid hc
    clear hc
    go_wp2_with fail
    refine (HF.out _ _ _ HC.out).mono ?_
    rintro e w3 ⟨rfl, u3⟩
    go_wp2
    go_ret2
    exact ⟨rfl, ((U0.trans u1).trans u2).trans u3⟩

end Go.Proofs.Ytcadpdbadgejfaa
