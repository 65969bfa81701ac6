import Derived.Test.YtcadpdbadgejfaaStI
/- The contracts of the reference's checkRule, keeps, most, reach and Reach. -/
namespace Go.Proofs.Ytcadpdbadgejfaa
open Go.RowKit

theorem r_checkRule_any (f s j dl dh : Int) (w : World) : Calls Try.prog 68 #[RV f s j dl dh] w fun e w' => e = .returned (.bool (S.ok f s j dl dh)) ∧ Up w w' := by
  have U := (Up.refl w).alloc (.cells #[.int .i64 f, .int .i64 s, .int .i64 j, .int .i64 dl, .int .i64 dh] 25)
  have k0 := blk_new w (.cells #[.int .i64 f, .int .i64 s, .int .i64 j, .int .i64 dl, .int .i64 dh] 25) _ rfl
  have e4 : decide (dl ≤ dh ∧ -100 ≤ dl ∧ dh ≤ 100) = S.spanOk dl dh 100 := by
    rw [Bool.eq_iff_iff, decide_eq_true_iff, S.spanOk_iff]
    constructor
    · intro h; omega
    · intro h; omega
  have H1 := Lib.hid (fun w => B_Lies_any f 0 500 w)
  have H2 := Lib.hid (fun w => B_Lies_any s 0 500 w)
  have H3 := Lib.hid (fun w => B_Lies_any j 1 500 w)
  have H4 := Lib.hid (fun w => show Calls Try.prog 77 #[SpV dl dh, .int .i64 (-100), .int .i64 100] w fun e w' => e = .returned (.bool (S.spanOk dl dh 100)) ∧ Up w w' by rw [← e4]; exact B_Valid_any _ _ _ _ w)
  unfold S.ok
  generalize inB f 0 500 = b1 at *
  generalize inB s 0 500 = b2 at *
  generalize inB j 1 500 = b3 at *
  generalize S.spanOk dl dh 100 = b4 at *
  clear e4
  go_enter Try.func68, Try.ntmps68
  go_wp2_with fail
  refine (H1.out _).mono ?_
  rintro e w1 ⟨rfl, rfl⟩
  clear H1
  cases b1
  · go_wp2
    go_ret
    exact ⟨rfl, U⟩
  · go_wp2_with fail
    refine (H2.out _).mono ?_
    rintro e w1 ⟨rfl, rfl⟩
    clear H2
    cases b2
    · go_wp2
      go_ret
      exact ⟨rfl, U⟩
    · go_wp2_with fail
      refine (H3.out _).mono ?_
      rintro e w1 ⟨rfl, rfl⟩
      clear H3
      cases b3
      · go_wp2
        go_ret
        exact ⟨rfl, U⟩
      · go_wp2_with fail
        refine (H4.out _).mono ?_
        rintro e w1 ⟨rfl, u1⟩
        go_wp2
        go_ret
        exact ⟨rfl, U.trans u1⟩
set_option maxRecDepth 100000 in
set_option maxHeartbeats 4000000 in
theorem r_keeps_any {f s j dl dh : Int} (hr : S.ok f s j dl dh = true) {xs : List Int} {v : Value} {w : World} (I : Ints w v xs) : Calls Try.prog 58 #[RV f s j dl dh, v] w fun e w' => e = .returned (.bool (S.keeps f s j 0 xs)) ∧ Up w w' := by
  obtain ⟨⟨f1, f2⟩, ⟨s1, s2⟩, ⟨j1, j2⟩, _⟩ := S.ok_iff.1 hr
  have U0 := (Up.refl w).alloc (.cells #[.int .i64 f, .int .i64 s, .int .i64 j, .int .i64 dl, .int .i64 dh] 25)
  have k0 := blk_new w (.cells #[.int .i64 f, .int .i64 s, .int .i64 j, .int .i64 dl, .int .i64 dh] 25) _ rfl
  obtain ⟨a, c, rfl, lc, lx, mx⟩ := I.is
  have MX := Lib.hid mx
  clear hr I mx
  go_enter Try.func58, Try.ntmps58
  go_wp2_with fail
  go_loopw [5, 6] (fun l i wr => ∃ (k : Nat) (y : Int), k ≤ xs.length ∧ i = .int .i64 k ∧ l = .int .i64 y ∧ (-500 ≤ y ∧ y ≤ 500) ∧ Hid (S.keeps f s j 0 xs = S.keeps f s j y (xs.drop k)) ∧ Up w wr ∧ mblk wr w.heap.size = some (.cells #[.int .i64 f, .int .i64 s, .int .i64 j, .int .i64 dl, .int .i64 dh] 25 (0, 0))) (fun _ i _ => xs.length - (intOf i).toNat)
  case atStart => exact ⟨0, 0, Nat.zero_le _, rfl, rfl, ⟨by omega, by omega⟩, by simp [Hid], U0, k0⟩
  case round =>
    clear U0 k0
    obtain ⟨k, y, hk, rfl, rfl, hy, hH, U, k0⟩ := hrel
    by_cases hlt : k < xs.length
    · have hlt' : (k : Int) < (xs.length : Int) := by omega
      obtain ⟨g, of, rfl, g1, gc⟩ := MX.out (by omega)
      have c1 := (U.facts.1 g (of + k) g1).trans (gc k hlt)
      have hd := S.keeps_drop (f := f) (s := s) (j := j) hlt y
      obtain ⟨x, hx⟩ : ∃ x, xs.getD k 0 = x := ⟨_, rfl⟩
      rw [hx] at c1 hd
      have e2 : inB (x - y) (-j) j = inB x (y - j) (y + j) := by
        unfold inB
        exact decide_eq_decide.2 ⟨fun h => by omega, fun h => by omega⟩
      rw [e2] at hd
      have HL := Lib.hid (fun w => B_Lies_any x (-s) f w)
      have HM := Lib.hid (fun w => B_Lies_any x (y - j) (y + j) w)
      have hb1 : inB x (-s) f = true → -500 ≤ x ∧ x ≤ 500 := fun h => by have := inB_iff.1 h; omega
      have ws : IntKind.i64.wrap (-s) = -s := IntWalk.i64_in _ (by omega)
      have wd : IntKind.i64.wrap (y - j) = y - j := IntWalk.i64_in _ (by omega)
      have we : IntKind.i64.wrap (y + j) = y + j := IntWalk.i64_in _ (by omega)
      generalize inB x (-s) f = b1 at *
      generalize inB x (y - j) (y + j) = b2 at *
      have HD := Lib.hid hd
      have HB := Lib.hid hb1
      clear gc hx hd hb1 e2
      go_wp2_with fail
      refine wp_region_held_drew (S := fun w' => Up w w' ∧ mblk w' w.heap.size = some (.cells #[.int .i64 f, .int .i64 s, .int .i64 j, .int .i64 dl, .int .i64 dh] 25 (0, 0)) ∧ w'.cell? ⟨g, of + k, none⟩ = some (.int .i64 x)) (by kernel_rfl) ⟨U.drew, by rw [blk_drew]; exact k0, c1⟩ (fun hHeld => ?_)
      clear U k0 c1
      refine takeH (i := 0) (d := (some 13)) (v := ?v1) rfl rfl (by kernel_rfl) (by kernel_rfl) (by kernel_rfl) (fun _ _ _ h => h) (by rfl) ?hy1 (by assumption) ?_
      case hy1 => ((intro w hSw; (try dsimp only at hSw); (try go_split_ands); go_simp); try with_reducible rfl)
      simp only [Act.put, List.setIfInBounds_toArray, List.set_cons_zero, List.set_cons_succ]
      refine takeH (i := 1) (d := (some 14)) (v := ?v2) rfl rfl (by kernel_rfl) (by kernel_rfl) (by kernel_rfl) (fun _ _ _ h => h) (by rfl) ?hy2 (by assumption) ?_
      case hy2 => ((intro w hSw; (try dsimp only at hSw); (try go_split_ands); go_simp); try with_reducible rfl)
      simp only [Act.put, List.setIfInBounds_toArray, List.set_cons_zero, List.set_cons_succ]
      refine takeH (i := 4) (d := (some 17)) (v := ?v3) rfl rfl (by kernel_rfl) (by kernel_rfl) (by kernel_rfl) (fun _ _ _ h => h) (by rfl) ?hy3 (by assumption) ?_
      case hy3 => ((intro w hSw; (try dsimp only at hSw); (try go_split_ands); go_simp); try with_reducible rfl)
      simp only [Act.put, List.setIfInBounds_toArray, List.set_cons_zero, List.set_cons_succ]
      refine takeH (i := 7) (d := (some 20)) (v := ?v4) rfl rfl (by kernel_rfl) (by kernel_rfl) (by kernel_rfl) (fun _ _ _ h => h) (by rfl) ?hy4 (by assumption) ?_
      case hy4 => ((intro w hSw; (try dsimp only at hSw); (try go_split_ands); go_simp); try with_reducible rfl)
      simp only [Act.put, List.setIfInBounds_toArray, List.set_cons_zero, List.set_cons_succ]
      refine takeH (i := 2) (d := (some 15)) (v := ?v5) rfl rfl (by kernel_rfl) (by kernel_rfl) (by kernel_rfl) (fun _ _ _ h => h) (by rfl) ?hy5 (by assumption) ?_
      case hy5 => ((intro w hSw; (try dsimp only at hSw); (try go_split_ands); go_simp); try with_reducible rfl)
      simp only [Act.put, List.setIfInBounds_toArray, List.set_cons_zero, List.set_cons_succ]
      refine takeH (i := 5) (d := (some 18)) (v := ?v6) rfl rfl (by kernel_rfl) (by kernel_rfl) (by kernel_rfl) (fun _ _ _ h => h) (by rfl) ?hy6 (by assumption) ?_
      case hy6 => ((intro w hSw; (try dsimp only at hSw); (try go_split_ands); go_simp); try with_reducible rfl)
      simp only [Act.put, List.setIfInBounds_toArray, List.set_cons_zero, List.set_cons_succ]
      refine takeH (i := 8) (d := (some 21)) (v := ?v7) rfl rfl (by kernel_rfl) (by kernel_rfl) (by kernel_rfl) (fun _ _ _ h => h) (by rfl) ?hy7 (by assumption) ?_
      case hy7 => ((intro w hSw; (try dsimp only at hSw); (try go_split_ands); go_simp); try with_reducible rfl)
      simp only [Act.put, List.setIfInBounds_toArray, List.set_cons_zero, List.set_cons_succ]
      refine takeH (i := 3) (d := (some 16)) (v := ?v8) rfl rfl (by kernel_rfl) (by kernel_rfl) (by kernel_rfl) (fun _ _ _ h => h) (by rfl) ?hy8 (by assumption) ?_
      case hy8 => ((intro w hSw; (try dsimp only at hSw); (try go_split_ands); go_simp); try with_reducible rfl)
      simp only [Act.put, List.setIfInBounds_toArray, List.set_cons_zero, List.set_cons_succ]
      refine takeH (i := 6) (d := (some 19)) (v := ?v9) rfl rfl (by kernel_rfl) (by kernel_rfl) (by kernel_rfl) (fun _ _ _ h => h) (by rfl) ?hy9 (by assumption) ?_
      case hy9 => ((intro w hSw; (try dsimp only at hSw); (try go_split_ands); go_simp); try with_reducible rfl)
      simp only [Act.put, List.setIfInBounds_toArray, List.set_cons_zero, List.set_cons_succ]
      refine wpAnyH_ready (rs := [9]) (by kernel_rfl) (by simp) ?_
      refine AllReadyH.cons rfl (fun K hK => ?_) AllReadyH.nil
      go_simp
      refine (HL.out _).mono ?_
      rintro e w3 ⟨rfl, rfl⟩
      go_wp2_with fail
      refine hK.out _ _ hHeld (fun hHeld => ?_)
      clear hK K HL
      cases b1
      · skip
        refine takeH (i := 10) (d := (some 23)) (v := ?v11) rfl rfl (by kernel_rfl) (by kernel_rfl) (by kernel_rfl) (fun _ _ _ h => h) (by rfl) ?hy11 (by assumption) ?_
        case hy11 => ((intro w hSw; (try dsimp only at hSw); (try go_split_ands); go_simp); try with_reducible rfl)
        simp only [Act.put, List.setIfInBounds_toArray, List.set_cons_zero, List.set_cons_succ]
        refine takeH (i := 11) (d := (some 24)) (v := ?v12) rfl rfl (by kernel_rfl) (by kernel_rfl) (by kernel_rfl) (fun _ _ _ h => h) (by rfl) ?hy12 (by assumption) ?_
        case hy12 => ((intro w hSw; (try dsimp only at hSw); (try go_split_ands); go_simp); try with_reducible rfl)
        simp only [Act.put, List.setIfInBounds_toArray, List.set_cons_zero, List.set_cons_succ]
        refine skipH (i := 12) (d := (some 25)) rfl rfl (by kernel_rfl) (by kernel_rfl) (by kernel_rfl) (fun _ _ _ h => h) (by rfl) (by assumption) ?_
        simp only [Act.put, List.setIfInBounds_toArray, List.set_cons_zero, List.set_cons_succ]
        refine skipH (i := 13) (d := (some 26)) rfl rfl (by kernel_rfl) (by kernel_rfl) (by kernel_rfl) (fun _ _ _ h => h) (by rfl) (by assumption) ?_
        simp only [Act.put, List.setIfInBounds_toArray, List.set_cons_zero, List.set_cons_succ]
        refine skipH (i := 16) (d := (some 29)) rfl rfl (by kernel_rfl) (by kernel_rfl) (by kernel_rfl) (fun _ _ _ h => h) (by rfl) (by assumption) ?_
        simp only [Act.put, List.setIfInBounds_toArray, List.set_cons_zero, List.set_cons_succ]
        refine skipH (i := 17) (d := (some 30)) rfl rfl (by kernel_rfl) (by kernel_rfl) (by kernel_rfl) (fun _ _ _ h => h) (by rfl) (by assumption) ?_
        simp only [Act.put, List.setIfInBounds_toArray, List.set_cons_zero, List.set_cons_succ]
        refine skipH (i := 20) (d := (some 33)) rfl rfl (by kernel_rfl) (by kernel_rfl) (by kernel_rfl) (fun _ _ _ h => h) (by rfl) (by assumption) ?_
        simp only [Act.put, List.setIfInBounds_toArray, List.set_cons_zero, List.set_cons_succ]
        refine skipH (i := 21) (d := (some 34)) rfl rfl (by kernel_rfl) (by kernel_rfl) (by kernel_rfl) (fun _ _ _ h => h) (by rfl) (by assumption) ?_
        simp only [Act.put, List.setIfInBounds_toArray, List.set_cons_zero, List.set_cons_succ]
        refine skipH (i := 14) (d := (some 27)) rfl rfl (by kernel_rfl) (by kernel_rfl) (by kernel_rfl) (fun _ _ _ h => h) (by rfl) (by assumption) ?_
        simp only [Act.put, List.setIfInBounds_toArray, List.set_cons_zero, List.set_cons_succ]
        refine skipH (i := 18) (d := (some 31)) rfl rfl (by kernel_rfl) (by kernel_rfl) (by kernel_rfl) (fun _ _ _ h => h) (by rfl) (by assumption) ?_
        simp only [Act.put, List.setIfInBounds_toArray, List.set_cons_zero, List.set_cons_succ]
        refine skipH (i := 22) (d := (some 35)) rfl rfl (by kernel_rfl) (by kernel_rfl) (by kernel_rfl) (fun _ _ _ h => h) (by rfl) (by assumption) ?_
        simp only [Act.put, List.setIfInBounds_toArray, List.set_cons_zero, List.set_cons_succ]
        refine skipH (i := 15) (d := (some 28)) rfl rfl (by kernel_rfl) (by kernel_rfl) (by kernel_rfl) (fun _ _ _ h => h) (by rfl) (by assumption) ?_
        simp only [Act.put, List.setIfInBounds_toArray, List.set_cons_zero, List.set_cons_succ]
        refine skipH (i := 19) (d := (some 32)) rfl rfl (by kernel_rfl) (by kernel_rfl) (by kernel_rfl) (fun _ _ _ h => h) (by rfl) (by assumption) ?_
        simp only [Act.put, List.setIfInBounds_toArray, List.set_cons_zero, List.set_cons_succ]
        refine skipH (i := 23) (d := (some 36)) rfl rfl (by kernel_rfl) (by kernel_rfl) (by kernel_rfl) (fun _ _ _ h => h) (by rfl) (by assumption) ?_
        simp only [Act.put, List.setIfInBounds_toArray, List.set_cons_zero, List.set_cons_succ]
        refine skipH (i := 24) (d := (some 37)) rfl rfl (by kernel_rfl) (by kernel_rfl) (by kernel_rfl) (fun _ _ _ h => h) (by rfl) (by assumption) ?_
        simp only [Act.put, List.setIfInBounds_toArray, List.set_cons_zero, List.set_cons_succ]
        refine skipH (i := 25) (d := (some 38)) rfl rfl (by kernel_rfl) (by kernel_rfl) (by kernel_rfl) (fun _ _ _ h => h) (by rfl) (by assumption) ?_
        simp only [Act.put, List.setIfInBounds_toArray, List.set_cons_zero, List.set_cons_succ]
        refine takeH (i := 26) (d := (some 39)) (v := ?v27) rfl rfl (by kernel_rfl) (by kernel_rfl) (by kernel_rfl) (fun _ _ _ h => h) (by rfl) ?hy27 (by assumption) ?_
        case hy27 => ((intro w hSw; (try dsimp only at hSw); (try go_split_ands); go_simp); try with_reducible rfl)
        simp only [Act.put, List.setIfInBounds_toArray, List.set_cons_zero, List.set_cons_succ]
        refine wpAnyH_done (by kernel_rfl) ?_ _
        go_wp2
        go_ret
        exact ⟨by rw [hH.out, HD.out]; rfl, hHeld.1⟩
      · skip
        refine takeH (i := 10) (d := (some 23)) (v := ?v28) rfl rfl (by kernel_rfl) (by kernel_rfl) (by kernel_rfl) (fun _ _ _ h => h) (by rfl) ?hy28 (by assumption) ?_
        case hy28 => ((intro w hSw; (try dsimp only at hSw); (try go_split_ands); go_simp); try with_reducible rfl)
        simp only [Act.put, List.setIfInBounds_toArray, List.set_cons_zero, List.set_cons_succ]
        refine takeH (i := 11) (d := (some 24)) (v := ?v29) rfl rfl (by kernel_rfl) (by kernel_rfl) (by kernel_rfl) (fun _ _ _ h => h) (by rfl) ?hy29 (by assumption) ?_
        case hy29 => ((intro w hSw; (try dsimp only at hSw); (try go_split_ands); go_simp); try with_reducible rfl)
        simp only [Act.put, List.setIfInBounds_toArray, List.set_cons_zero, List.set_cons_succ]
        refine takeH (i := 12) (d := (some 25)) (v := ?v30) rfl rfl (by kernel_rfl) (by kernel_rfl) (by kernel_rfl) (fun _ _ _ h => h) (by rfl) ?hy30 (by assumption) ?_
        case hy30 => ((intro w hSw; (try dsimp only at hSw); (try go_split_ands); go_simp); try with_reducible rfl)
        simp only [Act.put, List.setIfInBounds_toArray, List.set_cons_zero, List.set_cons_succ]
        refine takeH (i := 13) (d := (some 26)) (v := ?v31) rfl rfl (by kernel_rfl) (by kernel_rfl) (by kernel_rfl) (fun _ _ _ h => h) (by rfl) ?hy31 (by assumption) ?_
        case hy31 => ((intro w hSw; (try dsimp only at hSw); (try go_split_ands); go_simp); try with_reducible rfl)
        simp only [Act.put, List.setIfInBounds_toArray, List.set_cons_zero, List.set_cons_succ]
        refine takeH (i := 16) (d := (some 29)) (v := ?v32) rfl rfl (by kernel_rfl) (by kernel_rfl) (by kernel_rfl) (fun _ _ _ h => h) (by rfl) ?hy32 (by assumption) ?_
        case hy32 => ((intro w hSw; (try dsimp only at hSw); (try go_split_ands); go_simp); try with_reducible rfl)
        simp only [Act.put, List.setIfInBounds_toArray, List.set_cons_zero, List.set_cons_succ]
        refine takeH (i := 17) (d := (some 30)) (v := ?v33) rfl rfl (by kernel_rfl) (by kernel_rfl) (by kernel_rfl) (fun _ _ _ h => h) (by rfl) ?hy33 (by assumption) ?_
        case hy33 => ((intro w hSw; (try dsimp only at hSw); (try go_split_ands); go_simp); try with_reducible rfl)
        simp only [Act.put, List.setIfInBounds_toArray, List.set_cons_zero, List.set_cons_succ]
        refine takeH (i := 20) (d := (some 33)) (v := ?v34) rfl rfl (by kernel_rfl) (by kernel_rfl) (by kernel_rfl) (fun _ _ _ h => h) (by rfl) ?hy34 (by assumption) ?_
        case hy34 => ((intro w hSw; (try dsimp only at hSw); (try go_split_ands); go_simp); try with_reducible rfl)
        simp only [Act.put, List.setIfInBounds_toArray, List.set_cons_zero, List.set_cons_succ]
        refine takeH (i := 21) (d := (some 34)) (v := ?v35) rfl rfl (by kernel_rfl) (by kernel_rfl) (by kernel_rfl) (fun _ _ _ h => h) (by rfl) ?hy35 (by assumption) ?_
        case hy35 => ((intro w hSw; (try dsimp only at hSw); (try go_split_ands); go_simp); try with_reducible rfl)
        simp only [Act.put, List.setIfInBounds_toArray, List.set_cons_zero, List.set_cons_succ]
        refine takeH (i := 14) (d := (some 27)) (v := ?v36) rfl rfl (by kernel_rfl) (by kernel_rfl) (by kernel_rfl) (fun _ _ _ h => h) (by rfl) ?hy36 (by assumption) ?_
        case hy36 => ((intro w hSw; (try dsimp only at hSw); (try go_split_ands); go_simp); try with_reducible rfl)
        simp only [Act.put, List.setIfInBounds_toArray, List.set_cons_zero, List.set_cons_succ]
        refine takeH (i := 18) (d := (some 31)) (v := ?v37) rfl rfl (by kernel_rfl) (by kernel_rfl) (by kernel_rfl) (fun _ _ _ h => h) (by rfl) ?hy37 (by assumption) ?_
        case hy37 => ((intro w hSw; (try dsimp only at hSw); (try go_split_ands); go_simp); try with_reducible rfl)
        simp only [Act.put, List.setIfInBounds_toArray, List.set_cons_zero, List.set_cons_succ]
        refine takeH (i := 22) (d := (some 35)) (v := ?v38) rfl rfl (by kernel_rfl) (by kernel_rfl) (by kernel_rfl) (fun _ _ _ h => h) (by rfl) ?hy38 (by assumption) ?_
        case hy38 => ((intro w hSw; (try dsimp only at hSw); (try go_split_ands); go_simp); try with_reducible rfl)
        simp only [Act.put, List.setIfInBounds_toArray, List.set_cons_zero, List.set_cons_succ]
        refine takeH (i := 15) (d := (some 28)) (v := ?v39) rfl rfl (by kernel_rfl) (by kernel_rfl) (by kernel_rfl) (fun _ _ _ h => h) (by rfl) ?hy39 (by assumption) ?_
        case hy39 => ((intro w hSw; (try dsimp only at hSw); (try go_split_ands); go_simp); try with_reducible rfl)
        simp only [Act.put, List.setIfInBounds_toArray, List.set_cons_zero, List.set_cons_succ]
        refine takeH (i := 19) (d := (some 32)) (v := ?v40) rfl rfl (by kernel_rfl) (by kernel_rfl) (by kernel_rfl) (fun _ _ _ h => h) (by rfl) ?hy40 (by assumption) ?_
        case hy40 => ((intro w hSw; (try dsimp only at hSw); (try go_split_ands); go_simp); try with_reducible rfl)
        simp only [Act.put, List.setIfInBounds_toArray, List.set_cons_zero, List.set_cons_succ]
        refine takeH (i := 23) (d := (some 36)) (v := ?v41) rfl rfl (by kernel_rfl) (by kernel_rfl) (by kernel_rfl) (fun _ _ _ h => h) (by rfl) ?hy41 (by assumption) ?_
        case hy41 => ((intro w hSw; (try dsimp only at hSw); (try go_split_ands); go_simp); try with_reducible rfl)
        simp only [Act.put, List.setIfInBounds_toArray, List.set_cons_zero, List.set_cons_succ]
        refine wpAnyH_ready (rs := [24]) (by kernel_rfl) (by simp) ?_
        refine AllReadyH.cons rfl (fun K hK => ?_) AllReadyH.nil
        go_simp
        refine (HM.out _).mono ?_
        rintro e w3 ⟨rfl, rfl⟩
        go_wp2_with fail
        refine hK.out _ _ hHeld (fun hHeld => ?_)
        clear hK K HM
        cases b2
        · skip
          refine takeH (i := 25) (d := (some 38)) (v := ?v43) rfl rfl (by kernel_rfl) (by kernel_rfl) (by kernel_rfl) (fun _ _ _ h => h) (by rfl) ?hy43 (by assumption) ?_
          case hy43 => ((intro w hSw; (try dsimp only at hSw); (try go_split_ands); go_simp); try with_reducible rfl)
          simp only [Act.put, List.setIfInBounds_toArray, List.set_cons_zero, List.set_cons_succ]
          refine takeH (i := 26) (d := (some 39)) (v := ?v44) rfl rfl (by kernel_rfl) (by kernel_rfl) (by kernel_rfl) (fun _ _ _ h => h) (by rfl) ?hy44 (by assumption) ?_
          case hy44 => ((intro w hSw; (try dsimp only at hSw); (try go_split_ands); go_simp); try with_reducible rfl)
          simp only [Act.put, List.setIfInBounds_toArray, List.set_cons_zero, List.set_cons_succ]
          refine wpAnyH_done (by kernel_rfl) ?_ _
          go_wp2
          go_ret
          exact ⟨by rw [hH.out, HD.out]; rfl, hHeld.1⟩
        · skip
          refine takeH (i := 25) (d := (some 38)) (v := ?v45) rfl rfl (by kernel_rfl) (by kernel_rfl) (by kernel_rfl) (fun _ _ _ h => h) (by rfl) ?hy45 (by assumption) ?_
          case hy45 => ((intro w hSw; (try dsimp only at hSw); (try go_split_ands); go_simp); try with_reducible rfl)
          simp only [Act.put, List.setIfInBounds_toArray, List.set_cons_zero, List.set_cons_succ]
          refine takeH (i := 26) (d := (some 39)) (v := ?v46) rfl rfl (by kernel_rfl) (by kernel_rfl) (by kernel_rfl) (fun _ _ _ h => h) (by rfl) ?hy46 (by assumption) ?_
          case hy46 => ((intro w hSw; (try dsimp only at hSw); (try go_split_ands); go_simp); try with_reducible rfl)
          simp only [Act.put, List.setIfInBounds_toArray, List.set_cons_zero, List.set_cons_succ]
          refine wpAnyH_done (by kernel_rfl) ?_ _
          obtain ⟨U, k0, c1⟩ := hHeld
          go_wp2_with fail
          go_roundw
          case rel => exact ⟨k + 1, x, by omega, by go_num, rfl, HB.out trivial, by have a := hH.out; have b := HD.out; unfold Hid; rw [a, b]; rfl, U, k0⟩
          case measure => simp [intOf]; omega
    · have hke : k = xs.length := by omega
      subst hke
      go_wp2
      go_ret
      exact ⟨by rw [hH.out, List.drop_eq_nil_of_le (Nat.le_refl _)]; rfl, U⟩
set_option maxRecDepth 100000 in
set_option maxHeartbeats 4000000 in
theorem r_most_any (T : Nat) (e j : Int) (w : World) (hT : T ≤ 200) (e1 : 0 ≤ e) (e2 : e ≤ 500) (j1 : 1 ≤ j) (j2 : j ≤ 500) : Calls Try.prog 90 #[.int .i64 T, .int .i64 e, .int .i64 j] w fun x w' => x = .returned (.int .i64 (S.most e j T)) ∧ w = w' := by
  go_enter Try.func90, Try.ntmps90
  go_wp2_with fail
  go_loopw [7, 8] (fun n i wr => ∃ (k : Nat) (p : Int), k ≤ T ∧ i = .int .i64 p ∧ Hid (p = (k : Int) + 1) ∧ n = .int .i64 (S.sm (S.add e j T) k) ∧ wr = w) (fun _ i _ => T + 1 - (intOf i).toNat)
  case atStart => exact ⟨0, 1, Nat.zero_le _, rfl, by simp [Hid], rfl, rfl⟩
  case round =>
    obtain ⟨k, p, hk, rfl, hp, rfl, rfl⟩ := hrel
    have hp' := hp.out
    by_cases hlt : k < T
    · have hle : p ≤ (T : Int) := by omega
      have b1 := S.sm_bd (f := S.add e j T) k 0 500 (fun i _ => by have := S.add_bd (e := e) (j := j) e1 (by omega) T i; omega)
      have hst : S.sm (S.add e j T) (k + 1) = S.sm (S.add e j T) k + S.add e j T k := rfl
      have HN := Lib.hid hst
      have ea : S.add e j T k = min e (min (j * p) (j * ((T : Int) + 1 - p))) := by
        unfold S.add
        rw [S.can_is e1 (by omega), hp']
        by_cases h : k + 1 ≤ T - k
        · rw [Nat.min_eq_left h, Int.mul_comm]
          have : j * ((k : Int) + 1) ≤ j * ((T : Int) + 1 - ((k : Int) + 1)) := Int.mul_le_mul_of_nonneg_left (by omega) (by omega)
          rw [show ((k + 1 : Nat) : Int) = (k : Int) + 1 by omega]
          omega
        · rw [Nat.min_eq_right (by omega), Int.mul_comm]
          have : j * ((T : Int) + 1 - ((k : Int) + 1)) ≤ j * ((k : Int) + 1) := Int.mul_le_mul_of_nonneg_left (by omega) (by omega)
          rw [show ((T - k : Nat) : Int) = (T : Int) + 1 - ((k : Int) + 1) by omega]
          omega
      have ab := S.add_bd (e := e) (j := j) e1 (by omega) T k
      have p1 : j * p ≤ 500 * 201 := Int.mul_le_mul (by omega) (by omega) (by omega) (by omega)
      have p0 : 0 ≤ j * p := Int.mul_nonneg (by omega) (by omega)
      have q1 : j * ((T : Int) + 1 - p) ≤ 500 * 201 := Int.mul_le_mul (by omega) (by omega) (by omega) (by omega)
      have q0 : 0 ≤ j * ((T : Int) + 1 - p) := Int.mul_nonneg (by omega) (by omega)
      have w1 : IntKind.i64.wrap ((T : Int) + 1) = (T : Int) + 1 := IntWalk.i64_in _ (by omega)
      have w2 : IntKind.i64.wrap ((T : Int) + 1 - p) = (T : Int) + 1 - p := IntWalk.i64_in _ (by omega)
      have w3 : IntKind.i64.wrap (j * p) = j * p := IntWalk.i64_in _ (by omega)
      have w4 : IntKind.i64.wrap (j * ((T : Int) + 1 - p)) = j * ((T : Int) + 1 - p) := IntWalk.i64_in _ (by omega)
      have w5 : IntKind.i64.wrap (p + 1) = p + 1 := IntWalk.i64_in _ (by omega)
      have hm : ∀ (ts : Array TypeId) (t' : TypeId) (w : World), (Builtin.min_ ts t' #[.int .i64 e, .int .i64 (j * p), .int .i64 (j * ((T : Int) + 1 - p))]).run Try.prog w = .ok (.int .i64 (S.add e j T k)) w := fun ts t' w => by
        have e := ea
        rw [run_min_int3]
        congr 3
        split <;> split <;> omega
      have w6 : IntKind.i64.wrap (S.sm (S.add e j T) k + S.add e j T k) = S.sm (S.add e j T) k + S.add e j T k := IntWalk.i64_in _ (by omega)
      clear ea hst
      generalize S.add e j T k = ad at *
      generalize S.sm (S.add e j T) k = sk at *
      clear ab b1 p1 p0 q1 q0 hp'
      go_wp2_with fail
      go_roundw
      case rel => exact ⟨k + 1, p + 1, by omega, rfl, by have := hp.out; unfold Hid; omega, by rw [HN.out], trivial⟩
      case measure => have := hp.out; simp [intOf]; omega
    · have hle : ¬ p ≤ (T : Int) := by omega
      obtain rfl : k = T := by omega
      clear hp'
      go_wp2
      go_ret
      exact ⟨rfl, rfl⟩

end Go.Proofs.Ytcadpdbadgejfaa

/- The contracts of the reference's reach and Reach. -/
namespace Go.Proofs.Ytcadpdbadgejfaa
open Go.RowKit

set_option maxRecDepth 100000 in
set_option maxHeartbeats 4000000 in
theorem r_reach_any {f s j dl dh : Int} (hr : S.ok f s j dl dh = true) (T : Nat) (hT : T ≤ 200) (w : World) : Calls Try.prog 69 #[RV f s j dl dh, .int .i64 T] w fun e w' => e = .returned (SpV (-(S.most s j T)) (S.most f j T)) ∧ Up w w' := by
  obtain ⟨⟨f1, f2⟩, ⟨s1, s2⟩, ⟨j1, j2⟩, _⟩ := S.ok_iff.1 hr
  have U0 := ((Up.refl w).alloc (.cells #[.int .i64 f, .int .i64 s, .int .i64 j, .int .i64 dl, .int .i64 dh] 25)).alloc (.cells #[.int .i64 0, .int .i64 0] 23)
  have k2 := blk_keep (.cells #[.int .i64 0, .int .i64 0] 23) (blk_new w (.cells #[.int .i64 f, .int .i64 s, .int .i64 j, .int .i64 dl, .int .i64 dh] 25) _ rfl)
  have k4 := blk_new (w.alloc (.cells #[.int .i64 f, .int .i64 s, .int .i64 j, .int .i64 dl, .int .i64 dh] 25)) (.cells #[.int .i64 0, .int .i64 0] 23) (w.heap.size + 1) (by simp)
  have e1 := S.most_bd (e := s) (j := j) s1 (by omega) T
  have e3 : (T : Int) * s ≤ 200 * 500 := Int.mul_le_mul (by omega) (by omega) (by omega) (by omega)
  have H1 := Lib.hid (fun w => r_most_any T s j w hT s1 s2 j1 j2)
  have H2 := Lib.hid (fun w => r_most_any T f j w hT f1 f2 j1 j2)
  have HT := Lib.hid (fun w => B_To_any (-(S.most s j T)) (S.most f j T) w)
  have wn : IntKind.i64.wrap (-(S.most s j T)) = -(S.most s j T) := IntWalk.i64_in _ (by omega)
  generalize S.most s j T = a at *
  generalize S.most f j T = b at *
  clear hr e1 e3
  go_enter Try.func69, Try.ntmps69
  go_wp2_with fail
  refine (wpIn_wide (n := 5)).1 ?_
  refine wpIn_nrm ?_
  refine regionG (fun w' => Up w w' ∧ mblk w' w.heap.size = some (.cells #[.int .i64 f, .int .i64 s, .int .i64 j, .int .i64 dl, .int .i64 dh] 25 (0, 0)) ∧ mblk w' (w.heap.size + 1) = some (.cells #[.int .i64 0, .int .i64 0] 23 (0, 0))) 14 (by kernel_rfl) ⟨U0.drew, by rw [blk_drew]; exact k2, by rw [blk_drew]; exact k4⟩ (fun hHeld hCl => ?_)
  clear U0 k2 k4
  refine takeG (i := 0) (d := (some 5)) (v := ?v47) rfl rfl (by kernel_rfl) (by kernel_rfl) (by decide) hCl (by kernel_rfl) (by kernel_rfl) (by kernel_rfl) (fun _ _ _ h => h) (by rfl) ?hy47 (fun _ _ _ => trivial) (by assumption) (fun hCl' => ?_)
  case hy47 => ((intro w hSw; (try dsimp only at hSw); (try go_split_ands); go_simp); try with_reducible rfl)
  simp only [Act.put, List.setIfInBounds_toArray, List.set_cons_zero, List.set_cons_succ]
  replace hCl := hCl'; clear hCl'
  refine takeG (i := 1) (d := (some 6)) (v := ?v48) rfl rfl (by kernel_rfl) (by kernel_rfl) (by decide) hCl (by kernel_rfl) (by kernel_rfl) (by kernel_rfl) (fun _ _ _ h => h) (by rfl) ?hy48 (fun _ _ _ => trivial) (by assumption) (fun hCl' => ?_)
  case hy48 => ((intro w hSw; (try dsimp only at hSw); (try go_split_ands); go_simp); try with_reducible rfl)
  simp only [Act.put, List.setIfInBounds_toArray, List.set_cons_zero, List.set_cons_succ]
  replace hCl := hCl'; clear hCl'
  refine takeG (i := 3) (d := (some 8)) (v := ?v49) rfl rfl (by kernel_rfl) (by kernel_rfl) (by decide) hCl (by kernel_rfl) (by kernel_rfl) (by kernel_rfl) (fun _ _ _ h => h) (by rfl) ?hy49 (fun _ _ _ => trivial) (by assumption) (fun hCl' => ?_)
  case hy49 => ((intro w hSw; (try dsimp only at hSw); (try go_split_ands); go_simp); try with_reducible rfl)
  simp only [Act.put, List.setIfInBounds_toArray, List.set_cons_zero, List.set_cons_succ]
  replace hCl := hCl'; clear hCl'
  refine takeG (i := 7) (d := (some 12)) (v := ?v50) rfl rfl (by kernel_rfl) (by kernel_rfl) (by decide) hCl (by kernel_rfl) (by kernel_rfl) (by kernel_rfl) (fun _ _ _ h => h) (by rfl) ?hy50 (fun _ _ _ => trivial) (by assumption) (fun hCl' => ?_)
  case hy50 => ((intro w hSw; (try dsimp only at hSw); (try go_split_ands); go_simp); try with_reducible rfl)
  simp only [Act.put, List.setIfInBounds_toArray, List.set_cons_zero, List.set_cons_succ]
  replace hCl := hCl'; clear hCl'
  refine takeG (i := 8) (d := (some 13)) (v := ?v51) rfl rfl (by kernel_rfl) (by kernel_rfl) (by decide) hCl (by kernel_rfl) (by kernel_rfl) (by kernel_rfl) (fun _ _ _ h => h) (by rfl) ?hy51 (fun _ _ _ => trivial) (by assumption) (fun hCl' => ?_)
  case hy51 => ((intro w hSw; (try dsimp only at hSw); (try go_split_ands); go_simp); try with_reducible rfl)
  simp only [Act.put, List.setIfInBounds_toArray, List.set_cons_zero, List.set_cons_succ]
  replace hCl := hCl'; clear hCl'
  refine takeG (i := 10) (d := (some 15)) (v := ?v52) rfl rfl (by kernel_rfl) (by kernel_rfl) (by decide) hCl (by kernel_rfl) (by kernel_rfl) (by kernel_rfl) (fun _ _ _ h => h) (by rfl) ?hy52 (fun _ _ _ => trivial) (by assumption) (fun hCl' => ?_)
  case hy52 => ((intro w hSw; (try dsimp only at hSw); (try go_split_ands); go_simp); try with_reducible rfl)
  simp only [Act.put, List.setIfInBounds_toArray, List.set_cons_zero, List.set_cons_succ]
  replace hCl := hCl'; clear hCl'
  refine takeG (i := 2) (d := (some 7)) (v := ?v53) rfl rfl (by kernel_rfl) (by kernel_rfl) (by decide) hCl (by kernel_rfl) (by kernel_rfl) (by kernel_rfl) (fun _ _ _ h => h) (by rfl) ?hy53 (fun _ _ _ => trivial) (by assumption) (fun hCl' => ?_)
  case hy53 => ((intro w hSw; (try dsimp only at hSw); (try go_split_ands); go_simp); try with_reducible rfl)
  simp only [Act.put, List.setIfInBounds_toArray, List.set_cons_zero, List.set_cons_succ]
  replace hCl := hCl'; clear hCl'
  refine takeG (i := 4) (d := (some 9)) (v := ?v54) rfl rfl (by kernel_rfl) (by kernel_rfl) (by decide) hCl (by kernel_rfl) (by kernel_rfl) (by kernel_rfl) (fun _ _ _ h => h) (by rfl) ?hy54 (fun _ _ _ => trivial) (by assumption) (fun hCl' => ?_)
  case hy54 => ((intro w hSw; (try dsimp only at hSw); (try go_split_ands); go_simp); try with_reducible rfl)
  simp only [Act.put, List.setIfInBounds_toArray, List.set_cons_zero, List.set_cons_succ]
  replace hCl := hCl'; clear hCl'
  refine takeG (i := 9) (d := (some 14)) (v := ?v55) rfl rfl (by kernel_rfl) (by kernel_rfl) (by decide) hCl (by kernel_rfl) (by kernel_rfl) (by kernel_rfl) (fun _ _ _ h => h) (by rfl) ?hy55 (fun _ _ _ => trivial) (by assumption) (fun hCl' => ?_)
  case hy55 => ((intro w hSw; (try dsimp only at hSw); (try go_split_ands); go_simp); try with_reducible rfl)
  simp only [Act.put, List.setIfInBounds_toArray, List.set_cons_zero, List.set_cons_succ]
  replace hCl := hCl'; clear hCl'
  refine takeG (i := 11) (d := (some 16)) (v := ?v56) rfl rfl (by kernel_rfl) (by kernel_rfl) (by decide) hCl (by kernel_rfl) (by kernel_rfl) (by kernel_rfl) (fun _ _ _ h => h) (by rfl) ?hy56 (fun _ _ _ => trivial) (by assumption) (fun hCl' => ?_)
  case hy56 => ((intro w hSw; (try dsimp only at hSw); (try go_split_ands); go_simp); try with_reducible rfl)
  simp only [Act.put, List.setIfInBounds_toArray, List.set_cons_zero, List.set_cons_succ]
  replace hCl := hCl'; clear hCl'
  refine nextG (i := 5) (by kernel_rfl) rfl (by rfl) hCl (fun K hK => ?_)
  go_simp
  refine ⟨trivial, (callsIn_wide.2 (H1.out _)).mono ?_⟩
  rintro e w3 ⟨rfl, rfl⟩
  refine hK.out _ _ hHeld (fun hHeld hCl => ?_)
  clear hK K H1
  refine takeG (i := 6) (d := (some 11)) (v := ?v58) rfl rfl (by kernel_rfl) (by kernel_rfl) (by decide) hCl (by kernel_rfl) (by kernel_rfl) (by kernel_rfl) (fun _ _ _ h => h) (by rfl) ?hy58 (fun _ _ _ => trivial) (by assumption) (fun hCl' => ?_)
  case hy58 => ((intro w hSw; (try dsimp only at hSw); (try go_split_ands); go_simp); try with_reducible rfl)
  simp only [Act.put, List.setIfInBounds_toArray, List.set_cons_zero, List.set_cons_succ]
  replace hCl := hCl'; clear hCl'
  refine nextG (i := 12) (by kernel_rfl) rfl (by rfl) hCl (fun K hK => ?_)
  go_simp
  refine ⟨trivial, (callsIn_wide.2 (H2.out _)).mono ?_⟩
  rintro e w3 ⟨rfl, rfl⟩
  refine hK.out _ _ hHeld (fun hHeld hCl => ?_)
  clear hK K H2
  refine nextG (i := 13) (by kernel_rfl) rfl (by rfl) hCl (fun K hK => ?_)
  go_simp
  refine ⟨trivial, (callsIn_wide.2 (HT.out _)).mono ?_⟩
  rintro e w4 ⟨rfl, u4⟩
  refine hK.out _ _ ⟨hHeld.1.trans u4, u4.blk hHeld.2.1, u4.blk hHeld.2.2⟩ (fun hHeld hCl => ?_)
  clear hK K u4 HT
  obtain ⟨V4, m2, m4⟩ := hHeld
  have zc := cellB m4
  have zf := frozB m4
  clear hCl
  refine lastG (i := 14) (by kernel_rfl) rfl (by rfl) (by decide) (fun K hK => ?_)
  go_simp
  have UE : Up w _ := (V4.set (p := ⟨w.heap.size + 1, 0, none⟩) (show w.heap.size ≤ w.heap.size + 1 by omega) (.int .i64 (-a))).set (p := ⟨w.heap.size + 1, 1, none⟩) (show w.heap.size ≤ w.heap.size + 1 by omega) (.int .i64 b)
  have C := Lib.hid (cellB (blk_put (blk_put m4 0 (.int .i64 (-a))) 1 (.int .i64 b)))
  refine hK.out _ _ ?_
  clear hK K zc zf m2 m4
  refine doneG (by kernel_rfl) ?_ _
  refine S.nrm_intro ?_
  go_wp2_with fail
  have cc := C.out
  exact bodyPost_ret (v := SpV (-a) b) (by simp [results, Try.results69, go_sem, cc]) rfl ⟨rfl, UE⟩

theorem r_Reach_no (f s j dl dh t : Int) (h : S.ok f s j dl dh = false) (w : World) : Calls Try.prog 23 #[RV f s j dl dh, .int .i64 t] w fun e w' => e = .returned (.tuple #[SpV 0 0, .int .i64 40]) ∧ Up w w' := by
  have U0 := ((Up.refl w).alloc (.cells #[.int .i64 f, .int .i64 s, .int .i64 j, .int .i64 dl, .int .i64 dh] 25)).alloc (.cells #[.int .i64 0, .int .i64 0] 23)
  have k4 := blk_new (w.alloc (.cells #[.int .i64 f, .int .i64 s, .int .i64 j, .int .i64 dl, .int .i64 dh] 25)) (.cells #[.int .i64 0, .int .i64 0] 23) (w.heap.size + 1) (by simp)
  have HC := Lib.hid (fun w => r_checkRule_any f s j dl dh w)
  rw [h] at HC
  clear h
  go_enter Try.func23, Try.ntmps23
  go_wp2_with fail
  refine (HC.out _).mono ?_
  rintro e w1 ⟨rfl, u1⟩
  have m4 := u1.blk k4
  have z4 := frozB m4
  have V := U0.trans u1
  have UE := (V.set (p := ⟨w.heap.size + 1, 0, none⟩) (show w.heap.size ≤ w.heap.size + 1 by omega) (.int .i64 0)).set (p := ⟨w.heap.size + 1, 1, none⟩) (show w.heap.size ≤ w.heap.size + 1 by omega) (.int .i64 0)
  have C := Lib.hid (cellB (blk_put (blk_put m4 0 (.int .i64 0)) 1 (.int .i64 0)))
  clear V u1 U0 k4 HC
  go_wp2_with fail
  have cc := C.out
  exact bodyPost_ret (v := .tuple #[SpV 0 0, .int .i64 40]) (by simp [results, Try.results23, go_sem, cc]) rfl ⟨rfl, UE⟩
theorem r_Reach_ask (f s j dl dh t : Int) (h : S.ok f s j dl dh = true) (ht : ¬ (0 ≤ t ∧ t ≤ 200)) (w : World) : Calls Try.prog 23 #[RV f s j dl dh, .int .i64 t] w fun e w' => e = .returned (.tuple #[SpV 0 0, .int .i64 41]) ∧ Up w w' := by
  have U0 := ((Up.refl w).alloc (.cells #[.int .i64 f, .int .i64 s, .int .i64 j, .int .i64 dl, .int .i64 dh] 25)).alloc (.cells #[.int .i64 0, .int .i64 0] 23)
  have k4 := blk_new (w.alloc (.cells #[.int .i64 f, .int .i64 s, .int .i64 j, .int .i64 dl, .int .i64 dh] 25)) (.cells #[.int .i64 0, .int .i64 0] 23) (w.heap.size + 1) (by simp)
  have HC := Lib.hid (fun w => r_checkRule_any f s j dl dh w)
  rw [h] at HC
  have HL := Lib.hid (fun w => show Calls Try.prog 42 #[.int .i64 t, .int .i64 0, .int .i64 200] w fun e w' => e = .returned (.bool false) ∧ w = w' by rw [← inB_no ht]; exact B_Lies_any _ _ _ w)
  clear h ht
  go_enter Try.func23, Try.ntmps23
  go_wp2_with fail
  refine (HC.out _).mono ?_
  rintro e w1 ⟨rfl, u1⟩
  have m4 := u1.blk k4
  have V := U0.trans u1
  clear u1 U0 k4 HC
  go_wp2_with fail
  refine (HL.out _).mono ?_
  rintro e w2 ⟨rfl, rfl⟩
  have z4 := frozB m4
  have UE := (V.set (p := ⟨w.heap.size + 1, 0, none⟩) (show w.heap.size ≤ w.heap.size + 1 by omega) (.int .i64 0)).set (p := ⟨w.heap.size + 1, 1, none⟩) (show w.heap.size ≤ w.heap.size + 1 by omega) (.int .i64 0)
  have C := Lib.hid (cellB (blk_put (blk_put m4 0 (.int .i64 0)) 1 (.int .i64 0)))
  clear V HL
  go_wp2_with fail
  have cc := C.out
  exact bodyPost_ret (v := .tuple #[SpV 0 0, .int .i64 41]) (by simp [results, Try.results23, go_sem, cc]) rfl ⟨rfl, UE⟩
theorem r_Reach_yes (f s j dl dh : Int) (T : Nat) (h : S.ok f s j dl dh = true) (hT : T ≤ 200) (w : World) : Calls Try.prog 23 #[RV f s j dl dh, .int .i64 T] w fun e w' => e = .returned (.tuple #[SpV (-(S.most s j T)) (S.most f j T), .int .i64 0]) ∧ Up w w' := by
  have U0 := ((Up.refl w).alloc (.cells #[.int .i64 f, .int .i64 s, .int .i64 j, .int .i64 dl, .int .i64 dh] 25)).alloc (.cells #[.int .i64 0, .int .i64 0] 23)
  have k2 := blk_keep (.cells #[.int .i64 0, .int .i64 0] 23) (blk_new w (.cells #[.int .i64 f, .int .i64 s, .int .i64 j, .int .i64 dl, .int .i64 dh] 25) _ rfl)
  have k4 := blk_new (w.alloc (.cells #[.int .i64 f, .int .i64 s, .int .i64 j, .int .i64 dl, .int .i64 dh] 25)) (.cells #[.int .i64 0, .int .i64 0] 23) (w.heap.size + 1) (by simp)
  have HC := Lib.hid (fun w => r_checkRule_any f s j dl dh w)
  rw [h] at HC
  have HL := Lib.hid (fun w => show Calls Try.prog 42 #[.int .i64 T, .int .i64 0, .int .i64 200] w fun e w' => e = .returned (.bool true) ∧ w = w' by rw [← inB_yes (show (0 : Int) ≤ T by omega) (show (T : Int) ≤ 200 by omega)]; exact B_Lies_any _ _ _ w)
  have HR := Lib.hid (fun w => r_reach_any h T hT w)
  generalize -(S.most s j T) = a at *
  generalize S.most f j T = b at *
  clear h
  go_enter Try.func23, Try.ntmps23
  go_wp2_with fail
  refine (HC.out _).mono ?_
  rintro e w1 ⟨rfl, u1⟩
  replace k2 := u1.blk k2
  have m4 := u1.blk k4
  have V := U0.trans u1
  clear u1 U0 k4 HC
  go_wp2_with fail
  refine (HL.out _).mono ?_
  rintro e w2 ⟨rfl, rfl⟩
  clear HL
  go_wp2_with fail
  refine (HR.out _).mono ?_
  rintro e w3 ⟨rfl, u3⟩
  have m4' := u3.blk m4
  have z4 := frozB m4'
  have UE := ((V.trans u3).set (p := ⟨w.heap.size + 1, 0, none⟩) (show w.heap.size ≤ w.heap.size + 1 by omega) (.int .i64 a)).set (p := ⟨w.heap.size + 1, 1, none⟩) (show w.heap.size ≤ w.heap.size + 1 by omega) (.int .i64 b)
  have C := Lib.hid (cellB (blk_put (blk_put m4' 0 (.int .i64 a)) 1 (.int .i64 b)))
  clear V HR u3 m4 k2
  go_wp2_with fail
  have cc := C.out
  exact bodyPost_ret (v := .tuple #[SpV a b, .int .i64 0]) (by simp [results, Try.results23, go_sem, cc]) rfl ⟨rfl, UE⟩

end Go.Proofs.Ytcadpdbadgejfaa
