import Derived.Test.YtcadpdbadgejfaaRfK
/- The contract of the laws' sound. -/
namespace Go.Proofs.Ytcadpdbadgejfaa
open Go.RowKit

section
variable {f s j dl dh ticks : Int} {a a' : Option Addr} {n c n' c' : Nat} {xs : List Int} {ls : List (Int × Int × Int)}
set_option maxRecDepth 100000 in
set_option maxHeartbeats 4000000 in
theorem l_sound_any {w : World} (I : Ints w (.slice a n c) xs) (I' : Lks w (.slice a' n' c') ls) : Calls Try.prog 50 #[BV f s j dl dh ticks (.slice a n c) (.slice a' n' c')] w fun e w' => e = .returned (.bool (S.bookOk f s j dl dh ticks xs ls)) ∧ Up w w' := by
  have U0 := (Up.refl w).alloc (.cells (BC f s j dl dh ticks (.slice a n c) (.slice a' n' c')) 44)
  have k1 := blk_new w (.cells (BC f s j dl dh ticks (.slice a n c) (.slice a' n' c')) 44) _ rfl
  have HC := Lib.hid (fun w' (u : Up w w') => Check_any (f := f) (s := s) (j := j) (dl := dl) (dh := dh) (ticks := ticks) (I.up u) (I'.up u))
  have hln := I.len
  have hln' := I'.len.1
  cases hb : S.bookOk f s j dl dh ticks xs ls with
  | false =>
    rw [hb] at HC
    clear hb hln hln'
    go_enter Try.func50, Try.ntmps50
    go_wp2_with fail
    refine (HC.out _ U0).mono ?_
    rintro e w1 ⟨rfl, u1⟩
    replace k1 := u1.blk k1
    replace U0 := U0.trans u1
    clear u1 HC I I'
    go_wp2_with fail
    go_loopw [3, 4] (fun o i wr => o = .bool false ∧ Up w wr) (fun _ _ _ => 0)
    case atStart => exact ⟨rfl, U0⟩
    case round =>
      clear U0 k1
      obtain ⟨rfl, U0⟩ := hrel
      go_wp2_with fail
      go_loopw [3, 5] (fun o i wr => o = .bool false ∧ Up w wr) (fun _ _ _ => 0)
      case atStart => exact ⟨rfl, U0⟩
      case round =>
        clear U0
        obtain ⟨rfl, U0⟩ := hrel
        go_wp2
        go_ret
        exact ⟨rfl, U0⟩
  | true =>
    rw [hb, if_pos rfl] at HC
    obtain ⟨g1, ⟨g2, g3⟩, ⟨g4, g5⟩, g6, g7⟩ := S.bookOk_iff.1 hb
    have HR := Lib.hid (fun w => l_isRule_any f s j dl dh w)
    rw [g1] at HR
    have HL := Lib.hid (fun w => show Calls Try.prog 42 #[.int .i64 ticks, .int .i64 1, .int .i64 60] w fun e w' => e = .returned (.bool true) ∧ w = w' by rw [← inB_yes g2 g3]; exact B_Lies_any _ _ _ w)
    have HX := Lib.hid (fun k (hk : k < xs.length) => S.keeps_bd xs 0 g5 k hk)
    have HLL := Lib.hid (fun x (h : -s ≤ x ∧ x ≤ f) w => show Calls Try.prog 42 #[.int .i64 x, .int .i64 (-s), .int .i64 f] w fun e w' => e = .returned (.bool true) ∧ w = w' by rw [← inB_yes h.1 h.2]; exact B_Lies_any _ _ _ w)
    have HK := Lib.hid (fun k (hk : k < ls.length) => show S.lookOk ticks (ls.getD k (0, 0, 0)) = true by
      rw [List.getD_eq_getElem?_getD, List.getElem?_eq_getElem hk]
      exact List.all_eq_true.1 g7 _ (List.getElem_mem hk))
    obtain ⟨⟨f1, f2⟩, ⟨s1, s2⟩, _, _⟩ := S.ok_iff.1 g1
    have ws : IntKind.i64.wrap (-s) = -s := IntWalk.i64_in _ (by omega)
    have HI := Lib.hid (fun w' (u : Up w w') => I.up u)
    have HI' := Lib.hid (fun w' (u : Up w w') => I'.up u)
    subst hln hln'
    have g4' : (xs.length : Int) ≤ ticks := g4
    have g6' : (ls.length : Int) ≤ 10 := by omega
    clear hb I I' g1 g2 g3 g5 g7 f1 f2 s1 s2
    go_enter Try.func50, Try.ntmps50
    go_wp2_with fail
    refine (HC.out _ U0).mono ?_
    rintro e w1 ⟨rfl, u1⟩
    replace k1 := u1.blk k1
    replace U0 := U0.trans u1
    clear u1 HC
    go_wp2_with fail
    refine (HR.out _).mono ?_
    rintro e w1 ⟨rfl, u1⟩
    replace k1 := u1.blk k1
    replace U0 := U0.trans u1
    clear u1 HR
    go_wp2_with fail
    refine (HL.out _).mono ?_
    rintro e w1 ⟨rfl, rfl⟩
    clear HL
    go_wp2_with fail
    go_loopw [3, 4] (fun o i wr => ∃ k : Nat, k ≤ xs.length ∧ i = .int .i64 k ∧ o = .bool true ∧ Up w wr ∧ mblk wr w.heap.size = some (.cells (BC f s j dl dh ticks (.slice a xs.length c) (.slice a' ls.length c')) 44 (0, 0))) (fun _ i _ => xs.length - (intOf i).toNat)
    case atStart => exact ⟨0, Nat.zero_le _, rfl, rfl, U0, k1⟩
    case round =>
      clear U0 k1
      obtain ⟨k, hk, rfl, rfl, U0, k1⟩ := hrel
      by_cases hlt : k < xs.length
      · have hlt' : (k : Int) < (xs.length : Int) := by omega
        obtain ⟨a1, c1, e1, _, _, hm⟩ := (HI.out _ U0).is
        injection e1 with e1 e2 e3
        subst e1 e3
        clear e2
        obtain ⟨g, off, rfl, gl, hc⟩ := hm (by omega)
        have cx := hc k hlt
        have hx := HX.out k hlt
        generalize xs.getD k 0 = x at *
        have HLx := Lib.hid (fun w => HLL.out x hx w)
        clear hc hm hx
        go_wp2_with fail
        refine wp_region_held_drew (S := fun w' => Up w w' ∧ mblk w' w.heap.size = some (.cells (BC f s j dl dh ticks (.slice (some ⟨g, off, none⟩) xs.length c) (.slice a' ls.length c')) 44 (0, 0)) ∧ w'.cell? ⟨g, off + k, none⟩ = some (.int .i64 x)) (by kernel_rfl) ⟨U0.drew, by rw [blk_drew]; exact k1, cx⟩ (fun hHeld => ?_)
        clear U0 k1 cx
        refine takeH (i := 0) (d := (some 43)) (v := ?v1) rfl rfl (by kernel_rfl) (by kernel_rfl) (by kernel_rfl) (fun _ _ _ h => h) (by rfl) ?hy1 (by assumption) ?_
        case hy1 => ((intro w hSw; (try dsimp only at hSw); (try go_split_ands); go_simp); try with_reducible rfl)
        simp only [Act.put, List.setIfInBounds_toArray, List.set_cons_zero, List.set_cons_succ]
        refine takeH (i := 2) (d := (some 45)) (v := ?v2) rfl rfl (by kernel_rfl) (by kernel_rfl) (by kernel_rfl) (fun _ _ _ h => h) (by rfl) ?hy2 (by assumption) ?_
        case hy2 => ((intro w hSw; (try dsimp only at hSw); (try go_split_ands); go_simp); try with_reducible rfl)
        simp only [Act.put, List.setIfInBounds_toArray, List.set_cons_zero, List.set_cons_succ]
        refine takeH (i := 5) (d := (some 48)) (v := ?v3) rfl rfl (by kernel_rfl) (by kernel_rfl) (by kernel_rfl) (fun _ _ _ h => h) (by rfl) ?hy3 (by assumption) ?_
        case hy3 => ((intro w hSw; (try dsimp only at hSw); (try go_split_ands); go_simp); try with_reducible rfl)
        simp only [Act.put, List.setIfInBounds_toArray, List.set_cons_zero, List.set_cons_succ]
        refine takeH (i := 9) (d := (some 52)) (v := ?v4) rfl rfl (by kernel_rfl) (by kernel_rfl) (by kernel_rfl) (fun _ _ _ h => h) (by rfl) ?hy4 (by assumption) ?_
        case hy4 => ((intro w hSw; (try dsimp only at hSw); (try go_split_ands); go_simp); try with_reducible rfl)
        simp only [Act.put, List.setIfInBounds_toArray, List.set_cons_zero, List.set_cons_succ]
        refine takeH (i := 1) (d := (some 44)) (v := ?v5) rfl rfl (by kernel_rfl) (by kernel_rfl) (by kernel_rfl) (fun _ _ _ h => h) (by rfl) ?hy5 (by assumption) ?_
        case hy5 => ((intro w hSw; (try dsimp only at hSw); (try go_split_ands); go_simp); try with_reducible rfl)
        simp only [Act.put, List.setIfInBounds_toArray, List.set_cons_zero, List.set_cons_succ]
        refine takeH (i := 6) (d := (some 49)) (v := ?v6) rfl rfl (by kernel_rfl) (by kernel_rfl) (by kernel_rfl) (fun _ _ _ h => h) (by rfl) ?hy6 (by assumption) ?_
        case hy6 => ((intro w hSw; (try dsimp only at hSw); (try go_split_ands); go_simp); try with_reducible rfl)
        simp only [Act.put, List.setIfInBounds_toArray, List.set_cons_zero, List.set_cons_succ]
        refine takeH (i := 10) (d := (some 53)) (v := ?v7) rfl rfl (by kernel_rfl) (by kernel_rfl) (by kernel_rfl) (fun _ _ _ h => h) (by rfl) ?hy7 (by assumption) ?_
        case hy7 => ((intro w hSw; (try dsimp only at hSw); (try go_split_ands); go_simp); try with_reducible rfl)
        simp only [Act.put, List.setIfInBounds_toArray, List.set_cons_zero, List.set_cons_succ]
        refine takeH (i := 3) (d := (some 46)) (v := ?v8) rfl rfl (by kernel_rfl) (by kernel_rfl) (by kernel_rfl) (fun _ _ _ h => h) (by rfl) ?hy8 (by assumption) ?_
        case hy8 => ((intro w hSw; (try dsimp only at hSw); (try go_split_ands); go_simp); try with_reducible rfl)
        simp only [Act.put, List.setIfInBounds_toArray, List.set_cons_zero, List.set_cons_succ]
        refine takeH (i := 7) (d := (some 50)) (v := ?v9) rfl rfl (by kernel_rfl) (by kernel_rfl) (by kernel_rfl) (fun _ _ _ h => h) (by rfl) ?hy9 (by assumption) ?_
        case hy9 => ((intro w hSw; (try dsimp only at hSw); (try go_split_ands); go_simp); try with_reducible rfl)
        simp only [Act.put, List.setIfInBounds_toArray, List.set_cons_zero, List.set_cons_succ]
        refine takeH (i := 11) (d := (some 54)) (v := ?v10) rfl rfl (by kernel_rfl) (by kernel_rfl) (by kernel_rfl) (fun _ _ _ h => h) (by rfl) ?hy10 (by assumption) ?_
        case hy10 => ((intro w hSw; (try dsimp only at hSw); (try go_split_ands); go_simp); try with_reducible rfl)
        simp only [Act.put, List.setIfInBounds_toArray, List.set_cons_zero, List.set_cons_succ]
        refine takeH (i := 4) (d := (some 47)) (v := ?v11) rfl rfl (by kernel_rfl) (by kernel_rfl) (by kernel_rfl) (fun _ _ _ h => h) (by rfl) ?hy11 (by assumption) ?_
        case hy11 => ((intro w hSw; (try dsimp only at hSw); (try go_split_ands); go_simp); try with_reducible rfl)
        simp only [Act.put, List.setIfInBounds_toArray, List.set_cons_zero, List.set_cons_succ]
        refine takeH (i := 8) (d := (some 51)) (v := ?v12) rfl rfl (by kernel_rfl) (by kernel_rfl) (by kernel_rfl) (fun _ _ _ h => h) (by rfl) ?hy12 (by assumption) ?_
        case hy12 => ((intro w hSw; (try dsimp only at hSw); (try go_split_ands); go_simp); try with_reducible rfl)
        simp only [Act.put, List.setIfInBounds_toArray, List.set_cons_zero, List.set_cons_succ]
        refine wpAnyH_ready (rs := [12]) (by kernel_rfl) (by simp) ?_
        refine AllReadyH.cons rfl (fun K hK => ?_) AllReadyH.nil
        go_simp
        refine (HLx.out _).mono ?_
        rintro e w3 ⟨rfl, rfl⟩
        go_wp2_with fail
        refine hK.out _ _ hHeld (fun hHeld => ?_)
        clear hK K HLx
        refine takeH (i := 13) (d := (some 3)) (v := ?v14) rfl rfl (by kernel_rfl) (by kernel_rfl) (by kernel_rfl) (fun _ _ _ h => h) (by rfl) ?hy14 (by assumption) ?_
        case hy14 => ((intro w hSw; (try dsimp only at hSw); (try go_split_ands); go_simp); try with_reducible rfl)
        simp only [Act.put, List.setIfInBounds_toArray, List.set_cons_zero, List.set_cons_succ]
        refine wpAnyH_done (by kernel_rfl) ?_ _
        go_wp2_with fail
        go_roundw
        case rel => exact ⟨k + 1, by omega, by go_num, rfl, hHeld.1, hHeld.2.1⟩
        case measure => simp [intOf]; omega
      · have hke : k = xs.length := by omega
        subst hke
        go_wp2_with fail
        go_loopw [3, 5] (fun o i wr => ∃ k : Nat, k ≤ ls.length ∧ i = .int .i64 k ∧ o = .bool true ∧ Up w wr ∧ mblk wr w.heap.size = some (.cells (BC f s j dl dh ticks (.slice a xs.length c) (.slice a' ls.length c')) 44 (0, 0))) (fun _ i _ => ls.length - (intOf i).toNat)
        case atStart => exact ⟨0, Nat.zero_le _, rfl, rfl, U0, k1⟩
        case round =>
          clear U0 k1
          obtain ⟨k, hk, rfl, rfl, U0, k1⟩ := hrel
          by_cases hlt : k < ls.length
          · have hlt' : (k : Int) < (ls.length : Int) := by omega
            obtain ⟨a1, c1, e1, _, _, hm⟩ := (HI'.out _ U0).is
            injection e1 with e1 e2 e3
            subst e1 e3
            clear e2
            obtain ⟨g, off, rfl, gl, hc⟩ := hm (by omega)
            obtain ⟨x1, x2, x3⟩ := hc k hlt
            have hx := HK.out k hlt
            generalize ls.getD k (0, 0, 0) = z at *
            obtain ⟨t, lo, hi⟩ := z
            simp only at x1 x2 x3
            have hx' : inB t 0 ticks = true ∧ S.spanOk lo hi 20000 = true := by
              have : (inB t 0 ticks && S.spanOk lo hi 20000) = true := hx
              rwa [Bool.and_eq_true] at this
            have HL1 := Lib.hid (fun w => show Calls Try.prog 42 #[.int .i64 t, .int .i64 0, .int .i64 ticks] w fun e w' => e = .returned (.bool true) ∧ w = w' by rw [← hx'.1]; exact B_Lies_any _ _ _ w)
            have hv : decide (lo ≤ hi ∧ -20000 ≤ lo ∧ hi ≤ 20000) = true := decide_eq_true (by have := S.spanOk_iff.1 hx'.2; omega)
            have HV := Lib.hid (fun w => show Calls Try.prog 77 #[SpV lo hi, .int .i64 (-20000), .int .i64 20000] w fun e w' => e = .returned (.bool true) ∧ Up w w' by rw [← hv]; exact B_Valid_any _ _ _ _ w)
            clear hc hm hx hx' hv
            go_wp2_with fail
            refine wp_region_held_drew (S := fun w' => Up w w' ∧ mblk w' w.heap.size = some (.cells (BC f s j dl dh ticks (.slice a xs.length c) (.slice (some ⟨g, off, none⟩) ls.length c')) 44 (0, 0)) ∧ w'.cell? ⟨g, off + k * 3, none⟩ = some (.int .i64 t) ∧ w'.cell? ⟨g, off + k * 3 + 1, none⟩ = some (.int .i64 lo) ∧ w'.cell? ⟨g, off + k * 3 + 2, none⟩ = some (.int .i64 hi)) (by kernel_rfl) ⟨U0.drew, by rw [blk_drew]; exact k1, x1, x2, x3⟩ (fun hHeld => ?_)
            clear U0 k1 x1 x2 x3
            refine takeH (i := 0) (d := (some 66)) (v := ?v15) rfl rfl (by kernel_rfl) (by kernel_rfl) (by kernel_rfl) (fun _ _ _ h => h) (by rfl) ?hy15 (by assumption) ?_
            case hy15 => ((intro w hSw; (try dsimp only at hSw); (try go_split_ands); go_simp); try with_reducible rfl)
            simp only [Act.put, List.setIfInBounds_toArray, List.set_cons_zero, List.set_cons_succ]
            refine takeH (i := 2) (d := (some 68)) (v := ?v16) rfl rfl (by kernel_rfl) (by kernel_rfl) (by kernel_rfl) (fun _ _ _ h => h) (by rfl) ?hy16 (by assumption) ?_
            case hy16 => ((intro w hSw; (try dsimp only at hSw); (try go_split_ands); go_simp); try with_reducible rfl)
            simp only [Act.put, List.setIfInBounds_toArray, List.set_cons_zero, List.set_cons_succ]
            refine takeH (i := 6) (d := (some 72)) (v := ?v17) rfl rfl (by kernel_rfl) (by kernel_rfl) (by kernel_rfl) (fun _ _ _ h => h) (by rfl) ?hy17 (by assumption) ?_
            case hy17 => ((intro w hSw; (try dsimp only at hSw); (try go_split_ands); go_simp); try with_reducible rfl)
            simp only [Act.put, List.setIfInBounds_toArray, List.set_cons_zero, List.set_cons_succ]
            refine takeH (i := 1) (d := (some 67)) (v := ?v18) rfl rfl (by kernel_rfl) (by kernel_rfl) (by kernel_rfl) (fun _ _ _ h => h) (by rfl) ?hy18 (by assumption) ?_
            case hy18 => ((intro w hSw; (try dsimp only at hSw); (try go_split_ands); go_simp); try with_reducible rfl)
            simp only [Act.put, List.setIfInBounds_toArray, List.set_cons_zero, List.set_cons_succ]
            refine takeH (i := 7) (d := (some 73)) (v := ?v19) rfl rfl (by kernel_rfl) (by kernel_rfl) (by kernel_rfl) (fun _ _ _ h => h) (by rfl) ?hy19 (by assumption) ?_
            case hy19 => ((intro w hSw; (try dsimp only at hSw); (try go_split_ands); go_simp); try with_reducible rfl)
            simp only [Act.put, List.setIfInBounds_toArray, List.set_cons_zero, List.set_cons_succ]
            refine takeH (i := 3) (d := (some 69)) (v := ?v20) rfl rfl (by kernel_rfl) (by kernel_rfl) (by kernel_rfl) (fun _ _ _ h => h) (by rfl) ?hy20 (by assumption) ?_
            case hy20 => ((intro w hSw; (try dsimp only at hSw); (try go_split_ands); go_simp); try with_reducible rfl)
            simp only [Act.put, List.setIfInBounds_toArray, List.set_cons_zero, List.set_cons_succ]
            refine takeH (i := 4) (d := (some 70)) (v := ?v21) rfl rfl (by kernel_rfl) (by kernel_rfl) (by kernel_rfl) (fun _ _ _ h => h) (by rfl) ?hy21 (by assumption) ?_
            case hy21 => ((intro w hSw; (try dsimp only at hSw); (try go_split_ands); go_simp); try with_reducible rfl)
            simp only [Act.put, List.setIfInBounds_toArray, List.set_cons_zero, List.set_cons_succ]
            refine takeH (i := 5) (d := (some 71)) (v := ?v22) rfl rfl (by kernel_rfl) (by kernel_rfl) (by kernel_rfl) (fun _ _ _ h => h) (by rfl) ?hy22 (by assumption) ?_
            case hy22 => ((intro w hSw; (try dsimp only at hSw); (try go_split_ands); go_simp); try with_reducible rfl)
            simp only [Act.put, List.setIfInBounds_toArray, List.set_cons_zero, List.set_cons_succ]
            refine wpAnyH_ready (rs := [8]) (by kernel_rfl) (by simp) ?_
            refine AllReadyH.cons rfl (fun K hK => ?_) AllReadyH.nil
            go_simp
            refine (HL1.out _).mono ?_
            rintro e w3 ⟨rfl, rfl⟩
            go_wp2_with fail
            refine hK.out _ _ hHeld (fun hHeld => ?_)
            clear hK K HL1
            refine takeH (i := 9) (d := (some 75)) (v := ?v24) rfl rfl (by kernel_rfl) (by kernel_rfl) (by kernel_rfl) (fun _ _ _ h => h) (by rfl) ?hy24 (by assumption) ?_
            case hy24 => ((intro w hSw; (try dsimp only at hSw); (try go_split_ands); go_simp); try with_reducible rfl)
            simp only [Act.put, List.setIfInBounds_toArray, List.set_cons_zero, List.set_cons_succ]
            refine takeH (i := 10) (d := (some 76)) (v := ?v25) rfl rfl (by kernel_rfl) (by kernel_rfl) (by kernel_rfl) (fun _ _ _ h => h) (by rfl) ?hy25 (by assumption) ?_
            case hy25 => ((intro w hSw; (try dsimp only at hSw); (try go_split_ands); go_simp); try with_reducible rfl)
            simp only [Act.put, List.setIfInBounds_toArray, List.set_cons_zero, List.set_cons_succ]
            refine takeH (i := 12) (d := (some 78)) (v := ?v26) rfl rfl (by kernel_rfl) (by kernel_rfl) (by kernel_rfl) (fun _ _ _ h => h) (by rfl) ?hy26 (by assumption) ?_
            case hy26 => ((intro w hSw; (try dsimp only at hSw); (try go_split_ands); go_simp); try with_reducible rfl)
            simp only [Act.put, List.setIfInBounds_toArray, List.set_cons_zero, List.set_cons_succ]
            refine takeH (i := 11) (d := (some 77)) (v := ?v27) rfl rfl (by kernel_rfl) (by kernel_rfl) (by kernel_rfl) (fun _ _ _ h => h) (by rfl) ?hy27 (by assumption) ?_
            case hy27 => ((intro w hSw; (try dsimp only at hSw); (try go_split_ands); go_simp); try with_reducible rfl)
            simp only [Act.put, List.setIfInBounds_toArray, List.set_cons_zero, List.set_cons_succ]
            refine takeH (i := 13) (d := (some 79)) (v := ?v28) rfl rfl (by kernel_rfl) (by kernel_rfl) (by kernel_rfl) (fun _ _ _ h => h) (by rfl) ?hy28 (by assumption) ?_
            case hy28 => ((intro w hSw; (try dsimp only at hSw); (try go_split_ands); go_simp); try with_reducible rfl)
            simp only [Act.put, List.setIfInBounds_toArray, List.set_cons_zero, List.set_cons_succ]
            refine takeH (i := 14) (d := (some 80)) (v := ?v29) rfl rfl (by kernel_rfl) (by kernel_rfl) (by kernel_rfl) (fun _ _ _ h => h) (by rfl) ?hy29 (by assumption) ?_
            case hy29 => ((intro w hSw; (try dsimp only at hSw); (try go_split_ands); go_simp); try with_reducible rfl)
            simp only [Act.put, List.setIfInBounds_toArray, List.set_cons_zero, List.set_cons_succ]
            refine takeH (i := 15) (d := (some 81)) (v := ?v30) rfl rfl (by kernel_rfl) (by kernel_rfl) (by kernel_rfl) (fun _ _ _ h => h) (by rfl) ?hy30 (by assumption) ?_
            case hy30 => ((intro w hSw; (try dsimp only at hSw); (try go_split_ands); go_simp); try with_reducible rfl)
            simp only [Act.put, List.setIfInBounds_toArray, List.set_cons_zero, List.set_cons_succ]
            refine wpAnyH_ready (rs := [16]) (by kernel_rfl) (by simp) ?_
            refine AllReadyH.cons rfl (fun K hK => ?_) AllReadyH.nil
            go_simp
            refine (HV.out _).mono ?_
            rintro e w3 ⟨rfl, u3⟩
            go_wp2_with fail
            refine hK.out _ _ ⟨hHeld.1.trans u3, u3.blk hHeld.2.1, u3.cell2 hHeld.2.2.1, u3.cell2 hHeld.2.2.2.1, u3.cell2 hHeld.2.2.2.2⟩ (fun hHeld => ?_)
            clear hK K HV u3
            refine takeH (i := 17) (d := (some 83)) (v := ?v32) rfl rfl (by kernel_rfl) (by kernel_rfl) (by kernel_rfl) (fun _ _ _ h => h) (by rfl) ?hy32 (by assumption) ?_
            case hy32 => ((intro w hSw; (try dsimp only at hSw); (try go_split_ands); go_simp); try with_reducible rfl)
            simp only [Act.put, List.setIfInBounds_toArray, List.set_cons_zero, List.set_cons_succ]
            refine takeH (i := 18) (d := (some 3)) (v := ?v33) rfl rfl (by kernel_rfl) (by kernel_rfl) (by kernel_rfl) (fun _ _ _ h => h) (by rfl) ?hy33 (by assumption) ?_
            case hy33 => ((intro w hSw; (try dsimp only at hSw); (try go_split_ands); go_simp); try with_reducible rfl)
            simp only [Act.put, List.setIfInBounds_toArray, List.set_cons_zero, List.set_cons_succ]
            refine wpAnyH_done (by kernel_rfl) ?_ _
            go_wp2_with fail
            go_roundw
            case rel => exact ⟨k + 1, by omega, by go_num, rfl, hHeld.1, hHeld.2.1⟩
            case measure => simp [intOf]; omega
          · have hke : k = ls.length := by omega
            subst hke
            go_wp2
            go_ret
            exact ⟨rfl, U0⟩
end

end Go.Proofs.Ytcadpdbadgejfaa
