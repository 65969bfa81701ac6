import Derived.Deep.Cut
import Derived.Test.YtghelfbigbdkkaaFKe
/- The law DialKnown: its head, its first loop, and all joined. -/
namespace Go.Proofs.Ytghelfbigbdkkaa
open Go.RowKit
set_option maxRecDepth 1000000 in
set_option maxHeartbeats 8000000 in
set_option linter.unusedSimpArgs false in
theorem dialKnown_any (w : World) : Calls Try.prog 3 #[] w fun e w' => e = .returned (.bool true) ∧ Up w w' := by
  go_enter Try.func3, Try.ntmps3
  go_wp2_with fail
  refine (l_week_any _ _ _).mono ?_
  rintro e w1 ⟨b1, rfl, u1, A1⟩
  have U1 := u1
  clear u1
  go_wp2_with fail
  refine (l_week_any _ _ _).mono ?_
  rintro e w2 ⟨b2, rfl, u2, A2⟩
  have U2 := U1.trans u2
  clear U1
  replace A1 := A1.up u2
  clear u2
  go_wp2_with fail
  refine (l_week_any _ _ _).mono ?_
  rintro e w3 ⟨b3, rfl, u3, A3⟩
  have U3 := U2.trans u3
  clear U2
  replace A1 := A1.up u3
  replace A2 := A2.up u3
  clear u3
  go_wp2_with fail
  refine (l_week_any _ _ _).mono ?_
  rintro e w4 ⟨b4, rfl, u4, A4⟩
  have U4 := U3.trans u4
  clear U3
  replace A1 := A1.up u4
  replace A2 := A2.up u4
  replace A3 := A3.up u4
  clear u4
  go_wp2_with fail
  refine (l_week_any _ _ _).mono ?_
  rintro e w5 ⟨b5, rfl, u5, A5⟩
  have U5 := U4.trans u5
  clear U4
  replace A1 := A1.up u5
  replace A2 := A2.up u5
  replace A3 := A3.up u5
  replace A4 := A4.up u5
  clear u5
  go_wp2_with fail
  refine (l_week_any _ _ _).mono ?_
  rintro e w6 ⟨b6, rfl, u6, A6⟩
  have U6 := U5.trans u6
  clear U5
  replace A1 := A1.up u6
  replace A2 := A2.up u6
  replace A3 := A3.up u6
  replace A4 := A4.up u6
  replace A5 := A5.up u6
  clear u6
  go_wp2_with fail
  refine (l_week_any _ _ _).mono ?_
  rintro e w7 ⟨b7, rfl, u7, A7⟩
  have U7 := U6.trans u7
  clear U6
  replace A1 := A1.up u7
  replace A2 := A2.up u7
  replace A3 := A3.up u7
  replace A4 := A4.up u7
  replace A5 := A5.up u7
  replace A6 := A6.up u7
  clear u7
  go_wp2_with fail
  refine (l_week_any _ _ _).mono ?_
  rintro e w8 ⟨b8, rfl, u8, A8⟩
  have U8 := U7.trans u8
  clear U7
  replace A1 := A1.up u8
  replace A2 := A2.up u8
  replace A3 := A3.up u8
  replace A4 := A4.up u8
  replace A5 := A5.up u8
  replace A6 := A6.up u8
  replace A7 := A7.up u8
  clear u8
  clear A8
  have k0 := blk_new w8 (.cells #[.int .i64 0, .int .i64 0, .int .i64 0, .int .i64 0, .slice none 0 0, .int .i64 3, .int .i64 4, .int .i64 10, .int .i64 2, .slice (some ⟨b1, 0, none⟩) 1 1, .int .i64 3, .int .i64 4, .int .i64 10, .int .i64 2, .slice (some ⟨b2, 0, none⟩) 1 1, .int .i64 3, .int .i64 4, .int .i64 10, .int .i64 2, .slice (some ⟨b3, 0, none⟩) 1 1, .int .i64 3, .int .i64 4, .int .i64 10, .int .i64 2, .slice (some ⟨b4, 0, none⟩) 1 1, .int .i64 3, .int .i64 4, .int .i64 10, .int .i64 2, .slice (some ⟨b5, 0, none⟩) 1 1, .int .i64 3, .int .i64 4, .int .i64 10, .int .i64 2, .slice (some ⟨b6, 0, none⟩) 1 1, .int .i64 3, .int .i64 4, .int .i64 10, .int .i64 2, .slice (some ⟨b7, 0, none⟩) 1 1, .int .i64 3, .int .i64 4, .int .i64 10, .int .i64 2, .slice (some ⟨b8, 0, none⟩) 1 1] 24) _ rfl
  have f0 := frozB k0
  go_wp2_with fail
  obtain ⟨g, hg⟩ : ∃ g, w8.heap.size = g := ⟨_, rfl⟩
  obtain ⟨W, hW⟩ : ∃ W, (w8.alloc (.cells #[.int .i64 0, .int .i64 0, .int .i64 0, .int .i64 0, .slice none 0 0, .int .i64 25, .int .i64 4, .int .i64 10, .int .i64 2, .slice (some ⟨b1, 0, none⟩) 1 1, .int .i64 3, .int .i64 61, .int .i64 10, .int .i64 2, .slice (some ⟨b2, 0, none⟩) 1 1, .int .i64 3, .int .i64 4, .int .i64 1, .int .i64 2, .slice (some ⟨b3, 0, none⟩) 1 1, .int .i64 3, .int .i64 4, .int .i64 10, .int .i64 11, .slice (some ⟨b4, 0, none⟩) 1 1, .int .i64 3, .int .i64 4, .int .i64 61, .int .i64 2, .slice (some ⟨b5, 0, none⟩) 1 1, .int .i64 3, .int .i64 4, .int .i64 10, .int .i64 2, .slice (some ⟨b6, 0, none⟩) 1 1, .int .i64 3, .int .i64 4, .int .i64 10, .int .i64 2, .slice (some ⟨b7, 0, none⟩) 1 1, .int .i64 3, .int .i64 4, .int .i64 10, .int .i64 2, .slice (some ⟨w8.heap.size + 1, 0, none⟩) 2 2] 24)).alloc (.cells #[.int .i64 1, .bool false, .int .i64 1, .bool false] 28) = W := ⟨_, rfl⟩
  rw [hg] at hW
  have V8 : Up w8 W := by rw [← hW]; exact ((Up.refl _).alloc _).alloc _
  have kg : mblk W g = some (.cells #[.int .i64 0, .int .i64 0, .int .i64 0, .int .i64 0, .slice none 0 0, .int .i64 25, .int .i64 4, .int .i64 10, .int .i64 2, .slice (some ⟨b1, 0, none⟩) 1 1, .int .i64 3, .int .i64 61, .int .i64 10, .int .i64 2, .slice (some ⟨b2, 0, none⟩) 1 1, .int .i64 3, .int .i64 4, .int .i64 1, .int .i64 2, .slice (some ⟨b3, 0, none⟩) 1 1, .int .i64 3, .int .i64 4, .int .i64 10, .int .i64 11, .slice (some ⟨b4, 0, none⟩) 1 1, .int .i64 3, .int .i64 4, .int .i64 61, .int .i64 2, .slice (some ⟨b5, 0, none⟩) 1 1, .int .i64 3, .int .i64 4, .int .i64 10, .int .i64 2, .slice (some ⟨b6, 0, none⟩) 1 1, .int .i64 3, .int .i64 4, .int .i64 10, .int .i64 2, .slice (some ⟨b7, 0, none⟩) 1 1, .int .i64 3, .int .i64 4, .int .i64 10, .int .i64 2, .slice (some ⟨g + 1, 0, none⟩) 2 2] 24 (0, 0)) := by rw [← hW]; exact blk_keep _ (blk_new _ _ _ hg.symm)
  have kd : mblk W (g + 1) = some (.cells #[.int .i64 1, .bool false, .int .i64 1, .bool false] 28 (0, 0)) := by rw [← hW]; exact blk_new _ _ _ (by simp [hg])
  have HB := Lib.hid (Kn.cals kg (A1.up V8) (A2.up V8) (A3.up V8) (A4.up V8) (A5.up V8) (A6.up V8) (A7.up V8) kd)
  have hgl := blk_lt kg
  have U := U8.trans V8
  rw [hg, hW]
  clear hg hW V8 kg kd A1 A2 A3 A4 A5 A6 A7 U8 k0 f0
  go_loopw [2] (fun iv wr => ∃ j : Nat, j ≤ 9 ∧ iv = .int .i64 j ∧ Up W wr) (fun iv _ => 9 - (intOf iv).toNat)
  case atStart => exact ⟨0, by omega, rfl, Up.refl _⟩
  case round =>
  obtain ⟨j, hj, rfl, V⟩ := hrel
  by_cases hlt : j < 9
  · obtain ⟨h, m, s, d, a, n, c, L, q0, q1, q2, q3, q4, A, hv⟩ := HB.out j hlt
    have HQ := Lib.hid (fun w' (u : Up W w') => show w'.cell? ⟨g, j * 5, none⟩ = some (.int .i64 h) ∧ w'.cell? ⟨g, j * 5 + 1, none⟩ = some (.int .i64 m) ∧ w'.cell? ⟨g, j * 5 + 2, none⟩ = some (.int .i64 s) ∧ w'.cell? ⟨g, j * 5 + 3, none⟩ = some (.int .i64 d) ∧ w'.cell? ⟨g, j * 5 + 4, none⟩ = some (.slice a n c) from ⟨(u.facts.1 g _ hgl).trans q0, (u.facts.1 g _ hgl).trans q1, (u.facts.1 g _ hgl).trans q2, (u.facts.1 g _ hgl).trans q3, (u.facts.1 g _ hgl).trans q4⟩)
    have HA := Lib.hid A
    have HV := Lib.hid hv
    have HE := Lib.hid (fun ah M => Kn.townE (ah := ah) (M := M) hv)
    have HJ := Lib.hid (show j + 1 ≤ 9 from hlt)
    clear q0 q1 q2 q3 q4 A hv HB
    obtain ⟨q0, q1, q2, q3, q4⟩ := HQ.out _ V
    go_wp2_with fail
    refine (Length_no (HA.out.up V) (-1) HV.out).mono ?_
    rintro e x1 ⟨rfl, u1⟩
    have V1 := V.trans u1
    clear u1 V q0 q1 q2 q3 q4
    obtain ⟨q0, q1, q2, q3, q4⟩ := HQ.out _ V1
    go_wp2_with fail
    refine (Total_no (HA.out.up V1) HV.out).mono ?_
    rintro e x2 ⟨rfl, u2⟩
    have V2 := V1.trans u2
    clear u2 V1 q0 q1 q2 q3 q4
    obtain ⟨q0, q1, q2, q3, q4⟩ := HQ.out _ V2
    go_wp2_with fail
    refine (Reading_no (HA.out.up V2) (-1) HV.out).mono ?_
    rintro e x3 ⟨rfl, u3⟩
    have V3 := V2.trans u3
    clear u3 V2 q0 q1 q2 q3 q4
    obtain ⟨q0, q1, q2, q3, q4⟩ := HQ.out _ V3
    go_wp2_with fail
    have V3a := V3.alloc (.cells #[.int .i64 0, .int .i64 0, .int .i64 0, .int .i64 0] 34)
    clear V3 q0 q1 q2 q3 q4
    refine wp_region_held_drew (S := fun w' => Up W w' ∧ w'.cell? ⟨g, j * 5, none⟩ = some (.int .i64 h) ∧ w'.cell? ⟨g, j * 5 + 1, none⟩ = some (.int .i64 m) ∧ w'.cell? ⟨g, j * 5 + 2, none⟩ = some (.int .i64 s) ∧ w'.cell? ⟨g, j * 5 + 3, none⟩ = some (.int .i64 d) ∧ w'.cell? ⟨g, j * 5 + 4, none⟩ = some (.slice a n c)) (by as_aux_lemma => kernel_rfl) ⟨V3a.drew, HQ.out _ V3a.drew⟩ (fun hHeld => ?_)
    clear V3a
    refine takeH (i := 0) (d := (some 121)) (v := ?v1) rfl rfl (by as_aux_lemma => kernel_rfl) (by as_aux_lemma => kernel_rfl) (by as_aux_lemma => kernel_rfl) (fun _ _ _ h => h) (by rfl) ?hy1 (by assumption) ?_
    case hy1 => ((intro w hSw; (try dsimp only at hSw); (try go_split_ands); go_simp); try with_reducible rfl)
    simp only [Act.put, List.setIfInBounds_toArray]; dsimp only [List.set_cons_zero, List.set_cons_succ]
    refine takeH (i := 1) (d := (some 122)) (v := ?v2) rfl rfl (by as_aux_lemma => kernel_rfl) (by as_aux_lemma => kernel_rfl) (by as_aux_lemma => kernel_rfl) (fun _ _ _ h => h) (by rfl) ?hy2 (by assumption) ?_
    case hy2 => ((intro w hSw; (try dsimp only at hSw); (try go_split_ands); go_simp); try with_reducible rfl)
    simp only [Act.put, List.setIfInBounds_toArray]; dsimp only [List.set_cons_zero, List.set_cons_succ]
    refine takeH (i := 2) (d := (some 123)) (v := ?v3) rfl rfl (by as_aux_lemma => kernel_rfl) (by as_aux_lemma => kernel_rfl) (by as_aux_lemma => kernel_rfl) (fun _ _ _ h => h) (by rfl) ?hy3 (by assumption) ?_
    case hy3 => ((intro w hSw; (try dsimp only at hSw); (try go_split_ands); go_simp); try with_reducible rfl)
    simp only [Act.put, List.setIfInBounds_toArray]; dsimp only [List.set_cons_zero, List.set_cons_succ]
    refine takeH (i := 3) (d := (some 124)) (v := ?v4) rfl rfl (by as_aux_lemma => kernel_rfl) (by as_aux_lemma => kernel_rfl) (by as_aux_lemma => kernel_rfl) (fun _ _ _ h => h) (by rfl) ?hy4 (by assumption) ?_
    case hy4 => ((intro w hSw; (try dsimp only at hSw); (try go_split_ands); go_simp); try with_reducible rfl)
    simp only [Act.put, List.setIfInBounds_toArray]; dsimp only [List.set_cons_zero, List.set_cons_succ]
    refine wpAnyH_ready (rs := [4]) (by as_aux_lemma => kernel_rfl) (by simp) ?_
    refine AllReadyH.cons rfl (fun K hK => ?_) AllReadyH.nil
    go_simp
    refine (l_at_any _ _ _ _ _).mono ?_
    rintro e x4 ⟨rfl, u4⟩
    go_wp2_with fail
    refine hK.out _ _ ⟨hHeld.1.trans u4, HQ.out _ (hHeld.1.trans u4)⟩ (fun hHeld => ?_)
    clear hK K u4
    refine wpAnyH_ready (rs := [5]) (by as_aux_lemma => kernel_rfl) (by simp) ?_
    refine AllReadyH.cons rfl (fun K hK => ?_) AllReadyH.nil
    go_simp
    refine (Tick_no (HA.out.up hHeld.1) 0 0 0 0 HV.out).mono ?_
    rintro e x5 ⟨rfl, u5⟩
    go_wp2_with fail
    refine hK.out _ _ ⟨hHeld.1.trans u5, HQ.out _ (hHeld.1.trans u5)⟩ (fun hHeld => ?_)
    clear hK K u5
    refine takeH (i := 6) (d := (some 120)) (v := ?v7) rfl rfl (by as_aux_lemma => kernel_rfl) (by as_aux_lemma => kernel_rfl) (by as_aux_lemma => kernel_rfl) (fun _ _ _ h => h) (by rfl) ?hy7 (by assumption) ?_
    case hy7 => ((intro w hSw; (try dsimp only at hSw); (try go_split_ands); go_simp); try with_reducible rfl)
    simp only [Act.put, List.setIfInBounds_toArray]; dsimp only [List.set_cons_zero, List.set_cons_succ]
    refine takeH (i := 7) (d := (some 127)) (v := ?v8) rfl rfl (by as_aux_lemma => kernel_rfl) (by as_aux_lemma => kernel_rfl) (by as_aux_lemma => kernel_rfl) (fun _ _ _ h => h) (by rfl) ?hy8 (by assumption) ?_
    case hy8 => ((intro w hSw; (try dsimp only at hSw); (try go_split_ands); go_simp); try with_reducible rfl)
    simp only [Act.put, List.setIfInBounds_toArray]; dsimp only [List.set_cons_zero, List.set_cons_succ]
    refine takeH (i := 8) (d := (some 128)) (v := ?v9) rfl rfl (by as_aux_lemma => kernel_rfl) (by as_aux_lemma => kernel_rfl) (by as_aux_lemma => kernel_rfl) (fun _ _ _ h => h) (by rfl) ?hy9 (by assumption) ?_
    case hy9 => ((intro w hSw; (try dsimp only at hSw); (try go_split_ands); go_simp); try with_reducible rfl)
    simp only [Act.put, List.setIfInBounds_toArray]; dsimp only [List.set_cons_zero, List.set_cons_succ]
    refine takeH (i := 9) (d := (some 9)) (v := ?v10) rfl rfl (by as_aux_lemma => kernel_rfl) (by as_aux_lemma => kernel_rfl) (by as_aux_lemma => kernel_rfl) (fun _ _ _ h => h) (by rfl) ?hy10 (by assumption) ?_
    case hy10 => ((intro w hSw; (try dsimp only at hSw); (try go_split_ands); go_simp); try with_reducible rfl)
    simp only [Act.put, List.setIfInBounds_toArray]; dsimp only [List.set_cons_zero, List.set_cons_succ]
    refine takeH (i := 10) (d := (some 10)) (v := ?v11) rfl rfl (by as_aux_lemma => kernel_rfl) (by as_aux_lemma => kernel_rfl) (by as_aux_lemma => kernel_rfl) (fun _ _ _ h => h) (by rfl) ?hy11 (by assumption) ?_
    case hy11 => ((intro w hSw; (try dsimp only at hSw); (try go_split_ands); go_simp); try with_reducible rfl)
    simp only [Act.put, List.setIfInBounds_toArray]; dsimp only [List.set_cons_zero, List.set_cons_succ]
    refine wpAnyH_done (by as_aux_lemma => kernel_rfl) ?_ _
    have V6 := hHeld.1
    clear hHeld
    go_wp2_with fail
    refine wp_region_held_drew (S := fun w' => Up W w' ∧ w'.cell? ⟨g, j * 5, none⟩ = some (.int .i64 h) ∧ w'.cell? ⟨g, j * 5 + 1, none⟩ = some (.int .i64 m) ∧ w'.cell? ⟨g, j * 5 + 2, none⟩ = some (.int .i64 s) ∧ w'.cell? ⟨g, j * 5 + 3, none⟩ = some (.int .i64 d) ∧ w'.cell? ⟨g, j * 5 + 4, none⟩ = some (.slice a n c)) (by as_aux_lemma => kernel_rfl) ⟨V6.drew, HQ.out _ V6.drew⟩ (fun hHeld => ?_)
    clear V6
    refine takeH (i := 0) (d := (some 130)) (v := ?v12) rfl rfl (by as_aux_lemma => kernel_rfl) (by as_aux_lemma => kernel_rfl) (by as_aux_lemma => kernel_rfl) (fun _ _ _ h => h) (by rfl) ?hy12 (by assumption) ?_
    case hy12 => ((intro w hSw; (try dsimp only at hSw); (try go_split_ands); go_simp); try with_reducible rfl)
    simp only [Act.put, List.setIfInBounds_toArray]; dsimp only [List.set_cons_zero, List.set_cons_succ]
    refine takeH (i := 1) (d := (some 131)) (v := ?v13) rfl rfl (by as_aux_lemma => kernel_rfl) (by as_aux_lemma => kernel_rfl) (by as_aux_lemma => kernel_rfl) (fun _ _ _ h => h) (by rfl) ?hy13 (by assumption) ?_
    case hy13 => ((intro w hSw; (try dsimp only at hSw); (try go_split_ands); go_simp); try with_reducible rfl)
    simp only [Act.put, List.setIfInBounds_toArray]; dsimp only [List.set_cons_zero, List.set_cons_succ]
    refine takeH (i := 2) (d := (some 132)) (v := ?v14) rfl rfl (by as_aux_lemma => kernel_rfl) (by as_aux_lemma => kernel_rfl) (by as_aux_lemma => kernel_rfl) (fun _ _ _ h => h) (by rfl) ?hy14 (by assumption) ?_
    case hy14 => ((intro w hSw; (try dsimp only at hSw); (try go_split_ands); go_simp); try with_reducible rfl)
    simp only [Act.put, List.setIfInBounds_toArray]; dsimp only [List.set_cons_zero, List.set_cons_succ]
    refine takeH (i := 3) (d := (some 133)) (v := ?v15) rfl rfl (by as_aux_lemma => kernel_rfl) (by as_aux_lemma => kernel_rfl) (by as_aux_lemma => kernel_rfl) (fun _ _ _ h => h) (by rfl) ?hy15 (by assumption) ?_
    case hy15 => ((intro w hSw; (try dsimp only at hSw); (try go_split_ands); go_simp); try with_reducible rfl)
    simp only [Act.put, List.setIfInBounds_toArray]; dsimp only [List.set_cons_zero, List.set_cons_succ]
    refine wpAnyH_ready (rs := [4]) (by as_aux_lemma => kernel_rfl) (by simp) ?_
    refine AllReadyH.cons rfl (fun K hK => ?_) AllReadyH.nil
    go_simp
    refine (l_at_any _ _ _ _ _).mono ?_
    rintro e x7 ⟨rfl, u7⟩
    go_wp2_with fail
    refine hK.out _ _ ⟨hHeld.1.trans u7, HQ.out _ (hHeld.1.trans u7)⟩ (fun hHeld => ?_)
    clear hK K u7
    refine wpAnyH_ready (rs := [5]) (by as_aux_lemma => kernel_rfl) (by simp) ?_
    refine AllReadyH.cons rfl (fun K hK => ?_) AllReadyH.nil
    go_simp
    refine (l_at_any _ _ _ _ _).mono ?_
    rintro e x8 ⟨rfl, u8⟩
    go_wp2_with fail
    refine hK.out _ _ ⟨hHeld.1.trans u8, HQ.out _ (hHeld.1.trans u8)⟩ (fun hHeld => ?_)
    clear hK K u8
    refine wpAnyH_ready (rs := [6]) (by as_aux_lemma => kernel_rfl) (by simp) ?_
    refine AllReadyH.cons rfl (fun K hK => ?_) AllReadyH.nil
    go_simp
    refine (Kn.apart (HA.out.up hHeld.1) HV.out).mono ?_
    rintro e x9 ⟨rfl, u9⟩
    go_wp2_with fail
    refine hK.out _ _ ⟨hHeld.1.trans u9, HQ.out _ (hHeld.1.trans u9)⟩ (fun hHeld => ?_)
    clear hK K u9
    refine takeH (i := 7) (d := (some 129)) (v := ?v19) rfl rfl (by as_aux_lemma => kernel_rfl) (by as_aux_lemma => kernel_rfl) (by as_aux_lemma => kernel_rfl) (fun _ _ _ h => h) (by rfl) ?hy19 (by assumption) ?_
    case hy19 => ((intro w hSw; (try dsimp only at hSw); (try go_split_ands); go_simp); try with_reducible rfl)
    simp only [Act.put, List.setIfInBounds_toArray]; dsimp only [List.set_cons_zero, List.set_cons_succ]
    refine takeH (i := 8) (d := (some 137)) (v := ?v20) rfl rfl (by as_aux_lemma => kernel_rfl) (by as_aux_lemma => kernel_rfl) (by as_aux_lemma => kernel_rfl) (fun _ _ _ h => h) (by rfl) ?hy20 (by assumption) ?_
    case hy20 => ((intro w hSw; (try dsimp only at hSw); (try go_split_ands); go_simp); try with_reducible rfl)
    simp only [Act.put, List.setIfInBounds_toArray]; dsimp only [List.set_cons_zero, List.set_cons_succ]
    refine takeH (i := 9) (d := (some 138)) (v := ?v21) rfl rfl (by as_aux_lemma => kernel_rfl) (by as_aux_lemma => kernel_rfl) (by as_aux_lemma => kernel_rfl) (fun _ _ _ h => h) (by rfl) ?hy21 (by assumption) ?_
    case hy21 => ((intro w hSw; (try dsimp only at hSw); (try go_split_ands); go_simp); try with_reducible rfl)
    simp only [Act.put, List.setIfInBounds_toArray]; dsimp only [List.set_cons_zero, List.set_cons_succ]
    refine takeH (i := 10) (d := (some 11)) (v := ?v22) rfl rfl (by as_aux_lemma => kernel_rfl) (by as_aux_lemma => kernel_rfl) (by as_aux_lemma => kernel_rfl) (fun _ _ _ h => h) (by rfl) ?hy22 (by assumption) ?_
    case hy22 => ((intro w hSw; (try dsimp only at hSw); (try go_split_ands); go_simp); try with_reducible rfl)
    simp only [Act.put, List.setIfInBounds_toArray]; dsimp only [List.set_cons_zero, List.set_cons_succ]
    refine takeH (i := 11) (d := (some 12)) (v := ?v23) rfl rfl (by as_aux_lemma => kernel_rfl) (by as_aux_lemma => kernel_rfl) (by as_aux_lemma => kernel_rfl) (fun _ _ _ h => h) (by rfl) ?hy23 (by assumption) ?_
    case hy23 => ((intro w hSw; (try dsimp only at hSw); (try go_split_ands); go_simp); try with_reducible rfl)
    simp only [Act.put, List.setIfInBounds_toArray]; dsimp only [List.set_cons_zero, List.set_cons_succ]
    refine wpAnyH_done (by as_aux_lemma => kernel_rfl) ?_ _
    have V10 := hHeld.1
    clear hHeld
    obtain ⟨q0, q1, q2, q3, q4⟩ := HQ.out _ V10
    go_wp2_with fail
    refine (Next_no (HA.out.up V10) (-1) 0 HV.out).mono ?_
    rintro e x11 ⟨rfl, u11⟩
    have V11 := V10.trans u11
    clear u11 V10 q0 q1 q2 q3 q4
    obtain ⟨q0, q1, q2, q3, q4⟩ := HQ.out _ V11
    go_wp2_with fail
    refine (Kn.loc (HA.out.up V11) (Kn.town0 _) (HE.out 1441 []) (by omega)).mono ?_
    rintro e x12 ⟨rfl, u12⟩
    have V12 := V11.trans u12
    clear u12 V11 q0 q1 q2 q3 q4
    go_wp2_with fail
    have V3b := V12.alloc (.cells #[.int .i64 0, .int .i64 0, .int .i64 0, .int .i64 0] 34)
    clear V12
    refine wp_region_held_drew (S := fun w' => Up W w' ∧ w'.cell? ⟨g, j * 5, none⟩ = some (.int .i64 h) ∧ w'.cell? ⟨g, j * 5 + 1, none⟩ = some (.int .i64 m) ∧ w'.cell? ⟨g, j * 5 + 2, none⟩ = some (.int .i64 s) ∧ w'.cell? ⟨g, j * 5 + 3, none⟩ = some (.int .i64 d) ∧ w'.cell? ⟨g, j * 5 + 4, none⟩ = some (.slice a n c)) (by as_aux_lemma => kernel_rfl) ⟨V3b.drew, HQ.out _ V3b.drew⟩ (fun hHeld => ?_)
    clear V3b
    refine takeH (i := 0) (d := (some 157)) (v := ?v24) rfl rfl (by as_aux_lemma => kernel_rfl) (by as_aux_lemma => kernel_rfl) (by as_aux_lemma => kernel_rfl) (fun _ _ _ h => h) (by rfl) ?hy24 (by assumption) ?_
    case hy24 => ((intro w hSw; (try dsimp only at hSw); (try go_split_ands); go_simp); try with_reducible rfl)
    simp only [Act.put, List.setIfInBounds_toArray]; dsimp only [List.set_cons_zero, List.set_cons_succ]
    refine takeH (i := 1) (d := (some 158)) (v := ?v25) rfl rfl (by as_aux_lemma => kernel_rfl) (by as_aux_lemma => kernel_rfl) (by as_aux_lemma => kernel_rfl) (fun _ _ _ h => h) (by rfl) ?hy25 (by assumption) ?_
    case hy25 => ((intro w hSw; (try dsimp only at hSw); (try go_split_ands); go_simp); try with_reducible rfl)
    simp only [Act.put, List.setIfInBounds_toArray]; dsimp only [List.set_cons_zero, List.set_cons_succ]
    refine takeH (i := 4) (d := (some 161)) (v := ?v26) rfl rfl (by as_aux_lemma => kernel_rfl) (by as_aux_lemma => kernel_rfl) (by as_aux_lemma => kernel_rfl) (fun _ _ _ h => h) (by rfl) ?hy26 (by assumption) ?_
    case hy26 => ((intro w hSw; (try dsimp only at hSw); (try go_split_ands); go_simp); try with_reducible rfl)
    simp only [Act.put, List.setIfInBounds_toArray]; dsimp only [List.set_cons_zero, List.set_cons_succ]
    refine takeH (i := 2) (d := (some 159)) (v := ?v27) rfl rfl (by as_aux_lemma => kernel_rfl) (by as_aux_lemma => kernel_rfl) (by as_aux_lemma => kernel_rfl) (fun _ _ _ h => h) (by rfl) ?hy27 (by assumption) ?_
    case hy27 => ((intro w hSw; (try dsimp only at hSw); (try go_split_ands); go_simp); try with_reducible rfl)
    simp only [Act.put, List.setIfInBounds_toArray]; dsimp only [List.set_cons_zero, List.set_cons_succ]
    refine takeH (i := 3) (d := (some 160)) (v := ?v28) rfl rfl (by as_aux_lemma => kernel_rfl) (by as_aux_lemma => kernel_rfl) (by as_aux_lemma => kernel_rfl) (fun _ _ _ h => h) (by rfl) ?hy28 (by assumption) ?_
    case hy28 => ((intro w hSw; (try dsimp only at hSw); (try go_split_ands); go_simp); try with_reducible rfl)
    simp only [Act.put, List.setIfInBounds_toArray]; dsimp only [List.set_cons_zero, List.set_cons_succ]
    refine wpAnyH_ready (rs := [5]) (by as_aux_lemma => kernel_rfl) (by simp) ?_
    refine AllReadyH.cons rfl (fun K hK => ?_) AllReadyH.nil
    go_simp
    refine (l_at_any _ _ _ _ _).mono ?_
    rintro e x13 ⟨rfl, u13⟩
    go_wp2_with fail
    refine hK.out _ _ ⟨hHeld.1.trans u13, HQ.out _ (hHeld.1.trans u13)⟩ (fun hHeld => ?_)
    clear hK K u13
    refine wpAnyH_ready (rs := [6]) (by as_aux_lemma => kernel_rfl) (by simp) ?_
    refine AllReadyH.cons rfl (fun K hK => ?_) AllReadyH.nil
    go_simp
    refine (Kn.ticks (HA.out.up hHeld.1) (Kn.town0 _) (HE.out 0 []) (by omega)).mono ?_
    rintro e x14 ⟨rfl, u14⟩
    go_wp2_with fail
    refine hK.out _ _ ⟨hHeld.1.trans u14, HQ.out _ (hHeld.1.trans u14)⟩ (fun hHeld => ?_)
    clear hK K u14
    refine takeH (i := 7) (d := (some 156)) (v := ?v31) rfl rfl (by as_aux_lemma => kernel_rfl) (by as_aux_lemma => kernel_rfl) (by as_aux_lemma => kernel_rfl) (fun _ _ _ h => h) (by rfl) ?hy31 (by assumption) ?_
    case hy31 => ((intro w hSw; (try dsimp only at hSw); (try go_split_ands); go_simp); try with_reducible rfl)
    simp only [Act.put, List.setIfInBounds_toArray]; dsimp only [List.set_cons_zero, List.set_cons_succ]
    refine takeH (i := 8) (d := (some 164)) (v := ?v32) rfl rfl (by as_aux_lemma => kernel_rfl) (by as_aux_lemma => kernel_rfl) (by as_aux_lemma => kernel_rfl) (fun _ _ _ h => h) (by rfl) ?hy32 (by assumption) ?_
    case hy32 => ((intro w hSw; (try dsimp only at hSw); (try go_split_ands); go_simp); try with_reducible rfl)
    simp only [Act.put, List.setIfInBounds_toArray]; dsimp only [List.set_cons_zero, List.set_cons_succ]
    refine takeH (i := 9) (d := (some 165)) (v := ?v33) rfl rfl (by as_aux_lemma => kernel_rfl) (by as_aux_lemma => kernel_rfl) (by as_aux_lemma => kernel_rfl) (fun _ _ _ h => h) (by rfl) ?hy33 (by assumption) ?_
    case hy33 => ((intro w hSw; (try dsimp only at hSw); (try go_split_ands); go_simp); try with_reducible rfl)
    simp only [Act.put, List.setIfInBounds_toArray]; dsimp only [List.set_cons_zero, List.set_cons_succ]
    refine takeH (i := 10) (d := (some 17)) (v := ?v34) rfl rfl (by as_aux_lemma => kernel_rfl) (by as_aux_lemma => kernel_rfl) (by as_aux_lemma => kernel_rfl) (fun _ _ _ h => h) (by rfl) ?hy34 (by assumption) ?_
    case hy34 => ((intro w hSw; (try dsimp only at hSw); (try go_split_ands); go_simp); try with_reducible rfl)
    simp only [Act.put, List.setIfInBounds_toArray]; dsimp only [List.set_cons_zero, List.set_cons_succ]
    refine takeH (i := 11) (d := (some 18)) (v := ?v35) rfl rfl (by as_aux_lemma => kernel_rfl) (by as_aux_lemma => kernel_rfl) (by as_aux_lemma => kernel_rfl) (fun _ _ _ h => h) (by rfl) ?hy35 (by assumption) ?_
    case hy35 => ((intro w hSw; (try dsimp only at hSw); (try go_split_ands); go_simp); try with_reducible rfl)
    simp only [Act.put, List.setIfInBounds_toArray]; dsimp only [List.set_cons_zero, List.set_cons_succ]
    refine wpAnyH_done (by as_aux_lemma => kernel_rfl) ?_ _
    have V15 := hHeld.1
    clear hHeld
    obtain ⟨q0, q1, q2, q3, q4⟩ := HQ.out _ V15
    go_wp2_with fail
    refine (Kn.twice (HA.out.up V15) (Kn.town0 _) (HE.out 0 []) (by omega)).mono ?_
    rintro e x16 ⟨rfl, u16⟩
    have V16 := V15.trans u16
    clear u16 V15 q0 q1 q2 q3 q4
    obtain ⟨q0, q1, q2, q3, q4⟩ := HQ.out _ V16
    go_wp2_with fail
    refine (Check_no (HA.out.up V16) HV.out).mono ?_
    rintro e x17 ⟨rfl, u17⟩
    have V17 := V16.trans u17
    clear u17 V16 q0 q1 q2 q3 q4
    obtain ⟨q0, q1, q2, q3, q4⟩ := HQ.out _ V17
    go_wp2_with fail
    refine (Kn.check (HA.out.up V17) (Kn.town0 _) (HE.out 0 [])).mono ?_
    rintro e x18 ⟨rfl, u18⟩
    have V18 := V17.trans u18
    clear u18 V17 q0 q1 q2 q3 q4
    go_wp2
    go_roundw
    case rel => exact ⟨j + 1, HJ.out, by go_num, V18⟩
    case measure => have := HJ.out; simp [intOf]; omega
  · have n9 : ¬ ((j : Int) < 9) := by omega
    have U9 := U.trans V
    clear U V HB hj hlt hgl
    go_upto_if 93 with (fail)
    go_step
    go_step
    go_step
    go_step
    go_step
    go_step
    exact kn_tail9 _ _ _ _ _ _ _ _ _ _ _ _ _ _ _ _ _ _ _ _ _ _ _ _ _ _ _ _ _ _ _ _ _ _ _ _ _ _ _ _ _ _ _ _ _ _ _ _ _ _ _ _ _ _ _ _ _ _ _ _ _ _ _ _ _ _ _ _ _ _ _ _ _ _ _ _ _ _ _ _ _ _ _ _ _ _ _ _ _ _ _ _ _ _ _ _ _ _ _ _ _ _ _ _ _ _ _ _ _ _ _ _ _ _ _ _ _ _ _ _ _ _ _ _ _ _ _ _ _ _ _ _ _ _ _ _ _ _ _ _ _ _ _ _ _ _ _ _ _ _ _ _ _ _ _ _ _ _ _ _ _ _ _ _ _ _ _ _ _ _ _ _ _ _ _ _ _ _ _ _ _ _ _ _ _ _ _ _ _ _ _ _ _ _ _ _ _ _ _ _ _ _ _ _ _ _ _ _ _ _ _ _ _ _ _ _ _ _ _ _ _ _ _ _ _ _ U9

end Go.Proofs.Ytghelfbigbdkkaa
