import Derived.Test.YtfmnfingliflkaaRefJ
import Derived.Test.YtfmnfingliflkaaLawB
/- The walk of the law DialTowns. -/
namespace Go.Proofs.Ytfmnfingliflkaa
open Go.RowKit
attribute [local go_sem] cell_TW7

set_option maxRecDepth 100000 in
set_option maxHeartbeats 4000000 in
theorem dialTowns_any {h m s d : Int} {a : Option Addr} {n c : Nat} {L : List (Int × Bool)} {ah : Int} {a' : Option Addr} {n' c' : Nat} {M : List (Int × Int)} {w : World} (A : CalArg w a n c L) (hn : n ≤ 17592186044000) (B : TownArg w a' n' c' M) (t p0 p1 p2 p3 : Int) :
    Calls Try.prog 5 #[.agg #[.int .i64 h, .int .i64 m, .int .i64 s, .int .i64 d, .slice a n c, .int .i64 ah, .slice a' n' c'], .int .i64 t, rd p0 p1 p2 p3] w fun e w' => e = .returned (.bool true) ∧ Up w w' := by
  have U0 := ((Up.refl w).alloc (.cells #[.int .i64 h, .int .i64 m, .int .i64 s, .int .i64 d, .slice a n c, .int .i64 ah, .slice a' n' c'] 46)).alloc (.cells #[.int .i64 p0, .int .i64 p1, .int .i64 p2, .int .i64 p3] 27)
  obtain ⟨R1, R2, R3, R4, e1, L1, L2⟩ := both_Local (h := h) (m := m) (s := s) (d := d) (c := c) (c' := c') (ah := ah) A hn B t
  obtain ⟨e2, C1, C2⟩ := both_CheckTown (h := h) (m := m) (s := s) (d := d) (c := c) (c' := c') (ah := ah) A hn B
  obtain ⟨l, e3, T1, T2⟩ := both_Ticks (h := h) (m := m) (s := s) (d := d) (c := c) (c' := c') (ah := ah) A hn B p0 p1 p2 p3
  have HL1 := Lib.hid L1
  have HL2 := Lib.hid L2
  have HC1 := Lib.hid C1
  have HC2 := Lib.hid C2
  have HT1 := Lib.hid T1
  have HT2 := Lib.hid T2
  clear L1 L2 C1 C2 T1 T2 A B hn
  go_enter Try.func5, Try.ntmps5
  go_wp2_with fail
  obtain ⟨W0, hW0⟩ : ∃ W0, (w.alloc (.cells #[.int .i64 h, .int .i64 m, .int .i64 s, .int .i64 d, .slice a n c, .int .i64 ah, .slice a' n' c'] 46)).alloc (.cells #[.int .i64 p0, .int .i64 p1, .int .i64 p2, .int .i64 p3] 27) = W0 := ⟨_, rfl⟩
  rw [hW0] at U0 ⊢
  have c0 : mblk W0 w.heap.size = some (.cells #[.int .i64 h, .int .i64 m, .int .i64 s, .int .i64 d, .slice a n c, .int .i64 ah, .slice a' n' c'] 46 (0, 0)) := by rw [← hW0]; exact blk_keep _ (blk_new _ _ _ rfl)
  have r0 : mblk W0 (w.heap.size + 1) = some (.cells #[.int .i64 p0, .int .i64 p1, .int .i64 p2, .int .i64 p3] 27 (0, 0)) := by rw [← hW0]; exact blk_new _ _ _ (by simp)
  clear hW0
  refine (HL1.out _ U0).mono ?_
  rintro e w1 ⟨rfl, u1⟩
  have U1 := U0.trans u1
  have c1 := u1.blk c0
  have r1 := u1.blk r0
  have fc1 := cellB c1
  have fr1 := cellB r1
  have lc1 := blk_lt c1
  have lr1 := blk_lt r1
  clear u1 U0 c0 r0
  go_wp2_with fail
  obtain ⟨W2, hW2⟩ : ∃ W2, w1.alloc (.cells #[.int .i64 R1, .int .i64 R2, .int .i64 R3, .int .i64 R4] 27) = W2 := ⟨_, rfl⟩
  obtain ⟨x, hx⟩ : ∃ x, w1.heap.size = x := ⟨_, rfl⟩
  have x2 : mblk W2 x = some (.cells #[.int .i64 R1, .int .i64 R2, .int .i64 R3, .int .i64 R4] 27 (0, 0)) := by rw [← hW2]; exact blk_new _ _ _ hx.symm
  have c2 : mblk W2 w.heap.size = some (.cells #[.int .i64 h, .int .i64 m, .int .i64 s, .int .i64 d, .slice a n c, .int .i64 ah, .slice a' n' c'] 46 (0, 0)) := by rw [← hW2]; exact blk_keep _ c1
  have r2 : mblk W2 (w.heap.size + 1) = some (.cells #[.int .i64 p0, .int .i64 p1, .int .i64 p2, .int .i64 p3] 27 (0, 0)) := by rw [← hW2]; exact blk_keep _ r1
  have U2 : Up w W2 := by rw [← hW2]; exact U1.alloc _
  rw [hx, hW2]
  clear hW2 hx U1 c1 r1 fc1 fr1 lc1 lr1
  refine (HL2.out _ U2).mono ?_
  rintro e w3 ⟨rfl, u3⟩
  have U3 := U2.trans u3
  have c3 := u3.blk c2
  have r3 := u3.blk r2
  have x3 := u3.blk x2
  clear u3 U2 c2 r2 x2 HL1 HL2
  go_wp2_with fail
  obtain ⟨W4, hW4⟩ : ∃ W4, w3.alloc (.cells #[.int .i64 R1, .int .i64 R2, .int .i64 R3, .int .i64 R4] 27) = W4 := ⟨_, rfl⟩
  obtain ⟨y, hy⟩ : ∃ y, w3.heap.size = y := ⟨_, rfl⟩
  have y4 : mblk W4 y = some (.cells #[.int .i64 R1, .int .i64 R2, .int .i64 R3, .int .i64 R4] 27 (0, 0)) := by rw [← hW4]; exact blk_new _ _ _ hy.symm
  have x4 : mblk W4 x = some (.cells #[.int .i64 R1, .int .i64 R2, .int .i64 R3, .int .i64 R4] 27 (0, 0)) := by rw [← hW4]; exact blk_keep _ x3
  have c4 : mblk W4 w.heap.size = some (.cells #[.int .i64 h, .int .i64 m, .int .i64 s, .int .i64 d, .slice a n c, .int .i64 ah, .slice a' n' c'] 46 (0, 0)) := by rw [← hW4]; exact blk_keep _ c3
  have r4 : mblk W4 (w.heap.size + 1) = some (.cells #[.int .i64 p0, .int .i64 p1, .int .i64 p2, .int .i64 p3] 27 (0, 0)) := by rw [← hW4]; exact blk_keep _ r3
  have U4 : Up w W4 := by rw [← hW4]; exact U3.alloc _
  rw [hy, hW4]
  clear hW4 hy U3 c3 r3 x3
  refine wp_region_held_drew (S := fun w' => Up w w' ∧ mblk w' w.heap.size = some (.cells #[.int .i64 h, .int .i64 m, .int .i64 s, .int .i64 d, .slice a n c, .int .i64 ah, .slice a' n' c'] 46 (0, 0)) ∧ mblk w' (w.heap.size + 1) = some (.cells #[.int .i64 p0, .int .i64 p1, .int .i64 p2, .int .i64 p3] 27 (0, 0)) ∧ mblk w' x = some (.cells #[.int .i64 R1, .int .i64 R2, .int .i64 R3, .int .i64 R4] 27 (0, 0)) ∧ mblk w' y = some (.cells #[.int .i64 R1, .int .i64 R2, .int .i64 R3, .int .i64 R4] 27 (0, 0))) (by kernel_rfl) ⟨U4.drew, by rw [blk_drew]; exact c4, by rw [blk_drew]; exact r4, by rw [blk_drew]; exact x4, by rw [blk_drew]; exact y4⟩ (fun hHeld => ?_)
  clear U4 c4 r4 x4 y4
  refine takeH (i := 0) (d := (some 31)) (v := ?v1) rfl rfl (by kernel_rfl) (by kernel_rfl) (by kernel_rfl) (fun _ _ _ h => h) (by rfl) ?hy1 (by assumption) ?_
  case hy1 => ((intro w hSw; (try dsimp only at hSw); (try go_split_ands); go_simp); try with_reducible rfl)
  simp only [Act.put, List.setIfInBounds_toArray, List.set_cons_zero, List.set_cons_succ]
  refine takeH (i := 1) (d := (some 32)) (v := ?v2) rfl rfl (by kernel_rfl) (by kernel_rfl) (by kernel_rfl) (fun _ _ _ h => h) (by rfl) ?hy2 (by assumption) ?_
  case hy2 => ((intro w hSw; (try dsimp only at hSw); (try go_split_ands); go_simp); try with_reducible rfl)
  simp only [Act.put, List.setIfInBounds_toArray, List.set_cons_zero, List.set_cons_succ]
  refine takeH (i := 2) (d := (some 33)) (v := ?v3) rfl rfl (by kernel_rfl) (by kernel_rfl) (by kernel_rfl) (fun _ _ _ h => h) (by rfl) ?hy3 (by assumption) ?_
  case hy3 => ((intro w hSw; (try dsimp only at hSw); (try go_split_ands); go_simp); try with_reducible rfl)
  simp only [Act.put, List.setIfInBounds_toArray, List.set_cons_zero, List.set_cons_succ]
  refine takeH (i := 3) (d := (some 34)) (v := ?v4) rfl rfl (by kernel_rfl) (by kernel_rfl) (by kernel_rfl) (fun _ _ _ h => h) (by rfl) ?hy4 (by assumption) ?_
  case hy4 => ((intro w hSw; (try dsimp only at hSw); (try go_split_ands); go_simp); try with_reducible rfl)
  simp only [Act.put, List.setIfInBounds_toArray, List.set_cons_zero, List.set_cons_succ]
  refine takeH (i := 4) (d := (some 35)) (v := ?v5) rfl rfl (by kernel_rfl) (by kernel_rfl) (by kernel_rfl) (fun _ _ _ h => h) (by rfl) ?hy5 (by assumption) ?_
  case hy5 => ((intro w hSw; (try dsimp only at hSw); (try go_split_ands); go_simp); try with_reducible rfl)
  simp only [Act.put, List.setIfInBounds_toArray, List.set_cons_zero, List.set_cons_succ]
  refine takeH (i := 5) (d := (some 36)) (v := ?v6) rfl rfl (by kernel_rfl) (by kernel_rfl) (by kernel_rfl) (fun _ _ _ h => h) (by rfl) ?hy6 (by assumption) ?_
  case hy6 => ((intro w hSw; (try dsimp only at hSw); (try go_split_ands); go_simp); try with_reducible rfl)
  simp only [Act.put, List.setIfInBounds_toArray, List.set_cons_zero, List.set_cons_succ]
  refine takeH (i := 6) (d := (some 37)) (v := ?v7) rfl rfl (by kernel_rfl) (by kernel_rfl) (by kernel_rfl) (fun _ _ _ h => h) (by rfl) ?hy7 (by assumption) ?_
  case hy7 => ((intro w hSw; (try dsimp only at hSw); (try go_split_ands); go_simp); try with_reducible rfl)
  simp only [Act.put, List.setIfInBounds_toArray, List.set_cons_zero, List.set_cons_succ]
  refine takeH (i := 7) (d := (some 38)) (v := ?v8) rfl rfl (by kernel_rfl) (by kernel_rfl) (by kernel_rfl) (fun _ _ _ h => h) (by rfl) ?hy8 (by assumption) ?_
  case hy8 => ((intro w hSw; (try dsimp only at hSw); (try go_split_ands); go_simp); try with_reducible rfl)
  simp only [Act.put, List.setIfInBounds_toArray, List.set_cons_zero, List.set_cons_succ]
  refine takeH (i := 8) (d := (some 39)) (v := ?v9) rfl rfl (by kernel_rfl) (by kernel_rfl) (by kernel_rfl) (fun _ _ _ h => h) (by rfl) ?hy9 (by assumption) ?_
  case hy9 => ((intro w hSw; (try dsimp only at hSw); (try go_split_ands); go_simp); try with_reducible rfl)
  simp only [Act.put, List.setIfInBounds_toArray, List.set_cons_zero, List.set_cons_succ]
  refine takeH (i := 9) (d := (some 40)) (v := ?v10) rfl rfl (by kernel_rfl) (by kernel_rfl) (by kernel_rfl) (fun _ _ _ h => h) (by rfl) ?hy10 (by assumption) ?_
  case hy10 => ((intro w hSw; (try dsimp only at hSw); (try go_split_ands); go_simp); try with_reducible rfl)
  simp only [Act.put, List.setIfInBounds_toArray, List.set_cons_zero, List.set_cons_succ]
  refine takeH (i := 11) (d := (some 42)) (v := ?v11) rfl rfl (by kernel_rfl) (by kernel_rfl) (by kernel_rfl) (fun _ _ _ h => h) (by rfl) ?hy11 (by assumption) ?_
  case hy11 => ((intro w hSw; (try dsimp only at hSw); (try go_split_ands); go_simp); try with_reducible rfl)
  simp only [Act.put, List.setIfInBounds_toArray, List.set_cons_zero, List.set_cons_succ]
  refine takeH (i := 14) (d := (some 45)) (v := ?v12) rfl rfl (by kernel_rfl) (by kernel_rfl) (by kernel_rfl) (fun _ _ _ h => h) (by rfl) ?hy12 (by assumption) ?_
  case hy12 => ((intro w hSw; (try dsimp only at hSw); (try go_split_ands); go_simp); try with_reducible rfl)
  simp only [Act.put, List.setIfInBounds_toArray, List.set_cons_zero, List.set_cons_succ]
  refine takeH (i := 16) (d := (some 47)) (v := ?v13) rfl rfl (by kernel_rfl) (by kernel_rfl) (by kernel_rfl) (fun _ _ _ h => h) (by rfl) ?hy13 (by assumption) ?_
  case hy13 => ((intro w hSw; (try dsimp only at hSw); (try go_split_ands); go_simp); try with_reducible rfl)
  simp only [Act.put, List.setIfInBounds_toArray, List.set_cons_zero, List.set_cons_succ]
  refine takeH (i := 10) (d := (some 41)) (v := ?v14) rfl rfl (by kernel_rfl) (by kernel_rfl) (by kernel_rfl) (fun _ _ _ h => h) (by rfl) ?hy14 (by assumption) ?_
  case hy14 => ((intro w hSw; (try dsimp only at hSw); (try go_split_ands); go_simp); try with_reducible rfl)
  simp only [Act.put, List.setIfInBounds_toArray, List.set_cons_zero, List.set_cons_succ]
  refine takeH (i := 12) (d := (some 43)) (v := ?v15) rfl rfl (by kernel_rfl) (by kernel_rfl) (by kernel_rfl) (fun _ _ _ h => h) (by rfl) ?hy15 (by assumption) ?_
  case hy15 => ((intro w hSw; (try dsimp only at hSw); (try go_split_ands); go_simp); try with_reducible rfl)
  simp only [Act.put, List.setIfInBounds_toArray, List.set_cons_zero, List.set_cons_succ]
  refine takeH (i := 15) (d := (some 46)) (v := ?v16) rfl rfl (by kernel_rfl) (by kernel_rfl) (by kernel_rfl) (fun _ _ _ h => h) (by rfl) ?hy16 (by assumption) ?_
  case hy16 => ((intro w hSw; (try dsimp only at hSw); (try go_split_ands); go_simp); try with_reducible rfl)
  simp only [Act.put, List.setIfInBounds_toArray, List.set_cons_zero, List.set_cons_succ]
  refine takeH (i := 17) (d := (some 48)) (v := ?v17) rfl rfl (by kernel_rfl) (by kernel_rfl) (by kernel_rfl) (fun _ _ _ h => h) (by rfl) ?hy17 (by assumption) ?_
  case hy17 => ((intro w hSw; (try dsimp only at hSw); (try go_split_ands); go_simp); try with_reducible rfl)
  simp only [Act.put, List.setIfInBounds_toArray, List.set_cons_zero, List.set_cons_succ]
  refine wpAnyH_ready (rs := [13]) (by kernel_rfl) (by simp) ?_
  refine AllReadyH.cons rfl (fun K hK => ?_) AllReadyH.nil
  go_simp
  refine (HC1.out _ hHeld.1).mono ?_
  rintro e w5 ⟨rfl, u5⟩
  go_wp2_with fail
  refine hK.out _ _ ⟨hHeld.1.trans u5, u5.blk hHeld.2.1, u5.blk hHeld.2.2.1, u5.blk hHeld.2.2.2.1, u5.blk hHeld.2.2.2.2⟩ (fun hHeld => ?_)
  clear hK K u5
  refine wpAnyH_ready (rs := [18]) (by kernel_rfl) (by simp) ?_
  refine AllReadyH.cons rfl (fun K hK => ?_) AllReadyH.nil
  go_simp
  refine (HC2.out _ hHeld.1).mono ?_
  rintro e w6 ⟨rfl, u6⟩
  go_wp2_with fail
  refine hK.out _ _ ⟨hHeld.1.trans u6, u6.blk hHeld.2.1, u6.blk hHeld.2.2.1, u6.blk hHeld.2.2.2.1, u6.blk hHeld.2.2.2.2⟩ (fun hHeld => ?_)
  clear hK K u6
  refine takeH (i := 19) (d := (some 50)) (v := ?v20) rfl rfl (by kernel_rfl) (by kernel_rfl) (by kernel_rfl) (fun _ _ _ h => h) (by rfl) ?hy20 (by assumption) ?_
  case hy20 => ((intro w hSw; (try dsimp only at hSw); (try go_split_ands); go_simp); try with_reducible rfl)
  simp only [Act.put, List.setIfInBounds_toArray, List.set_cons_zero, List.set_cons_succ]
  refine takeH (i := 20) (d := (some 51)) (v := ?v21) rfl rfl (by kernel_rfl) (by kernel_rfl) (by kernel_rfl) (fun _ _ _ h => h) (by rfl) ?hy21 (by assumption) ?_
  case hy21 => ((intro w hSw; (try dsimp only at hSw); (try go_split_ands); go_simp); try with_reducible rfl)
  simp only [Act.put, List.setIfInBounds_toArray, List.set_cons_zero, List.set_cons_succ]
  refine wpAnyH_done (by kernel_rfl) ?_ _
  obtain ⟨U6, c6, r6, _, _⟩ := hHeld
  have fc6 := cellB c6
  have fr6 := cellB r6
  clear HC1 HC2
  go_wp2_with fail
  refine (HT1.out _ U6).mono ?_
  rintro e w7 ⟨va, rfl, u7, S7⟩
  have U7 := U6.trans u7
  have c7 := u7.blk c6
  have r7 := u7.blk r6
  have fc7 := cellB c7
  have fr7 := cellB r7
  have SS7 := Lib.hid S7
  clear u7 U6 c6 r6 fc6 fr6 S7
  go_wp2_with fail
  refine (HT2.out _ U7).mono ?_
  rintro e w8 ⟨vb, rfl, u8, S8⟩
  have U8 := U7.trans u8
  have KA := Lib.hid (l_Alike_any (SS7.out.up u8) S8)
  rw [decide_eq_true (rfl : l = l)] at KA
  clear u8 U7 c7 r7 fc7 fr7 SS7 S8 HT1 HT2
  go_wp2_with fail
  refine KA.out.mono ?_
  rintro e w9 ⟨rfl, u9⟩
  go_wp2_with fail
  refine (l_works_any _).mono ?_
  rintro e w10 ⟨rfl, u10⟩
  go_wp2
  go_ret
  exact ⟨rfl, (U8.trans u9).trans u10⟩

end Go.Proofs.Ytfmnfingliflkaa
