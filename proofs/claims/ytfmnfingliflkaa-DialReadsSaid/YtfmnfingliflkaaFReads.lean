import Derived.Test.YtfmnfingliflkaaRefE
/- The walk of the law DialReads. -/
namespace Go.Proofs.Ytfmnfingliflkaa
open Go.RowKit
theorem cell_BOX2r {w : World} {b : Nat} {cs : Array Value} (h : mblk w b = some (.cells cs 25 (0, 0))) (j : Nat) : w.cell? ⟨b, j, none⟩ = cs[j]? := cellB h j
attribute [local go_sem] cell_BOX2r cell_CAL

set_option maxRecDepth 100000 in
set_option maxHeartbeats 4000000 in
theorem dialReads_any {h m s d : Int} {a : Option Addr} {n c : Nat} {L : List (Int × Bool)} {w : World} (A : CalArg w a n c L) (hn : n ≤ 17592186044000) (n0 n1 p0 p1 p2 p3 : Int) :
    Calls Try.prog 3 #[.agg #[.int .i64 h, .int .i64 m, .int .i64 s, .int .i64 d, .slice a n c], .agg #[.int .i64 n0, .int .i64 n1], rd p0 p1 p2 p3] w fun e w' => e = .returned (.bool true) ∧ Up w w' := by
  have U0 := (((Up.refl w).alloc (.cells #[.int .i64 h, .int .i64 m, .int .i64 s, .int .i64 d, .slice a n c] 24)).alloc (.cells #[.int .i64 n0, .int .i64 n1] 25)).alloc (.cells #[.int .i64 p0, .int .i64 p1, .int .i64 p2, .int .i64 p3] 27)
  obtain ⟨v1, e1, L1, L2⟩ := both_Length (h := h) (m := m) (s := s) (d := d) (c := c) A hn n0
  obtain ⟨e2, C1, C2⟩ := both_Check (h := h) (m := m) (s := s) (d := d) (c := c) A hn
  obtain ⟨v3, e3, T1, T2⟩ := both_Total (h := h) (m := m) (s := s) (d := d) (c := c) A hn
  obtain ⟨R1, R2, R3, R4, e4, D1, D2⟩ := both_Reading (h := h) (m := m) (s := s) (d := d) (c := c) A hn n1
  obtain ⟨v5, e5, K1, K2⟩ := both_Tick (h := h) (m := m) (s := s) (d := d) (c := c) A hn p0 p1 p2 p3
  have HL1 := Lib.hid L1
  have HL2 := Lib.hid L2
  have HC1 := Lib.hid C1
  have HC2 := Lib.hid C2
  have HT1 := Lib.hid T1
  have HT2 := Lib.hid T2
  have HD1 := Lib.hid D1
  have HD2 := Lib.hid D2
  have HK1 := Lib.hid K1
  have HK2 := Lib.hid K2
  clear L1 L2 C1 C2 T1 T2 D1 D2 K1 K2 A hn
  go_enter Try.func3, Try.ntmps3
  go_wp2_with fail
  obtain ⟨W0, hW0⟩ : ∃ W0, ((w.alloc (.cells #[.int .i64 h, .int .i64 m, .int .i64 s, .int .i64 d, .slice a n c] 24)).alloc (.cells #[.int .i64 n0, .int .i64 n1] 25)).alloc (.cells #[.int .i64 p0, .int .i64 p1, .int .i64 p2, .int .i64 p3] 27) = W0 := ⟨_, rfl⟩
  rw [hW0] at U0 ⊢
  have c0 : mblk W0 w.heap.size = some (.cells #[.int .i64 h, .int .i64 m, .int .i64 s, .int .i64 d, .slice a n c] 24 (0, 0)) := by rw [← hW0]; exact blk_keep _ (blk_keep _ (blk_new _ _ _ rfl))
  have n0' : mblk W0 (w.heap.size + 1) = some (.cells #[.int .i64 n0, .int .i64 n1] 25 (0, 0)) := by rw [← hW0]; exact blk_keep _ (blk_new _ _ _ (by simp))
  have r0 : mblk W0 (w.heap.size + 1 + 1) = some (.cells #[.int .i64 p0, .int .i64 p1, .int .i64 p2, .int .i64 p3] 27 (0, 0)) := by rw [← hW0]; exact blk_new _ _ _ (by simp)
  clear hW0
  refine (HL1.out _ U0).mono ?_
  rintro e w1 ⟨rfl, u1⟩
  have U1 := U0.trans u1
  have c1 := u1.blk c0
  have n1' := u1.blk n0'
  have r1 := u1.blk r0
  have fc1 := cellB c1
  have fn1 := cellB n1'
  have fr1 := cellB r1
  clear u1 U0 c0 n0' r0
  go_wp2_with fail
  refine (HL2.out _ U1).mono ?_
  rintro e w2 ⟨rfl, u2⟩
  have U2 := U1.trans u2
  have c2 := u2.blk c1
  have n2' := u2.blk n1'
  have r2 := u2.blk r1
  have fc2 := cellB c2
  have fn2 := cellB n2'
  have fr2 := cellB r2
  clear u2 U1 c1 n1' r1 fc1 fn1 fr1
  go_wp2_with fail
  clear fc2 fn2 fr2
  refine wp_region_held_drew (S := fun w' => Up w w' ∧ mblk w' w.heap.size = some (.cells #[.int .i64 h, .int .i64 m, .int .i64 s, .int .i64 d, .slice a n c] 24 (0, 0)) ∧ mblk w' (w.heap.size + 1) = some (.cells #[.int .i64 n0, .int .i64 n1] 25 (0, 0)) ∧ mblk w' (w.heap.size + 1 + 1) = some (.cells #[.int .i64 p0, .int .i64 p1, .int .i64 p2, .int .i64 p3] 27 (0, 0))) (by kernel_rfl) ⟨U2.drew, by rw [blk_drew]; exact c2, by rw [blk_drew]; exact n2', by rw [blk_drew]; exact r2⟩ (fun hHeld => ?_)
  clear U2 c2 n2' r2
  refine takeH (i := 0) (d := (some 27)) (v := ?v1) rfl rfl (by kernel_rfl) (by kernel_rfl) (by kernel_rfl) (fun _ _ _ h => h) (by rfl) ?hy1 (by assumption) ?_
  case hy1 => ((intro w hSw; (try dsimp only at hSw); (try go_split_ands); go_simp); try with_reducible rfl)
  simp only [Act.put, List.setIfInBounds_toArray, List.set_cons_zero, List.set_cons_succ]
  refine takeH (i := 1) (d := (some 28)) (v := ?v2) rfl rfl (by kernel_rfl) (by kernel_rfl) (by kernel_rfl) (fun _ _ _ h => h) (by rfl) ?hy2 (by assumption) ?_
  case hy2 => ((intro w hSw; (try dsimp only at hSw); (try go_split_ands); go_simp); try with_reducible rfl)
  simp only [Act.put, List.setIfInBounds_toArray, List.set_cons_zero, List.set_cons_succ]
  refine takeH (i := 2) (d := (some 29)) (v := ?v3) rfl rfl (by kernel_rfl) (by kernel_rfl) (by kernel_rfl) (fun _ _ _ h => h) (by rfl) ?hy3 (by assumption) ?_
  case hy3 => ((intro w hSw; (try dsimp only at hSw); (try go_split_ands); go_simp); try with_reducible rfl)
  simp only [Act.put, List.setIfInBounds_toArray, List.set_cons_zero, List.set_cons_succ]
  refine takeH (i := 3) (d := (some 30)) (v := ?v4) rfl rfl (by kernel_rfl) (by kernel_rfl) (by kernel_rfl) (fun _ _ _ h => h) (by rfl) ?hy4 (by assumption) ?_
  case hy4 => ((intro w hSw; (try dsimp only at hSw); (try go_split_ands); go_simp); try with_reducible rfl)
  simp only [Act.put, List.setIfInBounds_toArray, List.set_cons_zero, List.set_cons_succ]
  refine takeH (i := 4) (d := (some 31)) (v := ?v5) rfl rfl (by kernel_rfl) (by kernel_rfl) (by kernel_rfl) (fun _ _ _ h => h) (by rfl) ?hy5 (by assumption) ?_
  case hy5 => ((intro w hSw; (try dsimp only at hSw); (try go_split_ands); go_simp); try with_reducible rfl)
  simp only [Act.put, List.setIfInBounds_toArray, List.set_cons_zero, List.set_cons_succ]
  refine takeH (i := 5) (d := (some 32)) (v := ?v6) rfl rfl (by kernel_rfl) (by kernel_rfl) (by kernel_rfl) (fun _ _ _ h => h) (by rfl) ?hy6 (by assumption) ?_
  case hy6 => ((intro w hSw; (try dsimp only at hSw); (try go_split_ands); go_simp); try with_reducible rfl)
  simp only [Act.put, List.setIfInBounds_toArray, List.set_cons_zero, List.set_cons_succ]
  refine takeH (i := 6) (d := (some 33)) (v := ?v7) rfl rfl (by kernel_rfl) (by kernel_rfl) (by kernel_rfl) (fun _ _ _ h => h) (by rfl) ?hy7 (by assumption) ?_
  case hy7 => ((intro w hSw; (try dsimp only at hSw); (try go_split_ands); go_simp); try with_reducible rfl)
  simp only [Act.put, List.setIfInBounds_toArray, List.set_cons_zero, List.set_cons_succ]
  refine takeH (i := 7) (d := (some 34)) (v := ?v8) rfl rfl (by kernel_rfl) (by kernel_rfl) (by kernel_rfl) (fun _ _ _ h => h) (by rfl) ?hy8 (by assumption) ?_
  case hy8 => ((intro w hSw; (try dsimp only at hSw); (try go_split_ands); go_simp); try with_reducible rfl)
  simp only [Act.put, List.setIfInBounds_toArray, List.set_cons_zero, List.set_cons_succ]
  refine takeH (i := 8) (d := (some 35)) (v := ?v9) rfl rfl (by kernel_rfl) (by kernel_rfl) (by kernel_rfl) (fun _ _ _ h => h) (by rfl) ?hy9 (by assumption) ?_
  case hy9 => ((intro w hSw; (try dsimp only at hSw); (try go_split_ands); go_simp); try with_reducible rfl)
  simp only [Act.put, List.setIfInBounds_toArray, List.set_cons_zero, List.set_cons_succ]
  refine takeH (i := 9) (d := (some 36)) (v := ?v10) rfl rfl (by kernel_rfl) (by kernel_rfl) (by kernel_rfl) (fun _ _ _ h => h) (by rfl) ?hy10 (by assumption) ?_
  case hy10 => ((intro w hSw; (try dsimp only at hSw); (try go_split_ands); go_simp); try with_reducible rfl)
  simp only [Act.put, List.setIfInBounds_toArray, List.set_cons_zero, List.set_cons_succ]
  refine takeH (i := 11) (d := (some 38)) (v := ?v11) rfl rfl (by kernel_rfl) (by kernel_rfl) (by kernel_rfl) (fun _ _ _ h => h) (by rfl) ?hy11 (by assumption) ?_
  case hy11 => ((intro w hSw; (try dsimp only at hSw); (try go_split_ands); go_simp); try with_reducible rfl)
  simp only [Act.put, List.setIfInBounds_toArray, List.set_cons_zero, List.set_cons_succ]
  refine wpAnyH_ready (rs := [10]) (by kernel_rfl) (by simp) ?_
  refine AllReadyH.cons rfl (fun K hK => ?_) AllReadyH.nil
  go_simp
  refine (HC1.out _ hHeld.1).mono ?_
  rintro e w3 ⟨rfl, u3⟩
  go_wp2_with fail
  refine hK.out _ _ ⟨hHeld.1.trans u3, u3.blk hHeld.2.1, u3.blk hHeld.2.2.1, u3.blk hHeld.2.2.2⟩ (fun hHeld => ?_)
  clear hK K u3
  refine wpAnyH_ready (rs := [12]) (by kernel_rfl) (by simp) ?_
  refine AllReadyH.cons rfl (fun K hK => ?_) AllReadyH.nil
  go_simp
  refine (HC2.out _ hHeld.1).mono ?_
  rintro e w4 ⟨rfl, u4⟩
  go_wp2_with fail
  refine hK.out _ _ ⟨hHeld.1.trans u4, u4.blk hHeld.2.1, u4.blk hHeld.2.2.1, u4.blk hHeld.2.2.2⟩ (fun hHeld => ?_)
  clear hK K u4
  refine takeH (i := 13) (d := (some 40)) (v := ?v14) rfl rfl (by kernel_rfl) (by kernel_rfl) (by kernel_rfl) (fun _ _ _ h => h) (by rfl) ?hy14 (by assumption) ?_
  case hy14 => ((intro w hSw; (try dsimp only at hSw); (try go_split_ands); go_simp); try with_reducible rfl)
  simp only [Act.put, List.setIfInBounds_toArray, List.set_cons_zero, List.set_cons_succ]
  refine takeH (i := 14) (d := (some 41)) (v := ?v15) rfl rfl (by kernel_rfl) (by kernel_rfl) (by kernel_rfl) (fun _ _ _ h => h) (by rfl) ?hy15 (by assumption) ?_
  case hy15 => ((intro w hSw; (try dsimp only at hSw); (try go_split_ands); go_simp); try with_reducible rfl)
  simp only [Act.put, List.setIfInBounds_toArray, List.set_cons_zero, List.set_cons_succ]
  refine wpAnyH_done (by kernel_rfl) ?_ _
  obtain ⟨U4, c4, n4', r4⟩ := hHeld
  have fc4 := cellB c4
  have fn4 := cellB n4'
  have fr4 := cellB r4
  clear HL1 HL2 HC1 HC2
  go_wp2_with fail
  refine (HT1.out _ U4).mono ?_
  rintro e w5 ⟨rfl, u5⟩
  have U5 := U4.trans u5
  have c5 := u5.blk c4
  have n5' := u5.blk n4'
  have r5 := u5.blk r4
  have fc5 := cellB c5
  have fn5 := cellB n5'
  have fr5 := cellB r5
  clear u5 U4 c4 n4' r4 fc4 fn4 fr4
  go_wp2_with fail
  refine (HT2.out _ U5).mono ?_
  rintro e w6 ⟨rfl, u6⟩
  have U6 := U5.trans u6
  have c6 := u6.blk c5
  have n6' := u6.blk n5'
  have r6 := u6.blk r5
  have fc6 := cellB c6
  have fn6 := cellB n6'
  have fr6 := cellB r6
  clear u6 U5 c5 n5' r5 fc5 fn5 fr5
  go_wp2_with fail
  refine (HD1.out _ U6).mono ?_
  rintro e w7 ⟨rfl, u7⟩
  have U7 := U6.trans u7
  have c7 := u7.blk c6
  have n7' := u7.blk n6'
  have r7 := u7.blk r6
  have fc7 := cellB c7
  have fn7 := cellB n7'
  have fr7 := cellB r7
  clear u7 U6 c6 n6' r6 fc6 fn6 fr6
  go_wp2_with fail
  have lc7 := blk_lt c7
  have ln7 := blk_lt n7'
  obtain ⟨W8, hW8⟩ : ∃ W8, w7.alloc (.cells #[.int .i64 R1, .int .i64 R2, .int .i64 R3, .int .i64 R4] 27) = W8 := ⟨_, rfl⟩
  obtain ⟨x, hx⟩ : ∃ x, w7.heap.size = x := ⟨_, rfl⟩
  have x8 : mblk W8 x = some (.cells #[.int .i64 R1, .int .i64 R2, .int .i64 R3, .int .i64 R4] 27 (0, 0)) := by rw [← hW8]; exact blk_new _ _ _ hx.symm
  have c8 : mblk W8 w.heap.size = some (.cells #[.int .i64 h, .int .i64 m, .int .i64 s, .int .i64 d, .slice a n c] 24 (0, 0)) := by rw [← hW8]; exact blk_keep _ c7
  have r8 : mblk W8 (w.heap.size + 1 + 1) = some (.cells #[.int .i64 p0, .int .i64 p1, .int .i64 p2, .int .i64 p3] 27 (0, 0)) := by rw [← hW8]; exact blk_keep _ r7
  have U8 : Up w W8 := by rw [← hW8]; exact U7.alloc _
  rw [hx, hW8]
  clear hW8 hx U7 c7 n7' r7 fc7 fn7 fr7 lc7 ln7
  refine (HD2.out _ U8).mono ?_
  rintro e w9 ⟨rfl, u9⟩
  have U9 := U8.trans u9
  have c9 := u9.blk c8
  have r9 := u9.blk r8
  have x9 := u9.blk x8
  have fx9 := cellB x9
  have lc9 := blk_lt c9
  have lr9 := blk_lt r9
  have lx9 := blk_lt x9
  have fc9 := cellB c9
  have fr9 := cellB r9
  clear u9 U8 c8 r8 x8 HT1 HT2 HD1 HD2
  go_wp2_with fail
  obtain ⟨W10, hW10⟩ : ∃ W10, w9.alloc (.cells #[.int .i64 R1, .int .i64 R2, .int .i64 R3, .int .i64 R4] 27) = W10 := ⟨_, rfl⟩
  have c10 : mblk W10 w.heap.size = some (.cells #[.int .i64 h, .int .i64 m, .int .i64 s, .int .i64 d, .slice a n c] 24 (0, 0)) := by rw [← hW10]; exact blk_keep _ c9
  have r10 : mblk W10 (w.heap.size + 1 + 1) = some (.cells #[.int .i64 p0, .int .i64 p1, .int .i64 p2, .int .i64 p3] 27 (0, 0)) := by rw [← hW10]; exact blk_keep _ r9
  have U10 : Up w W10 := by rw [← hW10]; exact U9.alloc _
  rw [hW10]
  clear hW10 U9 c9 r9 x9 fx9 lc9 lr9 lx9 fc9 fr9
  refine (HK1.out _ U10).mono ?_
  rintro e w11 ⟨rfl, u11⟩
  have U11 := U10.trans u11
  have c11 := u11.blk c10
  have r11 := u11.blk r10
  have fc11 := cellB c11
  have fr11 := cellB r11
  clear u11 U10 c10 r10
  go_wp2_with fail
  refine (HK2.out _ U11).mono ?_
  rintro e w12 ⟨rfl, u12⟩
  have U12 := U11.trans u12
  clear u12 U11 c11 r11 fc11 fr11
  go_wp2_with fail
  refine (l_works_any _).mono ?_
  rintro e w13 ⟨rfl, u13⟩
  go_wp2
  go_ret
  exact ⟨rfl, U12.trans u13⟩

end Go.Proofs.Ytfmnfingliflkaa
