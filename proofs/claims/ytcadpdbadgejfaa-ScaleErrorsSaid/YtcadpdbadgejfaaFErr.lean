import Derived.Test.YtcadpdbadgejfaaRfp
/- The law ScaleErrors. -/
namespace Go.Proofs.Ytcadpdbadgejfaa
open Go.RowKit

section
variable {f s j dl dh ticks : Int} {a a' : Option Addr} {n c n' c' : Nat} {xs : List Int} {ls : List (Int × Int × Int)}
set_option maxRecDepth 100000 in
set_option maxHeartbeats 4000000 in
theorem scaleErrors_any (tick : Int) {w : World} (I : Ints w (.slice a n c) xs) (I' : Lks w (.slice a' n' c') ls) : Calls Try.prog 5 #[BV f s j dl dh ticks (.slice a n c) (.slice a' n' c'), .int .i64 tick] w fun e w' => e = .returned (.bool true) ∧ Up w w' := by
  have U0 := (Up.refl w).alloc (.cells (BC f s j dl dh ticks (.slice a n c) (.slice a' n' c')) 44)
  have k2 := blk_new w (.cells (BC f s j dl dh ticks (.slice a n c) (.slice a' n' c')) 44) _ rfl
  have HW := Lib.hid (fun w => l_works_any w)
  have HE1 := Lib.hid (fun w' (u : Up w w') => Error_any (f := f) (s := s) (j := j) (dl := dl) (dh := dh) (ticks := ticks) (I.up u) (I'.up u) tick)
  have HE2 := Lib.hid (fun w' (u : Up w w') => r_Error_any (f := f) (s := s) (j := j) (dl := dl) (dh := dh) (ticks := ticks) (I.up u) (I'.up u) tick)
  have HS1 := Lib.hid (fun w' (u : Up w w') => Stated_any (f := f) (s := s) (j := j) (dl := dl) (dh := dh) (ticks := ticks) (I.up u) (I'.up u) tick)
  have HS2 := Lib.hid (fun w' (u : Up w w') => r_Stated_any (f := f) (s := s) (j := j) (dl := dl) (dh := dh) (ticks := ticks) (I.up u) (I'.up u) tick)
  have HCa := Lib.hid (fun w' (u : Up w w') => Check_any (f := f) (s := s) (j := j) (dl := dl) (dh := dh) (ticks := ticks) (I.up u) (I'.up u))
  have HCb := Lib.hid (fun w' (u : Up w w') => r_Check_any (f := f) (s := s) (j := j) (dl := dl) (dh := dh) (ticks := ticks) (I.up u) (I'.up u))
  obtain ⟨ck, hck⟩ : ∃ y : Int, (if S.bookOk f s j dl dh ticks xs ls then (0 : Int) else 40) = y := ⟨_, rfl⟩
  rw [hck] at HCa HCb
  clear I I' hck
  go_enter Try.func5, Try.ntmps5
  go_wp2_with fail
  refine (HE1.out _ U0).mono ?_
  rintro e w1 ⟨l, h, r, rfl, T1, u1⟩
  have m5 := blk_new w1 (.cells #[.int .i64 l, .int .i64 h] 23) _ rfl
  have l2 := blk_lt (u1.blk k2)
  replace k2 := blk_keep (.cells #[.int .i64 l, .int .i64 h] 23) (u1.blk k2)
  replace U0 := (U0.trans u1).alloc (.cells #[.int .i64 l, .int .i64 h] 23)
  clear u1 HE1
  go_wp2_with fail
  refine (HE2.out _ U0).mono ?_
  rintro e w2 ⟨l', h', r', rfl, T2, u2⟩
  obtain ⟨rfl, rfl, rfl⟩ := T1.uniq T2
  have m7 := blk_new w2 (.cells #[.int .i64 l, .int .i64 h] 23) _ rfl
  have l2 := blk_lt (u2.blk k2)
  have l5 := blk_lt (u2.blk m5)
  replace k2 := blk_keep (.cells #[.int .i64 l, .int .i64 h] 23) (u2.blk k2)
  replace m5 := blk_keep (.cells #[.int .i64 l, .int .i64 h] 23) (u2.blk m5)
  replace U0 := (U0.trans u2).alloc (.cells #[.int .i64 l, .int .i64 h] 23)
  clear u2 HE2 T1 T2
  obtain ⟨p5, hp5⟩ : ∃ p, w1.heap.size = p := ⟨_, rfl⟩
  obtain ⟨p7, hp7⟩ : ∃ p, w2.heap.size = p := ⟨_, rfl⟩
  obtain ⟨W3, hW3⟩ : ∃ W, w2.alloc (.cells #[.int .i64 l, .int .i64 h] 23) = W := ⟨_, rfl⟩
  rw [hp5] at m5
  rw [hp7] at m7
  rw [hW3] at m5 m7 k2 U0
  go_wp2_with fail
  try rw [hW3]
  clear hp5 hp7 hW3 l2 l5
  refine wp_region_held_drew (S := fun w' => Up w w' ∧ mblk w' w.heap.size = some (.cells (BC f s j dl dh ticks (.slice a n c) (.slice a' n' c')) 44 (0, 0)) ∧ mblk w' p5 = some (.cells #[.int .i64 l, .int .i64 h] 23 (0, 0)) ∧ mblk w' p7 = some (.cells #[.int .i64 l, .int .i64 h] 23 (0, 0))) (by kernel_rfl) ⟨U0.drew, by rw [blk_drew]; exact k2, by rw [blk_drew]; exact m5, by rw [blk_drew]; exact m7⟩ (fun hHeld => ?_)
  clear U0 k2 m5 m7
  refine takeH (i := 0) (d := (some 23)) (v := ?v1) rfl rfl (by kernel_rfl) (by kernel_rfl) (by kernel_rfl) (fun _ _ _ h => h) (by rfl) ?hy1 (by assumption) ?_
  case hy1 => ((intro w hSw; (try dsimp only at hSw); (try go_split_ands); go_simp); try with_reducible rfl)
  simp only [Act.put, List.setIfInBounds_toArray, List.set_cons_zero, List.set_cons_succ]
  refine takeH (i := 1) (d := (some 24)) (v := ?v2) rfl rfl (by kernel_rfl) (by kernel_rfl) (by kernel_rfl) (fun _ _ _ h => h) (by rfl) ?hy2 (by assumption) ?_
  case hy2 => ((intro w hSw; (try dsimp only at hSw); (try go_split_ands); go_simp); try with_reducible rfl)
  simp only [Act.put, List.setIfInBounds_toArray, List.set_cons_zero, List.set_cons_succ]
  refine takeH (i := 2) (d := (some 25)) (v := ?v3) rfl rfl (by kernel_rfl) (by kernel_rfl) (by kernel_rfl) (fun _ _ _ h => h) (by rfl) ?hy3 (by assumption) ?_
  case hy3 => ((intro w hSw; (try dsimp only at hSw); (try go_split_ands); go_simp); try with_reducible rfl)
  simp only [Act.put, List.setIfInBounds_toArray, List.set_cons_zero, List.set_cons_succ]
  refine takeH (i := 3) (d := (some 26)) (v := ?v4) rfl rfl (by kernel_rfl) (by kernel_rfl) (by kernel_rfl) (fun _ _ _ h => h) (by rfl) ?hy4 (by assumption) ?_
  case hy4 => ((intro w hSw; (try dsimp only at hSw); (try go_split_ands); go_simp); try with_reducible rfl)
  simp only [Act.put, List.setIfInBounds_toArray, List.set_cons_zero, List.set_cons_succ]
  refine takeH (i := 4) (d := (some 27)) (v := ?v5) rfl rfl (by kernel_rfl) (by kernel_rfl) (by kernel_rfl) (fun _ _ _ h => h) (by rfl) ?hy5 (by assumption) ?_
  case hy5 => ((intro w hSw; (try dsimp only at hSw); (try go_split_ands); go_simp); try with_reducible rfl)
  simp only [Act.put, List.setIfInBounds_toArray, List.set_cons_zero, List.set_cons_succ]
  refine takeH (i := 5) (d := (some 28)) (v := ?v6) rfl rfl (by kernel_rfl) (by kernel_rfl) (by kernel_rfl) (fun _ _ _ h => h) (by rfl) ?hy6 (by assumption) ?_
  case hy6 => ((intro w hSw; (try dsimp only at hSw); (try go_split_ands); go_simp); try with_reducible rfl)
  simp only [Act.put, List.setIfInBounds_toArray, List.set_cons_zero, List.set_cons_succ]
  refine takeH (i := 6) (d := (some 29)) (v := ?v7) rfl rfl (by kernel_rfl) (by kernel_rfl) (by kernel_rfl) (fun _ _ _ h => h) (by rfl) ?hy7 (by assumption) ?_
  case hy7 => ((intro w hSw; (try dsimp only at hSw); (try go_split_ands); go_simp); try with_reducible rfl)
  simp only [Act.put, List.setIfInBounds_toArray, List.set_cons_zero, List.set_cons_succ]
  refine takeH (i := 7) (d := (some 30)) (v := ?v8) rfl rfl (by kernel_rfl) (by kernel_rfl) (by kernel_rfl) (fun _ _ _ h => h) (by rfl) ?hy8 (by assumption) ?_
  case hy8 => ((intro w hSw; (try dsimp only at hSw); (try go_split_ands); go_simp); try with_reducible rfl)
  simp only [Act.put, List.setIfInBounds_toArray, List.set_cons_zero, List.set_cons_succ]
  refine takeH (i := 8) (d := (some 31)) (v := ?v9) rfl rfl (by kernel_rfl) (by kernel_rfl) (by kernel_rfl) (fun _ _ _ h => h) (by rfl) ?hy9 (by assumption) ?_
  case hy9 => ((intro w hSw; (try dsimp only at hSw); (try go_split_ands); go_simp); try with_reducible rfl)
  simp only [Act.put, List.setIfInBounds_toArray, List.set_cons_zero, List.set_cons_succ]
  refine takeH (i := 9) (d := (some 32)) (v := ?v10) rfl rfl (by kernel_rfl) (by kernel_rfl) (by kernel_rfl) (fun _ _ _ h => h) (by rfl) ?hy10 (by assumption) ?_
  case hy10 => ((intro w hSw; (try dsimp only at hSw); (try go_split_ands); go_simp); try with_reducible rfl)
  simp only [Act.put, List.setIfInBounds_toArray, List.set_cons_zero, List.set_cons_succ]
  refine takeH (i := 11) (d := (some 34)) (v := ?v11) rfl rfl (by kernel_rfl) (by kernel_rfl) (by kernel_rfl) (fun _ _ _ h => h) (by rfl) ?hy11 (by assumption) ?_
  case hy11 => ((intro w hSw; (try dsimp only at hSw); (try go_split_ands); go_simp); try with_reducible rfl)
  simp only [Act.put, List.setIfInBounds_toArray, List.set_cons_zero, List.set_cons_succ]
  refine wpAnyH_ready (rs := [10]) (by kernel_rfl) (by simp) ?_
  refine AllReadyH.cons rfl (fun K hK => ?_) AllReadyH.nil
  go_simp
  refine (HCa.out _ hHeld.1).mono ?_
  rintro e w3 ⟨rfl, u3⟩
  go_wp2_with fail
  refine hK.out _ _ ⟨hHeld.1.trans u3, u3.blk hHeld.2.1, u3.blk hHeld.2.2.1, u3.blk hHeld.2.2.2⟩ (fun hHeld => ?_)
  clear hK K u3
  refine wpAnyH_ready (rs := [12]) (by kernel_rfl) (by simp) ?_
  refine AllReadyH.cons rfl (fun K hK => ?_) AllReadyH.nil
  go_simp
  refine (HCb.out _ hHeld.1).mono ?_
  rintro e w3 ⟨rfl, u3⟩
  go_wp2_with fail
  refine hK.out _ _ ⟨hHeld.1.trans u3, u3.blk hHeld.2.1, u3.blk hHeld.2.2.1, u3.blk hHeld.2.2.2⟩ (fun hHeld => ?_)
  clear hK K u3
  refine takeH (i := 13) (d := (some 36)) (v := ?v14) rfl rfl (by kernel_rfl) (by kernel_rfl) (by kernel_rfl) (fun _ _ _ h => h) (by rfl) ?hy14 (by assumption) ?_
  case hy14 => ((intro w hSw; (try dsimp only at hSw); (try go_split_ands); go_simp); try with_reducible rfl)
  simp only [Act.put, List.setIfInBounds_toArray, List.set_cons_zero, List.set_cons_succ]
  refine takeH (i := 14) (d := (some 37)) (v := ?v15) rfl rfl (by kernel_rfl) (by kernel_rfl) (by kernel_rfl) (fun _ _ _ h => h) (by rfl) ?hy15 (by assumption) ?_
  case hy15 => ((intro w hSw; (try dsimp only at hSw); (try go_split_ands); go_simp); try with_reducible rfl)
  simp only [Act.put, List.setIfInBounds_toArray, List.set_cons_zero, List.set_cons_succ]
  refine wpAnyH_done (by kernel_rfl) ?_ _
  clear HCa HCb
  obtain ⟨U0, k2, _, _⟩ := hHeld
  go_wp2_with fail
  refine (HS1.out _ U0).mono ?_
  rintro e w4 ⟨l1, h1, r1, rfl, T1, u4⟩
  replace k2 := u4.blk k2
  replace U0 := U0.trans u4
  clear u4 HS1
  go_wp2_with fail
  refine (HS2.out _ U0).mono ?_
  rintro e w5 ⟨l2, h2, r2, rfl, T2, u5⟩
  obtain ⟨rfl, rfl, rfl⟩ := T1.uniq T2
  replace U0 := U0.trans u5
  clear u5 HS2 T1 T2 k2
  generalize S.far l1 h1 = fr
  go_wp2_with fail
  refine (HW.out _).mono ?_
  rintro x w7 ⟨rfl, u7⟩
  go_wp2
  go_ret
  exact ⟨rfl, U0.trans u7⟩
end

end Go.Proofs.Ytcadpdbadgejfaa
