import Derived.Test.YtcadpdbadgejfaaRfo
/- The contracts of the reference's Error, Stated and Worst. -/
namespace Go.Proofs.Ytcadpdbadgejfaa
open Go.RowKit

section
variable {f s j dl dh ticks : Int} {a a' : Option Addr} {n c n' c' : Nat} {xs : List Int} {ls : List (Int × Int × Int)}
theorem r_errors_bk {w : World} (h : S.bookOk f s j dl dh ticks xs ls = true) (I : Ints w (.slice a n c) xs) (I' : Lks w (.slice a' n' c') ls) : Calls Try.prog 76 #[BV f s j dl dh ticks (.slice a n c) (.slice a' n' c')] w fun e w' => Up w w' ∧ ((∃ g cap cur o, e = .returned (.tuple #[.slice (some ⟨g, 0, none⟩) (ticks.toNat + 1) cap, .bool true]) ∧ mblk w' g = some (.cells cur 23 (0, 0)) ∧ ticks.toNat + 1 ≤ cap ∧ S.Arr2 cur o (ticks.toNat + 1) ∧ ∀ t, t ≤ ticks.toNat → (S.bk dl dh ticks xs ls).Ends t (o t).1 (o t).2) ∨ (e = .returned (.tuple #[.slice none 0 0, .bool false]) ∧ ∀ v, ¬ (S.bk dl dh ticks xs ls).Tru v)) := by
  have g := S.bk_good h
  have lh : dl ≤ dh := by
    obtain ⟨_, _, _, d1, d2, d3⟩ := S.ok_iff.1 (S.bookOk_iff.1 h).1
    omega
  have K := r_errors_any (f := f) (s := s) (j := j) g lh (w := w) (a := a) (n := n) (c := c) (a' := a') (n' := n') (c' := c') I I'
  have e : ((S.bk dl dh ticks xs ls).ticks : Int) = ticks := by
    have := (S.bookOk_iff.1 h).2.1
    show (ticks.toNat : Int) = ticks
    omega
  rw [e] at K
  exact K
set_option maxRecDepth 100000 in
theorem r_Error_no {w : World} (I : Ints w (.slice a n c) xs) (I' : Lks w (.slice a' n' c') ls) (tick : Int) (h : S.bookOk f s j dl dh ticks xs ls = false) : Calls Try.prog 28 #[BV f s j dl dh ticks (.slice a n c) (.slice a' n' c'), .int .i64 tick] w fun e w' => e = .returned (.tuple #[SpV 0 0, .int .i64 40]) ∧ Up w w' := by
  have U0 := ((Up.refl w).alloc (.cells (BC f s j dl dh ticks (.slice a n c) (.slice a' n' c')) 44)).alloc (.cells #[.int .i64 0, .int .i64 0] 23)
  have k4 := blk_new (w.alloc (.cells (BC f s j dl dh ticks (.slice a n c) (.slice a' n' c')) 44)) (.cells #[.int .i64 0, .int .i64 0] 23) (w.heap.size + 1) (by simp)
  have k2 := blk_keep (.cells #[.int .i64 0, .int .i64 0] 23) (blk_new w (.cells (BC f s j dl dh ticks (.slice a n c) (.slice a' n' c')) 44) _ rfl)
  have HN := Lib.hid (r_Check_any (f := f) (s := s) (j := j) (dl := dl) (dh := dh) (ticks := ticks) (I.up U0) (I'.up U0))
  rw [h, if_neg (by decide)] at HN
  clear I I' h
  go_enter Try.func28, Try.ntmps28
  go_wp2_with fail
  refine HN.out.mono ?_
  rintro e w1 ⟨rfl, u1⟩
  have m4 := u1.blk k4
  have V2 := U0.trans u1
  clear u1 k4 k2 U0 HN
  have z4 := frozB m4
  have UE := (V2.set (p := ⟨w.heap.size + 1, 0, none⟩) (show w.heap.size ≤ w.heap.size + 1 by omega) (.int .i64 0)).set (p := ⟨w.heap.size + 1, 1, none⟩) (show w.heap.size ≤ w.heap.size + 1 by omega) (.int .i64 0)
  have C := Lib.hid (cellB (blk_put (blk_put m4 0 (.int .i64 0)) 1 (.int .i64 0)))
  clear V2
  go_wp2_with fail
  have cc := C.out
  exact bodyPost_ret (v := .tuple #[SpV 0 0, .int .i64 40]) (by simp [results, Try.results28, go_sem, cc]) rfl ⟨rfl, UE⟩
set_option maxRecDepth 100000 in
theorem r_Error_ask {w : World} (I : Ints w (.slice a n c) xs) (I' : Lks w (.slice a' n' c') ls) (tick : Int) (h : S.bookOk f s j dl dh ticks xs ls = true) (ht : ¬ (0 ≤ tick ∧ tick ≤ ticks)) : Calls Try.prog 28 #[BV f s j dl dh ticks (.slice a n c) (.slice a' n' c'), .int .i64 tick] w fun e w' => e = .returned (.tuple #[SpV 0 0, .int .i64 41]) ∧ Up w w' := by
  have U0 := ((Up.refl w).alloc (.cells (BC f s j dl dh ticks (.slice a n c) (.slice a' n' c')) 44)).alloc (.cells #[.int .i64 0, .int .i64 0] 23)
  have k4 := blk_new (w.alloc (.cells (BC f s j dl dh ticks (.slice a n c) (.slice a' n' c')) 44)) (.cells #[.int .i64 0, .int .i64 0] 23) (w.heap.size + 1) (by simp)
  have k2 := blk_keep (.cells #[.int .i64 0, .int .i64 0] 23) (blk_new w (.cells (BC f s j dl dh ticks (.slice a n c) (.slice a' n' c')) 44) _ rfl)
  have HN := Lib.hid (r_Check_any (f := f) (s := s) (j := j) (dl := dl) (dh := dh) (ticks := ticks) (I.up U0) (I'.up U0))
  rw [h, if_pos rfl] at HN
  have HT := Lib.hid (fun w => show Calls Try.prog 42 #[.int .i64 tick, .int .i64 0, .int .i64 ticks] w fun e w' => e = .returned (.bool false) ∧ w = w' by rw [← inB_no ht]; exact B_Lies_any _ _ _ w)
  clear I I' h ht
  go_enter Try.func28, Try.ntmps28
  go_wp2_with fail
  refine HN.out.mono ?_
  rintro e w1 ⟨rfl, u1⟩
  have m4 := u1.blk k4
  replace k2 := u1.blk k2
  have V2 := U0.trans u1
  clear u1 k4 U0 HN
  go_wp2_with fail
  refine (HT.out _).mono ?_
  rintro e w3 ⟨rfl, rfl⟩
  clear k2 HT
  have z4 := frozB m4
  have UE := (V2.set (p := ⟨w.heap.size + 1, 0, none⟩) (show w.heap.size ≤ w.heap.size + 1 by omega) (.int .i64 0)).set (p := ⟨w.heap.size + 1, 1, none⟩) (show w.heap.size ≤ w.heap.size + 1 by omega) (.int .i64 0)
  have C := Lib.hid (cellB (blk_put (blk_put m4 0 (.int .i64 0)) 1 (.int .i64 0)))
  clear V2
  go_wp2_with fail
  have cc := C.out
  exact bodyPost_ret (v := .tuple #[SpV 0 0, .int .i64 41]) (by simp [results, Try.results28, go_sem, cc]) rfl ⟨rfl, UE⟩
set_option maxRecDepth 100000 in
set_option maxHeartbeats 1000000 in
theorem r_Error_yes {w : World} (I : Ints w (.slice a n c) xs) (I' : Lks w (.slice a' n' c') ls) (tick : Int) (h : S.bookOk f s j dl dh ticks xs ls = true) (ht : 0 ≤ tick ∧ tick ≤ ticks) : Calls Try.prog 28 #[BV f s j dl dh ticks (.slice a n c) (.slice a' n' c'), .int .i64 tick] w fun e w' => Up w w' ∧ ((∃ l h, e = .returned (.tuple #[SpV l h, .int .i64 0]) ∧ (S.bk dl dh ticks xs ls).Ends tick.toNat l h) ∨ (e = .returned (.tuple #[SpV 0 0, .int .i64 42]) ∧ ∀ v, ¬ (S.bk dl dh ticks xs ls).Tru v)) := by
  have U0 := ((Up.refl w).alloc (.cells (BC f s j dl dh ticks (.slice a n c) (.slice a' n' c')) 44)).alloc (.cells #[.int .i64 0, .int .i64 0] 23)
  have k4 := blk_new (w.alloc (.cells (BC f s j dl dh ticks (.slice a n c) (.slice a' n' c')) 44)) (.cells #[.int .i64 0, .int .i64 0] 23) (w.heap.size + 1) (by simp)
  have k2 := blk_keep (.cells #[.int .i64 0, .int .i64 0] 23) (blk_new w (.cells (BC f s j dl dh ticks (.slice a n c) (.slice a' n' c')) 44) _ rfl)
  have HN := Lib.hid (r_Check_any (f := f) (s := s) (j := j) (dl := dl) (dh := dh) (ticks := ticks) (I.up U0) (I'.up U0))
  rw [h, if_pos rfl] at HN
  have HT := Lib.hid (fun w => show Calls Try.prog 42 #[.int .i64 tick, .int .i64 0, .int .i64 ticks] w fun e w' => e = .returned (.bool true) ∧ w = w' by rw [← inB_yes ht.1 ht.2]; exact B_Lies_any _ _ _ w)
  have HF := Lib.hid (fun w' (u : Up w w') => r_errors_bk h (I.up u) (I'.up u))
  have tk60 := (S.bookOk_iff.1 h).2.1
  clear I I' h
  go_enter Try.func28, Try.ntmps28
  go_wp2_with fail
  refine HN.out.mono ?_
  rintro e w1 ⟨rfl, u1⟩
  have m4 := u1.blk k4
  replace k2 := u1.blk k2
  have V2 := U0.trans u1
  clear u1 k4 U0 HN
  go_wp2_with fail
  refine (HT.out _).mono ?_
  rintro e w3 ⟨rfl, rfl⟩
  clear HT
  go_wp2_with fail
  refine (HF.out _ V2).mono ?_
  rintro e w4 ⟨u4, ⟨g, cap, cur, o, rfl, hgb, hcap, hAr, hEn⟩ | ⟨rfl, hno⟩⟩
  · replace m4 := u4.blk m4
    replace V2 := V2.trans u4
    obtain ⟨k, rfl⟩ : ∃ k : Nat, tick = k := ⟨tick.toNat, by omega⟩
    have hk : k < ticks.toNat + 1 := by omega
    have HEn := Lib.hid (hEn k (by omega))
    have c0 := cellB hgb (k * 2)
    have c1 := cellB hgb (k * 2 + 1)
    rw [(hAr k hk).1] at c0
    rw [(hAr k hk).2] at c1
    obtain ⟨l, hl⟩ : ∃ l, (o k).1 = l := ⟨_, rfl⟩
    obtain ⟨h, hh⟩ : ∃ h, (o k).2 = h := ⟨_, rfl⟩
    rw [hl] at c0 HEn
    rw [hh] at c1 HEn
    obtain ⟨tn, htn⟩ : ∃ tn, ticks.toNat + 1 = tn := ⟨_, rfl⟩
    rw [htn] at hk hcap
    rw [htn]
    have hk' : (k : Int) < (tn : Int) := by omega
    clear u4 hEn hAr hgb hl hh HF k2 htn
    have z4 := frozB m4
    have UE := (V2.set (p := ⟨w.heap.size + 1, 0, none⟩) (show w.heap.size ≤ w.heap.size + 1 by omega) (.int .i64 l)).set (p := ⟨w.heap.size + 1, 1, none⟩) (show w.heap.size ≤ w.heap.size + 1 by omega) (.int .i64 h)
    have C := Lib.hid (cellB (blk_put (blk_put m4 0 (.int .i64 l)) 1 (.int .i64 h)))
    clear V2
    go_wp2_with fail
    have cc := C.out
    exact bodyPost_ret (v := .tuple #[SpV l h, .int .i64 0]) (by simp [results, Try.results28, go_sem, cc]) rfl ⟨UE, .inl ⟨l, h, rfl, by rw [Int.toNat_natCast]; exact HEn.out⟩⟩
  · replace m4 := u4.blk m4
    replace V2 := V2.trans u4
    have HNo := Lib.hid hno
    clear u4 hno HF k2
    have z4 := frozB m4
    have UE := (V2.set (p := ⟨w.heap.size + 1, 0, none⟩) (show w.heap.size ≤ w.heap.size + 1 by omega) (.int .i64 0)).set (p := ⟨w.heap.size + 1, 1, none⟩) (show w.heap.size ≤ w.heap.size + 1 by omega) (.int .i64 0)
    have C := Lib.hid (cellB (blk_put (blk_put m4 0 (.int .i64 0)) 1 (.int .i64 0)))
    clear V2
    go_wp2_with fail
    have cc := C.out
    exact bodyPost_ret (v := .tuple #[SpV 0 0, .int .i64 42]) (by simp [results, Try.results28, go_sem, cc]) rfl ⟨UE, .inr ⟨rfl, HNo.out⟩⟩
theorem r_Error_any {w : World} (I : Ints w (.slice a n c) xs) (I' : Lks w (.slice a' n' c') ls) (tick : Int) : Calls Try.prog 28 #[BV f s j dl dh ticks (.slice a n c) (.slice a' n' c'), .int .i64 tick] w fun e w' => ∃ l h r, e = .returned (.tuple #[SpV l h, .int .i64 r]) ∧ S.Told f s j dl dh ticks xs ls tick l h r ∧ Up w w' := by
  cases hb : S.bookOk f s j dl dh ticks xs ls
  · exact (r_Error_no I I' tick hb).mono fun e w' ⟨he, hu⟩ => ⟨0, 0, 40, he, ⟨fun _ => ⟨rfl, rfl, rfl⟩, fun h => (by rw [hb] at h; cases h), fun h => (by rw [hb] at h; cases h)⟩, hu⟩
  · by_cases ht : 0 ≤ tick ∧ tick ≤ ticks
    · refine (r_Error_yes I I' tick hb ht).mono ?_
      rintro e w' ⟨hu, ⟨l, h, he, hE⟩ | ⟨he, hn⟩⟩
      · exact ⟨l, h, 0, he, ⟨fun h => (by rw [hb] at h; cases h), fun _ h => absurd ht h, fun _ _ => .inr ⟨rfl, hE⟩⟩, hu⟩
      · exact ⟨0, 0, 42, he, ⟨fun h => (by rw [hb] at h; cases h), fun _ h => absurd ht h, fun _ _ => .inl ⟨rfl, rfl, rfl, hn⟩⟩, hu⟩
    · exact (r_Error_ask I I' tick hb ht).mono fun e w' ⟨he, hu⟩ => ⟨0, 0, 41, he, ⟨fun h => (by rw [hb] at h; cases h), fun _ _ => ⟨rfl, rfl, rfl⟩, fun _ h => absurd h ht⟩, hu⟩
theorem S.far_max {l h : Int} (hlh : l ≤ h) : max (max l (-l)) (max h (-h)) = S.far l h := by
  unfold S.far
  omega
set_option maxRecDepth 100000 in
set_option maxHeartbeats 2000000 in
theorem r_Stated_any {w : World} (I : Ints w (.slice a n c) xs) (I' : Lks w (.slice a' n' c') ls) (tick : Int) : Calls Try.prog 32 #[BV f s j dl dh ticks (.slice a n c) (.slice a' n' c'), .int .i64 tick] w fun e w' => ∃ l h r, e = .returned (.tuple #[.int .i64 (S.far l h), .int .i64 r]) ∧ S.Told f s j dl dh ticks xs ls tick l h r ∧ Up w w' := by
  have U0 := (Up.refl w).alloc (.cells (BC f s j dl dh ticks (.slice a n c) (.slice a' n' c')) 44)
  have HE := Lib.hid (r_Error_any (f := f) (s := s) (j := j) (dl := dl) (dh := dh) (ticks := ticks) (I.up U0) (I'.up U0) tick)
  clear I I'
  go_enter Try.func32, Try.ntmps32
  go_wp2_with fail
  refine HE.out.mono ?_
  rintro e w1 ⟨l, h, r, rfl, hT, u1⟩
  have V := (U0.trans u1).alloc (.cells #[.int .i64 l, .int .i64 h] 23)
  have k6 := blk_new w1 (.cells #[.int .i64 l, .int .i64 h] 23) _ rfl
  obtain ⟨b1, b2, b3⟩ := hT.fine
  have H1 := Lib.hid (fun w => B_Size_any l w (by omega) (by omega))
  have H2 := Lib.hid (fun w => B_Size_any h w (by omega) (by omega))
  have hMx := max_run (S.far_max b2)
  have HT := Lib.hid hT
  generalize max l (-l) = q1 at *
  generalize max h (-h) = q2 at *
  clear u1 U0 HE hT b1 b2 b3
  obtain ⟨p, hp⟩ : ∃ p, w1.heap.size = p := ⟨_, rfl⟩
  obtain ⟨W2, hW2⟩ : ∃ W, w1.alloc (.cells #[.int .i64 l, .int .i64 h] 23) = W := ⟨_, rfl⟩
  rw [hp] at k6
  rw [hW2] at k6 V
  go_wp2_with fail
  try rw [hW2]
  try rw [hp]
  clear hW2 hp
  refine wp_region_held_drew (S := fun w' => Up w w' ∧ mblk w' p = some (.cells #[.int .i64 l, .int .i64 h] 23 (0, 0))) (by kernel_rfl) ⟨V.drew, by rw [blk_drew]; exact k6⟩ (fun hHeld => ?_)
  clear V k6
  refine takeH (i := 0) (d := (some 14)) (v := ?v1) rfl rfl (by kernel_rfl) (by kernel_rfl) (by kernel_rfl) (fun _ _ _ h => h) (by rfl) ?hy1 (by assumption) ?_
  case hy1 => ((intro w hSw; (try dsimp only at hSw); (try go_split_ands); go_simp); try with_reducible rfl)
  simp only [Act.put, List.setIfInBounds_toArray, List.set_cons_zero, List.set_cons_succ]
  refine takeH (i := 3) (d := (some 17)) (v := ?v2) rfl rfl (by kernel_rfl) (by kernel_rfl) (by kernel_rfl) (fun _ _ _ h => h) (by rfl) ?hy2 (by assumption) ?_
  case hy2 => ((intro w hSw; (try dsimp only at hSw); (try go_split_ands); go_simp); try with_reducible rfl)
  simp only [Act.put, List.setIfInBounds_toArray, List.set_cons_zero, List.set_cons_succ]
  refine takeH (i := 7) (d := (some 21)) (v := ?v3) rfl rfl (by kernel_rfl) (by kernel_rfl) (by kernel_rfl) (fun _ _ _ h => h) (by rfl) ?hy3 (by assumption) ?_
  case hy3 => ((intro w hSw; (try dsimp only at hSw); (try go_split_ands); go_simp); try with_reducible rfl)
  simp only [Act.put, List.setIfInBounds_toArray, List.set_cons_zero, List.set_cons_succ]
  refine takeH (i := 1) (d := (some 15)) (v := ?v4) rfl rfl (by kernel_rfl) (by kernel_rfl) (by kernel_rfl) (fun _ _ _ h => h) (by rfl) ?hy4 (by assumption) ?_
  case hy4 => ((intro w hSw; (try dsimp only at hSw); (try go_split_ands); go_simp); try with_reducible rfl)
  simp only [Act.put, List.setIfInBounds_toArray, List.set_cons_zero, List.set_cons_succ]
  refine takeH (i := 4) (d := (some 18)) (v := ?v5) rfl rfl (by kernel_rfl) (by kernel_rfl) (by kernel_rfl) (fun _ _ _ h => h) (by rfl) ?hy5 (by assumption) ?_
  case hy5 => ((intro w hSw; (try dsimp only at hSw); (try go_split_ands); go_simp); try with_reducible rfl)
  simp only [Act.put, List.setIfInBounds_toArray, List.set_cons_zero, List.set_cons_succ]
  refine wpAnyH_ready (rs := [2]) (by kernel_rfl) (by simp) ?_
  refine AllReadyH.cons rfl (fun K hK => ?_) AllReadyH.nil
  go_simp
  refine (H1.out _).mono ?_
  rintro e w3 ⟨rfl, rfl⟩
  go_wp2_with fail
  refine hK.out _ _ hHeld (fun hHeld => ?_)
  clear hK K H1
  refine wpAnyH_ready (rs := [5]) (by kernel_rfl) (by simp) ?_
  refine AllReadyH.cons rfl (fun K hK => ?_) AllReadyH.nil
  go_simp
  refine (H2.out _).mono ?_
  rintro e w3 ⟨rfl, rfl⟩
  go_wp2_with fail
  refine hK.out _ _ hHeld (fun hHeld => ?_)
  clear hK K H2
  refine takeH (i := 6) (d := (some 20)) (v := ?v8) rfl rfl (by kernel_rfl) (by kernel_rfl) (by kernel_rfl) (fun _ _ _ h => h) (by rfl) ?hy8 (by assumption) ?_
  case hy8 => ((intro w hSw; (try dsimp only at hSw); (try go_split_ands); go_simp); try with_reducible rfl)
  simp only [Act.put, List.setIfInBounds_toArray, List.set_cons_zero, List.set_cons_succ]
  refine takeH (i := 8) (d := (some 4)) (v := ?v9) rfl rfl (by kernel_rfl) (by kernel_rfl) (by kernel_rfl) (fun _ _ _ h => h) (by rfl) ?hy9 (by assumption) ?_
  case hy9 => ((intro w hSw; (try dsimp only at hSw); (try go_split_ands); go_simp); try with_reducible rfl)
  simp only [Act.put, List.setIfInBounds_toArray, List.set_cons_zero, List.set_cons_succ]
  refine takeH (i := 9) (d := (some 5)) (v := ?v10) rfl rfl (by kernel_rfl) (by kernel_rfl) (by kernel_rfl) (fun _ _ _ h => h) (by rfl) ?hy10 (by assumption) ?_
  case hy10 => ((intro w hSw; (try dsimp only at hSw); (try go_split_ands); go_simp); try with_reducible rfl)
  simp only [Act.put, List.setIfInBounds_toArray, List.set_cons_zero, List.set_cons_succ]
  refine wpAnyH_done (by kernel_rfl) ?_ _
  go_wp2
  go_ret2
  exact ⟨l, h, r, rfl, HT.out, hHeld.1⟩
theorem S.wst_one {F : Nat → Int} (h : 0 ≤ F 0) : S.wst F 1 = (0, F 0) := by
  show (if F 0 > 0 then ((0 : Int), F 0) else ((0 : Int), (0 : Int))) = _
  split
  · rfl
  · rw [show F 0 = 0 by omega]
theorem S.wst_ext {F G : Nat → Int} {n : Nat} (h : ∀ t, t < n → F t = G t) : S.wst F n = S.wst G n := by
  induction n with
  | zero => rfl
  | succ n ih =>
    show (if F n > (S.wst F n).2 then ((n : Int), F n) else S.wst F n) = (if G n > (S.wst G n).2 then ((n : Int), G n) else S.wst G n)
    rw [ih (fun t ht => h t (by omega)), h n (by omega)]
theorem S.far_pos (l h : Int) : 0 ≤ S.far l h := by unfold S.far; omega
/-- what the specification keeps of the first ticks -/
def S.wsr (F : Nat → Int) : Nat → Int × Int
  | 0 => (0, -1)
  | k + 1 => S.wst F (k + 1)
theorem S.wsr_step {F : Nat → Int} (h : ∀ t, 0 ≤ F t) (k : Nat) : S.wsr F (k + 1) = if F k > (S.wsr F k).2 then ((k : Int), F k) else S.wsr F k := by
  cases k with
  | zero =>
    have := h 0
    show S.wst F 1 = if F 0 > (-1 : Int) then ((0 : Int), F 0) else _
    rw [if_pos (by omega), S.wst_one this]
  | succ k => rfl
theorem S.wsr_ext {F G : Nat → Int} {n : Nat} (h : ∀ t, t < n → F t = G t) : S.wsr F n = S.wsr G n := by
  cases n with
  | zero => rfl
  | succ n => exact S.wst_ext h
set_option maxRecDepth 100000 in
set_option maxHeartbeats 2000000 in
theorem r_Worst_any {w : World} (I : Ints w (.slice a n c) xs) (I' : Lks w (.slice a' n' c') ls) : Calls Try.prog 34 #[BV f s j dl dh ticks (.slice a n c) (.slice a' n' c')] w fun e w' => ∃ tk of r, e = .returned (.tuple #[.int .i64 tk, .int .i64 of, .int .i64 r]) ∧ S.ToldW f s j dl dh ticks xs ls tk of r ∧ Up w w' := by
  have U0 := (Up.refl w).alloc (.cells (BC f s j dl dh ticks (.slice a n c) (.slice a' n' c')) 44)
  have k1 := blk_new w (.cells (BC f s j dl dh ticks (.slice a n c) (.slice a' n' c')) 44) _ rfl
  have HS := Lib.hid (fun w' (u : Up w w') t => r_Stated_any (f := f) (s := s) (j := j) (dl := dl) (dh := dh) (ticks := ticks) (I.up u) (I'.up u) t)
  have HBk := Lib.hid (fun k => show S.bookOk f s j dl dh ticks xs ls = k → k = true → 1 ≤ ticks ∧ ticks ≤ 60 from fun h h2 => by subst h2; exact (S.bookOk_iff.1 h).2.1)
  clear I I'
  go_enter Try.func34, Try.ntmps34
  go_wp2_with fail
  go_loopw [5, 6, 7] (fun tk of i wr => ∃ (k : Nat) (o : S.Ofs) (p : Int × Int), i = .int .i64 k ∧ tk = .int .i64 p.1 ∧ of = .int .i64 p.2 ∧ (0 < k → S.bookOk f s j dl dh ticks xs ls = true ∧ (k : Int) ≤ ticks + 1) ∧ Hid (p = S.wsr (fun i => S.far (o i).1 (o i).2) k) ∧ Hid (∀ t, t < k → (S.bk dl dh ticks xs ls).Ends t (o t).1 (o t).2) ∧ Up w wr ∧ mblk wr w.heap.size = some (.cells (BC f s j dl dh ticks (.slice a n c) (.slice a' n' c')) 44 (0, 0))) (fun _ _ i _ => (ticks + 2).toNat - (intOf i).toNat)
  case atStart => exact ⟨0, S.ofs0, (0, -1), rfl, rfl, rfl, fun h => absurd h (Nat.lt_irrefl 0), rfl, fun t h => absurd h (Nat.not_lt_zero t), U0, k1⟩
  case round =>
    clear U0 k1
    obtain ⟨k, o, p, rfl, rfl, rfl, hk, hP, hE, U0, k1⟩ := hrel
    obtain ⟨tk0, of0⟩ := p
    simp only at *
    have HSk := Lib.hid (HS.out _ U0 k)
    by_cases hend : k = 0 ∨ (k : Int) ≤ ticks
    · have HKy := Lib.hid (fun l h r (hT : S.Told f s j dl dh ticks xs ls k l h r) => show (r ≠ 0 ∧ S.ToldW f s j dl dh ticks xs ls 0 0 r) ∨ (r = 0 ∧ S.bookOk f s j dl dh ticks xs ls = true ∧ ((k : Int) ≤ ticks ∧ ticks ≤ 60) ∧ (S.bk dl dh ticks xs ls).Ends k l h) by
        cases hb : S.bookOk f s j dl dh ticks xs ls
        · obtain ⟨_, _, h3⟩ := hT.no hb
          subst h3
          exact .inl ⟨by decide, ⟨fun _ => ⟨rfl, rfl, rfl⟩, fun h => (by rw [hb] at h; cases h)⟩⟩
        · have htk := HBk.out _ hb rfl
          have hkt : (k : Int) ≤ ticks := by omega
          rcases hT.yes hb ⟨by omega, hkt⟩ with ⟨_, _, h3, h4⟩ | ⟨h3, h4⟩
          · subst h3
            exact .inl ⟨by decide, ⟨fun h => (by rw [hb] at h; cases h), fun _ => .inl ⟨rfl, rfl, rfl, h4⟩⟩⟩
          · rw [Int.toNat_natCast] at h4
            exact .inr ⟨h3, rfl, ⟨hkt, htk.2⟩, h4⟩)
      have HNx := Lib.hid (fun l h (hEn : (S.bk dl dh ticks xs ls).Ends k l h) => show ((if S.far l h > of0 then ((k : Int), S.far l h) else (tk0, of0)) = S.wsr (fun i => S.far (S.put o k (l, h) i).1 (S.put o k (l, h) i).2) (k + 1)) ∧ (∀ t, t < k + 1 → (S.bk dl dh ticks xs ls).Ends t (S.put o k (l, h) t).1 (S.put o k (l, h) t).2) by
        constructor
        · rw [S.wsr_step (fun t => S.far_pos _ _)]
          have e : S.wsr (fun i => S.far (S.put o k (l, h) i).1 (S.put o k (l, h) i).2) k = (tk0, of0) := by
            rw [hP.out]
            exact S.wsr_ext fun t ht => by show S.far (S.put o k (l, h) t).1 (S.put o k (l, h) t).2 = _; rw [S.put_ne _ _ (by omega)]
          rw [e]
          show _ = if S.far (S.put o k (l, h) k).1 (S.put o k (l, h) k).2 > of0 then _ else _
          rw [S.put_self]
        · intro t ht
          by_cases e : t = k
          · subst e; rw [S.put_self]; exact hEn
          · rw [S.put_ne _ _ e]; exact hE.out t (by omega))
      clear hP hE HBk
      by_cases k0 : k = 0
      · subst k0
        clear hk hend
        go_wp2_with fail
        refine HSk.out.mono ?_
        rintro e w1 ⟨l, h, r, rfl, hT, u1⟩
        replace U0 := U0.trans u1
        replace k1 := u1.blk k1
        clear u1 HSk
        rcases HKy.out l h r hT with ⟨r0, hW⟩ | ⟨rfl, hb, ⟨hkt, hk60⟩, hEn⟩
        · have hrb : (r != 0) = true := by simp [r0]
          have HW := Lib.hid hW
          clear hW HKy HNx hT
          go_wp2
          exact bodyPost_ret (v := .tuple #[.int .i64 0, .int .i64 0, .int .i64 r]) (by simp [results, Try.results34, go_sem]) rfl ⟨0, 0, r, rfl, HW.out, U0⟩
        · have hN := HNx.out l h hEn
          have HB := Lib.hid hb
          obtain ⟨fl, hfl⟩ : ∃ x, S.far l h = x := ⟨_, rfl⟩
          rw [hfl] at hN ⊢
          by_cases hgt : fl > of0
          · rw [if_pos hgt] at hN
            have HN := Lib.hid hN
            clear HKy HNx hT hEn hfl hN hb
            go_wp2_with fail
            go_roundw
            case rel => exact ⟨0 + 1, S.put o 0 (l, h), (((0 : Nat) : Int), fl), by go_num, rfl, rfl, fun _ => ⟨HB.out, by omega⟩, HN.out.1, HN.out.2, U0, k1⟩
            case measure => simp [intOf]; omega
          · rw [if_neg hgt] at hN
            have HN := Lib.hid hN
            clear HKy HNx hT hEn hfl hN hb
            go_wp2_with fail
            go_roundw
            case rel => exact ⟨0 + 1, S.put o 0 (l, h), (tk0, of0), by go_num, rfl, rfl, fun _ => ⟨HB.out, by omega⟩, HN.out.1, HN.out.2, U0, k1⟩
            case measure => simp [intOf]; omega
      · have hkt2 : (k : Int) ≤ ticks := by omega
        have k0' : ¬ (k : Int) = 0 := by omega
        clear hk hend
        go_wp2_with fail
        refine HSk.out.mono ?_
        rintro e w1 ⟨l, h, r, rfl, hT, u1⟩
        replace U0 := U0.trans u1
        replace k1 := u1.blk k1
        clear u1 HSk
        rcases HKy.out l h r hT with ⟨r0, hW⟩ | ⟨rfl, hb, ⟨hkt, hk60⟩, hEn⟩
        · have hrb : (r != 0) = true := by simp [r0]
          have HW := Lib.hid hW
          clear hW HKy HNx hT
          go_wp2
          exact bodyPost_ret (v := .tuple #[.int .i64 0, .int .i64 0, .int .i64 r]) (by simp [results, Try.results34, go_sem]) rfl ⟨0, 0, r, rfl, HW.out, U0⟩
        · have hN := HNx.out l h hEn
          have HB := Lib.hid hb
          obtain ⟨fl, hfl⟩ : ∃ x, S.far l h = x := ⟨_, rfl⟩
          rw [hfl] at hN ⊢
          by_cases hgt : fl > of0
          · rw [if_pos hgt] at hN
            have HN := Lib.hid hN
            clear HKy HNx hT hEn hfl hN hb
            go_wp2_with fail
            go_roundw
            case rel => exact ⟨k + 1, S.put o k (l, h), ((k : Int), fl), by go_num, rfl, rfl, fun _ => ⟨HB.out, by omega⟩, HN.out.1, HN.out.2, U0, k1⟩
            case measure => simp [intOf]; omega
          · rw [if_neg hgt] at hN
            have HN := Lib.hid hN
            clear HKy HNx hT hEn hfl hN hb
            go_wp2_with fail
            go_roundw
            case rel => exact ⟨k + 1, S.put o k (l, h), (tk0, of0), by go_num, rfl, rfl, fun _ => ⟨HB.out, by omega⟩, HN.out.1, HN.out.2, U0, k1⟩
            case measure => simp [intOf]; omega
    · have k0 : ¬ k = 0 := fun h => hend (.inl h)
      obtain ⟨hb, hk2⟩ := hk (by omega)
      have hk3 : ¬ (k : Int) ≤ ticks := fun h => hend (.inr h)
      have hk0' : ((k : Int) == 0) = false := by simpa using k0
      have hk0'' : ¬ (k : Int) = 0 := by omega
      have htk := HBk.out _ hb rfl
      have hkt : k = ticks.toNat + 1 := by omega
      have HV := Lib.hid (show S.ToldW f s j dl dh ticks xs ls tk0 of0 0 from ⟨fun h => (by rw [hb] at h; cases h), fun _ => .inr ⟨rfl, o, fun t ht => hE t (by omega), by
        have e : (tk0, of0) = S.wst (fun i => S.far (o i).1 (o i).2) (ticks.toNat + 1) := by
          have := hP.out
          rw [hkt] at this
          exact this
        exact ⟨congrArg Prod.fst e, congrArg Prod.snd e⟩⟩⟩)
      clear hP hE hb hk2 hkt htk hk hend
      go_wp2
      exact bodyPost_ret (v := .tuple #[.int .i64 tk0, .int .i64 of0, .int .i64 0]) (by simp [results, Try.results34, go_sem]) rfl ⟨tk0, of0, 0, rfl, HV.out, U0⟩
end

end Go.Proofs.Ytcadpdbadgejfaa
