import Derived.Test.YtcadpdbadgejfaaLwG
/- The contracts of what laws and the specification share: Lies, Valid, Rest, Has, Within, Both, From, Size, At, Total; and of isRule. -/
namespace Go.Proofs.Ytcadpdbadgejfaa
open Go.RowKit

theorem B_Lies_any (n l h : Int) (w : World) : Calls Try.prog 42 #[.int .i64 n, .int .i64 l, .int .i64 h] w fun e w' => e = .returned (.bool (inB n l h)) ∧ w = w' := by
  by_cases h1 : l ≤ n
  · by_cases h2 : n ≤ h
    · go_enter Try.func42, Try.ntmps42
      go_wp2
      go_ret
      exact ⟨by rw [inB_yes h1 h2]; rfl, rfl⟩
    · go_enter Try.func42, Try.ntmps42
      go_wp2
      go_ret
      exact ⟨by rw [inB_no (by omega)]; rfl, rfl⟩
  · go_enter Try.func42, Try.ntmps42
    go_wp2
    go_ret
    exact ⟨by rw [inB_no (by omega)]; rfl, rfl⟩
set_option maxRecDepth 100000 in
theorem B_Valid_any (l h a b : Int) (w : World) : Calls Try.prog 77 #[SpV l h, .int .i64 a, .int .i64 b] w fun e w' => e = .returned (.bool (decide (l ≤ h ∧ a ≤ l ∧ h ≤ b))) ∧ Up w w' := by
  have U := (Up.refl w).alloc (.cells #[.int .i64 l, .int .i64 h] 23)
  by_cases h1 : l ≤ h
  · by_cases h2 : a ≤ l
    · by_cases h3 : h ≤ b
      · rw [decide_eq_true (⟨h1, h2, h3⟩ : l ≤ h ∧ a ≤ l ∧ h ≤ b)]
        go_enter Try.func77, Try.ntmps77
        go_wp2
        go_ret
        exact ⟨rfl, U⟩
      · rw [decide_eq_false (fun q : l ≤ h ∧ a ≤ l ∧ h ≤ b => h3 q.2.2)]
        go_enter Try.func77, Try.ntmps77
        go_wp2
        go_ret
        exact ⟨rfl, U⟩
    · rw [decide_eq_false (fun q : l ≤ h ∧ a ≤ l ∧ h ≤ b => h2 q.2.1)]
      go_enter Try.func77, Try.ntmps77
      go_wp2
      go_ret
      exact ⟨rfl, U⟩
  · rw [decide_eq_false (fun q : l ≤ h ∧ a ≤ l ∧ h ≤ b => h1 q.1)]
    go_enter Try.func77, Try.ntmps77
    go_wp2
    go_ret
    exact ⟨rfl, U⟩
theorem B_Rest_any (n k : Int) (w : World) (hk : 1 ≤ k) (hk2 : k ≤ 9223372036854775807) : Calls Try.prog 38 #[.int .i64 n, .int .i64 k] w fun e w' => e = .returned (.int .i64 (n % k)) ∧ w = w' := by
  have hi : n.tmod k < k := Int.tmod_lt_of_pos n (by omega)
  have lo : -k < n.tmod k := by
    have a := Int.tmod_lt_of_pos (-n) (b := k) (by omega)
    rw [Int.neg_tmod] at a
    omega
  by_cases h : n.tmod k < 0
  · have H := Lib.hid (tmod_neg n k hk h)
    go_enter Try.func38, Try.ntmps38
    go_wp2
    go_ret
    exact ⟨ret_int H.out, rfl⟩
  · have H := Lib.hid (tmod_pos n k hk (by omega))
    go_enter Try.func38, Try.ntmps38
    go_wp2
    go_ret
    exact ⟨ret_int H.out, rfl⟩
set_option maxRecDepth 100000 in
theorem B_Has_any (l h n : Int) (w : World) : Calls Try.prog 43 #[SpV l h, .int .i64 n] w fun e w' => e = .returned (.bool (inB n l h)) ∧ Up w w' := by
  have U := (Up.refl w).alloc (.cells #[.int .i64 l, .int .i64 h] 23)
  have HL := Lib.hid (fun w => B_Lies_any n l h w)
  generalize inB n l h = q at *
  go_enter Try.func43, Try.ntmps43
  go_wp2_with fail
  refine (HL.out _).mono ?_
  rintro e w1 ⟨rfl, rfl⟩
  go_wp2
  go_ret
  exact ⟨rfl, U⟩
set_option maxRecDepth 100000 in
theorem B_Within_any (l h l' h' : Int) (w : World) : Calls Try.prog 45 #[SpV l h, SpV l' h'] w fun e w' => e = .returned (.bool (decide (l' ≤ l ∧ h ≤ h'))) ∧ Up w w' := by
  have U := ((Up.refl w).alloc (.cells #[.int .i64 l, .int .i64 h] 23)).alloc (.cells #[.int .i64 l', .int .i64 h'] 23)
  by_cases h1 : l' ≤ l
  · by_cases h2 : h ≤ h'
    · rw [decide_eq_true (⟨h1, h2⟩ : l' ≤ l ∧ h ≤ h')]
      go_enter Try.func45, Try.ntmps45
      go_wp2
      go_ret
      exact ⟨rfl, U⟩
    · rw [decide_eq_false (fun q : l' ≤ l ∧ h ≤ h' => h2 q.2)]
      go_enter Try.func45, Try.ntmps45
      go_wp2
      go_ret
      exact ⟨rfl, U⟩
  · rw [decide_eq_false (fun q : l' ≤ l ∧ h ≤ h' => h1 q.1)]
    go_enter Try.func45, Try.ntmps45
    go_wp2
    go_ret
    exact ⟨rfl, U⟩
set_option maxRecDepth 100000 in
theorem B_Both_any (l h l' h' : Int) (w : World) : Calls Try.prog 48 #[SpV l h, SpV l' h'] w fun e w' => e = .returned (SpV (max l l') (min h h')) ∧ Up w w' := by
  have U := (((Up.refl w).alloc (.cells #[.int .i64 l, .int .i64 h] 23)).alloc (.cells #[.int .i64 l', .int .i64 h'] 23)).alloc (.cells #[.int .i64 0, .int .i64 0] 23)
  have k4 := blk_new ((w.alloc (.cells #[.int .i64 l, .int .i64 h] 23)).alloc (.cells #[.int .i64 l', .int .i64 h'] 23)) (.cells #[.int .i64 0, .int .i64 0] 23) (w.heap.size + 1 + 1) (by simp)
  have hMn : ∀ (ts : Array TypeId) (t' : TypeId) (w : World), (Builtin.min_ ts t' #[.int .i64 h, .int .i64 h']).run Try.prog w = .ok (.int .i64 (min h h')) w := fun ts t' w => by
    have e : (if h' < h then h' else h) = min h h' := by split <;> omega
    rw [run_min_int2, e]
  have hMx : ∀ (ts : Array TypeId) (t' : TypeId) (w : World), (Builtin.max_ ts t' #[.int .i64 l, .int .i64 l']).run Try.prog w = .ok (.int .i64 (max l l')) w := fun ts t' w => by
    have e : (if l' > l then l' else l) = max l l' := by split <;> omega
    rw [run_max_int2, e]
  have HT := Lib.hid (fun w => B_To_any (max l l') (min h h') w)
  generalize max l l' = a at *
  generalize min h h' = b at *
  go_enter Try.func48, Try.ntmps48
  go_wp2_with fail
  refine (HT.out _).mono ?_
  rintro e w1 ⟨rfl, u1⟩
  have m4 := u1.blk k4
  have z4 := frozB m4
  have V := U.trans u1
  have UE := (V.set (p := ⟨w.heap.size + 1 + 1, 0, none⟩) (show w.heap.size ≤ w.heap.size + 1 + 1 by omega) (.int .i64 a)).set (p := ⟨w.heap.size + 1 + 1, 1, none⟩) (show w.heap.size ≤ w.heap.size + 1 + 1 by omega) (.int .i64 b)
  have C := Lib.hid (cellB (blk_put (blk_put m4 0 (.int .i64 a)) 1 (.int .i64 b)))
  clear V u1 U k4
  go_wp2_with fail
  have cc := C.out
  exact bodyPost_ret (v := SpV a b) (by simp [results, Try.results48, go_sem, cc]) rfl ⟨rfl, UE⟩
/-- a number of a span that any number chooses -/
def S.frm (l h n : Int) : Int := if h ≤ l then l else l + n % (h - l + 1)
theorem S.frm_in {l h : Int} (hlh : l ≤ h) (n : Int) : l ≤ S.frm l h n ∧ S.frm l h n ≤ h := by
  unfold S.frm
  split
  · omega
  · have a := Int.emod_nonneg n (b := h - l + 1) (by omega)
    have b := Int.emod_lt_of_pos n (b := h - l + 1) (by omega)
    omega
theorem S.frm_low {l h : Int} (hlh : h ≤ l) (n : Int) : S.frm l h n = l := by unfold S.frm; rw [if_pos hlh]
set_option maxRecDepth 100000 in
theorem B_From_any (l h n : Int) (w : World) (l1 : -1000000000000 ≤ l) (l2 : l ≤ 1000000000000) (h1 : -1000000000000 ≤ h) (h2 : h ≤ 1000000000000) : Calls Try.prog 47 #[SpV l h, .int .i64 n] w fun e w' => e = .returned (.int .i64 (S.frm l h n)) ∧ Up w w' := by
  have U := (Up.refl w).alloc (.cells #[.int .i64 l, .int .i64 h] 23)
  have k0 := blk_new w (.cells #[.int .i64 l, .int .i64 h] 23) _ rfl
  by_cases hle : h ≤ l
  · rw [S.frm_low hle]
    go_enter Try.func47, Try.ntmps47
    go_wp2
    go_ret
    exact ⟨rfl, U⟩
  · have hf : S.frm l h n = l + n % (h - l + 1) := if_neg hle
    have e1 : IntKind.i64.wrap (h - l) = h - l := IntWalk.i64_in _ (by omega)
    have e2 : IntKind.i64.wrap (h - l + 1) = h - l + 1 := IntWalk.i64_in _ (by omega)
    obtain ⟨k, hk⟩ : ∃ k, h - l + 1 = k := ⟨_, rfl⟩
    have k1 : 1 ≤ k := by omega
    have k2 : k ≤ 4000000000000 := by omega
    rw [hk] at e2 hf
    have HR := Lib.hid (fun w => B_Rest_any n k w k1 (by omega))
    have r1 := Int.emod_nonneg n (b := k) (by omega)
    have r2 := Int.emod_lt_of_pos n (b := k) (by omega)
    have HV := Lib.hid hf
    have e3 : IntKind.i64.wrap (l + n % k) = l + n % k := IntWalk.i64_in _ (by omega)
    generalize n % k = r at *
    clear hf
    go_enter Try.func47, Try.ntmps47
    go_wp2_with fail
    refine wp_region_held_drew (S := fun w' => Up w w' ∧ mblk w' w.heap.size = some (.cells #[.int .i64 l, .int .i64 h] 23 (0, 0))) (by kernel_rfl) ⟨U.drew, by rw [blk_drew]; exact k0⟩ (fun hHeld => ?_)
    refine takeH (i := 0) (d := (some 28)) (v := ?v1) rfl rfl (by kernel_rfl) (by kernel_rfl) (by kernel_rfl) (fun _ _ _ h => h) (by rfl) ?hy1 (by assumption) ?_
    case hy1 => ((intro w hSw; (try dsimp only at hSw); (try go_split_ands); go_simp); try with_reducible rfl)
    simp only [Act.put, List.setIfInBounds_toArray, List.set_cons_zero, List.set_cons_succ]
    refine takeH (i := 1) (d := (some 29)) (v := ?v2) rfl rfl (by kernel_rfl) (by kernel_rfl) (by kernel_rfl) (fun _ _ _ h => h) (by rfl) ?hy2 (by assumption) ?_
    case hy2 => ((intro w hSw; (try dsimp only at hSw); (try go_split_ands); go_simp); try with_reducible rfl)
    simp only [Act.put, List.setIfInBounds_toArray, List.set_cons_zero, List.set_cons_succ]
    refine takeH (i := 2) (d := (some 30)) (v := ?v3) rfl rfl (by kernel_rfl) (by kernel_rfl) (by kernel_rfl) (fun _ _ _ h => h) (by rfl) ?hy3 (by assumption) ?_
    case hy3 => ((intro w hSw; (try dsimp only at hSw); (try go_split_ands); go_simp); try with_reducible rfl)
    simp only [Act.put, List.setIfInBounds_toArray, List.set_cons_zero, List.set_cons_succ]
    refine takeH (i := 3) (d := (some 31)) (v := ?v4) rfl rfl (by kernel_rfl) (by kernel_rfl) (by kernel_rfl) (fun _ _ _ h => h) (by rfl) ?hy4 (by assumption) ?_
    case hy4 => ((intro w hSw; (try dsimp only at hSw); (try go_split_ands); go_simp); try with_reducible rfl)
    simp only [Act.put, List.setIfInBounds_toArray, List.set_cons_zero, List.set_cons_succ]
    refine wpAnyH_ready (rs := [4]) (by kernel_rfl) (by simp) ?_
    refine AllReadyH.cons rfl (fun K hK => ?_) AllReadyH.nil
    go_simp
    refine (HR.out _).mono ?_
    rintro e w1 ⟨rfl, rfl⟩
    go_wp2_with fail
    refine hK.out _ _ hHeld (fun hHeld => ?_)
    clear hK K
    refine takeH (i := 5) (d := (some 33)) (v := ?v6) rfl rfl (by kernel_rfl) (by kernel_rfl) (by kernel_rfl) (fun _ _ _ h => h) (by rfl) ?hy6 (by assumption) ?_
    case hy6 => ((intro w hSw; (try dsimp only at hSw); (try go_split_ands); go_simp); try with_reducible rfl)
    simp only [Act.put, List.setIfInBounds_toArray, List.set_cons_zero, List.set_cons_succ]
    refine takeH (i := 6) (d := (some 4)) (v := ?v7) rfl rfl (by kernel_rfl) (by kernel_rfl) (by kernel_rfl) (fun _ _ _ h => h) (by rfl) ?hy7 (by assumption) ?_
    case hy7 => ((intro w hSw; (try dsimp only at hSw); (try go_split_ands); go_simp); try with_reducible rfl)
    simp only [Act.put, List.setIfInBounds_toArray, List.set_cons_zero, List.set_cons_succ]
    refine wpAnyH_done (by kernel_rfl) ?_ _
    go_wp2
    go_ret
    exact ⟨by rw [HV.out, ← e3]; rfl, hHeld.1⟩
theorem B_Size_any (n : Int) (w : World) (hn : -9223372036854775808 < n) (hn2 : n ≤ 9223372036854775807) : Calls Try.prog 46 #[.int .i64 n] w fun e w' => e = .returned (.int .i64 (max n (-n))) ∧ w = w' := by
  have e : IntKind.i64.wrap (-n) = -n := IntWalk.i64_in _ (by omega)
  by_cases h : n < 0
  · rw [show max n (-n) = -n by omega]
    go_enter Try.func46, Try.ntmps46
    go_wp2
    go_ret
    exact ⟨rfl, rfl⟩
  · rw [show max n (-n) = n by omega]
    go_enter Try.func46, Try.ntmps46
    go_wp2
    go_ret
    exact ⟨rfl, rfl⟩
/-- the element of a list that any number chooses -/
def S.at (xs : List Int) (n : Int) : Int := if xs.length = 0 then 0 else xs.getD (n % (xs.length : Int)).toNat 0
theorem B_At_any {v : Value} {xs : List Int} {w : World} (I : Ints w v xs) (n : Int) : Calls Try.prog 40 #[v, .int .i64 n] w fun e w' => e = .returned (.int .i64 (S.at xs n)) ∧ w = w' := by
  obtain ⟨a, c, rfl, _, hl, hm⟩ := I.is
  by_cases h0 : xs.length = 0
  · have e : S.at xs n = 0 := if_pos h0
    rw [e, h0]
    clear hm
    go_enter Try.func40, Try.ntmps40
    go_wp2
    go_ret
    exact ⟨rfl, rfl⟩
  · have e : S.at xs n = xs.getD (n % (xs.length : Int)).toNat 0 := if_neg h0
    have r1 := Int.emod_nonneg n (b := (xs.length : Int)) (by omega)
    have r2 := Int.emod_lt_of_pos n (b := (xs.length : Int)) (by omega)
    obtain ⟨g, off, rfl, gl, hc⟩ := hm (by omega)
    have HR := Lib.hid (fun w => B_Rest_any n (xs.length : Int) w (by omega) (by omega))
    obtain ⟨k, hk⟩ : ∃ k : Nat, (n % (xs.length : Int)).toNat = k := ⟨_, rfl⟩
    have hk2 : n % (xs.length : Int) = (k : Int) := by omega
    rw [hk] at e
    rw [hk2] at r1 r2 HR
    have cx := hc k (by omega)
    rw [e]
    have h0' : ¬ ((xs.length : Int) = 0) := by omega
    have hb : ((xs.length : Int) == 0) = false := beq_eq_false_iff_ne.2 h0'
    clear hc hm e hk hk2
    go_enter Try.func40, Try.ntmps40
    go_wp2_with fail
    refine (HR.out _).mono ?_
    rintro e w1 ⟨rfl, rfl⟩
    go_wp2
    go_ret
    exact ⟨rfl, rfl⟩
theorem S.at_in {xs : List Int} (P : Int → Prop) (h0 : P 0) (h : ∀ j, j < xs.length → P (xs.getD j 0)) (n : Int) : P (S.at xs n) := by
  unfold S.at
  split
  · exact h0
  · have r1 := Int.emod_nonneg n (b := (xs.length : Int)) (by omega)
    have r2 := Int.emod_lt_of_pos n (b := (xs.length : Int)) (by omega)
    exact h _ (by omega)
set_option maxRecDepth 100000 in
theorem B_Total_any {v : Value} {zs : List Int} {w : World} (I : Ints w v zs) : Calls Try.prog 41 #[v] w fun e w' => e = .returned (.int .i64 (wrap64 zs.sum)) ∧ w = w' := by
  obtain ⟨a, c, rfl, _, hl, hm⟩ := I.is
  have HM := Lib.hid hm
  clear hm I
  go_enter Try.func41, Try.ntmps41
  go_wp2_with fail
  go_loopw [3, 7] (fun t i wr => ∃ k : Nat, k ≤ zs.length ∧ i = .int .i64 k ∧ t = .int .i64 (wrap64 (zs.take k).sum) ∧ w = wr) (fun _ i _ => zs.length - (intOf i).toNat)
  case atStart => exact ⟨0, Nat.zero_le _, rfl, by simp [wrap64], rfl⟩
  case round =>
    obtain ⟨k, hk, rfl, rfl, rfl⟩ := hrel
    by_cases hlt : k < zs.length
    · obtain ⟨g, off, rfl, _, hc⟩ := HM.out (by omega)
      have hcell := hc k hlt
      have hts := Lib.hid (S.tot_take zs k hlt)
      generalize zs.getD k 0 = z at *
      generalize hT : (zs.take k).sum = T at *
      have HT := Lib.hid hT
      clear hT hc
      go_wp2
      go_roundw
      case rel => exact ⟨k + 1, by omega, by go_num, by rw [hts.out, wrap_add], trivial⟩
      case measure => simp [intOf]; omega
    · go_wp2
      go_ret
      exact ⟨ret_int (by rw [List.take_of_length_le (by omega)]), rfl⟩
set_option maxRecDepth 100000 in
set_option maxHeartbeats 1000000 in
theorem l_isRule_any (f s j dl dh : Int) (w : World) : Calls Try.prog 37 #[RV f s j dl dh] w fun e w' => e = .returned (.bool (S.ok f s j dl dh)) ∧ Up w w' := by
  have U := (Up.refl w).alloc (.cells #[.int .i64 f, .int .i64 s, .int .i64 j, .int .i64 dl, .int .i64 dh] 25)
  have k0 := blk_new w (.cells #[.int .i64 f, .int .i64 s, .int .i64 j, .int .i64 dl, .int .i64 dh] 25) _ rfl
  cases hr : S.ok f s j dl dh with
  | false =>
    have HR := Lib.hid (fun w => Reach_no (dl := dl) (dh := dh) w hr 0)
    clear hr
    go_enter Try.func37, Try.ntmps37
    go_wp2_with fail
    refine (HR.out _).mono ?_
    rintro e w1 ⟨rfl, u1⟩
    have V := (U.trans u1).alloc (.cells #[.int .i64 0, .int .i64 0] 23)
    go_wp2
    go_ret
    exact ⟨rfl, V⟩
  | true =>
    have HR := Lib.hid (fun w => Reach_yes w hr 0 (by omega))
    obtain ⟨⟨f1, f2⟩, ⟨s1, s2⟩, ⟨j1, j2⟩, d1, d2, d3⟩ := S.ok_iff.1 hr
    have H1 := Lib.hid (fun w => show Calls Try.prog 42 #[.int .i64 f, .int .i64 0, .int .i64 500] w fun e w' => e = .returned (.bool true) ∧ w = w' by rw [← inB_yes f1 f2]; exact B_Lies_any _ _ _ w)
    have H2 := Lib.hid (fun w => show Calls Try.prog 42 #[.int .i64 s, .int .i64 0, .int .i64 500] w fun e w' => e = .returned (.bool true) ∧ w = w' by rw [← inB_yes s1 s2]; exact B_Lies_any _ _ _ w)
    have H3 := Lib.hid (fun w => show Calls Try.prog 42 #[.int .i64 j, .int .i64 1, .int .i64 500] w fun e w' => e = .returned (.bool true) ∧ w = w' by rw [← inB_yes j1 j2]; exact B_Lies_any _ _ _ w)
    have H4 := Lib.hid (fun w => show Calls Try.prog 77 #[SpV dl dh, .int .i64 (-100), .int .i64 100] w fun e w' => e = .returned (.bool true) ∧ Up w w' by rw [← decide_eq_true (⟨d2, d1, d3⟩ : dl ≤ dh ∧ -100 ≤ dl ∧ dh ≤ 100)]; exact B_Valid_any _ _ _ _ w)
    obtain ⟨ra, hra⟩ : ∃ x, -(S.most s j 0) = x := ⟨_, rfl⟩
    obtain ⟨rb, hrb⟩ : ∃ x, S.most f j 0 = x := ⟨_, rfl⟩
    rw [hra, hrb] at HR
    clear hr d1 d2 d3 f1 f2 s1 s2 j1 j2 hra hrb
    go_enter Try.func37, Try.ntmps37
    go_wp2_with fail
    refine (HR.out _).mono ?_
    rintro e w1 ⟨rfl, u1⟩
    have V := (U.trans u1).alloc (.cells #[.int .i64 ra, .int .i64 rb] 23)
    have k1 := blk_keep (.cells #[.int .i64 ra, .int .i64 rb] 23) (u1.blk k0)
    have lt := blk_lt (u1.blk k0)
    clear u1 U k0 HR
    go_wp2_with fail
    refine (H1.out _).mono ?_
    rintro e w2 ⟨rfl, rfl⟩
    go_wp2_with fail
    refine (H2.out _).mono ?_
    rintro e w2 ⟨rfl, rfl⟩
    go_wp2_with fail
    refine (H3.out _).mono ?_
    rintro e w2 ⟨rfl, rfl⟩
    go_wp2_with fail
    refine (H4.out _).mono ?_
    rintro e w2 ⟨rfl, u2⟩
    go_wp2
    go_ret
    exact ⟨rfl, V.trans u2⟩

end Go.Proofs.Ytcadpdbadgejfaa

/- Rules that are wider, or turned round: what can be reached, and the fewest ticks. -/
namespace Go.Proofs.Ytcadpdbadgejfaa
open Go.RowKit

theorem S.most_le {e e' j j' : Int} (he : e ≤ e') (hj : j ≤ j') (n : Nat) : S.most e j n ≤ S.most e' j' n :=
  S.sm_le n fun _ _ => S.can_e he hj _
theorem S.part_le {f f' s s' : Int} (hf : f ≤ f') (hs : s ≤ s') (p : Int) : S.part f s p ≤ S.part f' s' p := by
  unfold S.part
  split
  · exact hs
  · split
    · exact hf
    · exact Int.le_refl _
theorem S.First.le {P Q : Nat → Bool} {n r r' : Nat} (h : S.First P n r) (h' : S.First Q n r') (hPQ : ∀ x, P x = true → Q x = true) : r' ≤ r := by
  obtain ⟨a, b, c⟩ := h
  obtain ⟨a', b', c'⟩ := h'
  by_cases e : r' ≤ r
  · exact e
  · have h1 := hPQ r (c (by omega))
    rw [b' r (by omega)] at h1
    cases h1
theorem S.Few.wider {f f' s s' j j' off : Int} {r r' : Nat} (hf : f ≤ f') (hs : s ≤ s') (hj : j ≤ j') (h : S.Few f s j off r) (h' : S.Few f' s' j' off r') : r' ≤ r :=
  S.First.le h h' fun x hx => by
    have a := of_decide_eq_true hx
    have b := S.most_le (S.part_le hf hs (S.against off)) hj x
    exact decide_eq_true (by omega)
theorem S.Few.flip {f s j off : Int} {r : Nat} (h : S.Few f s j off r) : S.Few s f j (-off) r := by
  unfold S.Few at h ⊢
  have e1 : max (-off) (- -off) = max off (-off) := by omega
  have e2 : S.part s f (S.against (-off)) = S.part f s (S.against off) := by
    by_cases h1 : 0 < off
    · have a1 : S.against off = 0 := if_pos h1
      have a2 : S.against (-off) = 2 := by unfold S.against; rw [if_neg (by omega), if_pos (by omega)]
      rw [a1, a2]; rfl
    · by_cases h2 : off < 0
      · have a1 : S.against off = 2 := by unfold S.against; rw [if_neg h1, if_pos h2]
        have a2 : S.against (-off) = 0 := if_pos (by omega)
        rw [a1, a2]; rfl
      · have a1 : S.against off = 1 := by unfold S.against; rw [if_neg h1, if_neg h2]
        have a2 : S.against (-off) = 1 := by unfold S.against; rw [if_neg (by omega), if_neg (by omega)]
        rw [a1, a2]; rfl
  rw [e1, e2]
  exact h
theorem S.Few.max {f s j off : Int} {r : Nat} (h : S.Few f s j off r) : r ≤ 201 := h.1

theorem cell_int4 {w : World} {b : Nat} {cs : Array Value} (h : mblk w b = some (.cells cs 65 (0, 0))) (j : Nat) : w.cell? ⟨b, j, none⟩ = cs[j]? := cellB h j
attribute [go_sem] cell_int4
theorem min_run {a b c : Int} (h : min a b = c) (ts : Array TypeId) (t' : TypeId) (w : World) : (Builtin.min_ ts t' #[.int .i64 a, .int .i64 b]).run Try.prog w = .ok (.int .i64 c) w := by
  have e : (if b < a then b else a) = c := by split <;> omega
  rw [run_min_int2, e]
theorem max_run {a b c : Int} (h : max a b = c) (ts : Array TypeId) (t' : TypeId) (w : World) : (Builtin.max_ ts t' #[.int .i64 a, .int .i64 b]).run Try.prog w = .ok (.int .i64 c) w := by
  have e : (if b > a then b else a) = c := by split <;> omega
  rw [run_max_int2, e]

end Go.Proofs.Ytcadpdbadgejfaa
