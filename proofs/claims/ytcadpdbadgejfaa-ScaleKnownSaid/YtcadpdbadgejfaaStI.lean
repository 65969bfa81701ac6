import Derived.Test.YtcadpdbadgejfaaBaH
/- The contract of the laws' steered: adjustments as numbers choose them. -/
namespace Go.Proofs.Ytcadpdbadgejfaa
open Go.RowKit

theorem row_up {w w' : World} {base size n : Nat} {e : TypeId} {v : Value} {xs : List Value} (h : w.ownsRow base e size v n xs) (u : Up w w') : w'.ownsRow base e size v n xs :=
  h.kept (up_grown u none) (by
    cases v.ownBlock with
    | none => exact .inl rfl
    | some k => exact .inr (by simp))
theorem row_lt {w : World} {base size n : Nat} {e : TypeId} {v : Value} {xs : List Value} (h : w.ownsRow base e size v n xs) (k : Nat) (hk : v.ownBlock = some k) : k < w.heap.size := by
  obtain ⟨_, ⟨rfl, _⟩ | ⟨g, cap, cur, rfl, hg, hb, _⟩⟩ := h
  · simp [Value.ownBlock] at hk
  · simp [Value.ownBlock] at hk
    subst hk
    exact (Array.getElem?_eq_some_iff.1 hb).1
theorem row_set {w : World} {base size n : Nat} {e : TypeId} {v : Value} {xs : List Value} (h : w.ownsRow base e size v n xs) {p : Nat} (hp : ∀ k, v.ownBlock = some k → k < p) (i : Nat) (u : Value) : (w.setCell ⟨p, i, none⟩ u).ownsRow base e size v n xs :=
  h.kept (row := some p) ⟨rfl, rfl, rfl, by simp [World.setCell], fun b _ hb => Below.heap_setCell _ _ _ _ (fun e => hb (by rw [e]))⟩ (.inr fun e => by have := hp p e; omega)
section
variable (f s j : Int) (T : Nat) (bits : List Int)
/-- the last adjustment, after so many -/
def S.str (sm : Bool) : Nat → Int
  | 0 => 0
  | k + 1 => S.frm (if sm then max (max (-s) (S.str sm k - j)) (-(j * (T - k))) else max (-s) (S.str sm k - j)) (if sm then min (min f (S.str sm k + j)) (j * (T - k)) else min f (S.str sm k + j)) (S.at bits k)
/-- all of them -/
def S.strs (sm : Bool) : List Int := (List.range T).map fun i => S.str f s j T bits sm (i + 1)
end
section
variable {f s j : Int} {T : Nat} {bits : List Int}
theorem S.str_bd (h0 : 0 ≤ f) (h1 : 0 ≤ s) (h2 : 1 ≤ j) (k : Nat) : -s ≤ S.str f s j T bits false k ∧ S.str f s j T bits false k ≤ f := by
  induction k with
  | zero => show -s ≤ 0 ∧ 0 ≤ f; omega
  | succ k ih =>
    have := S.frm_in (l := max (-s) (S.str f s j T bits false k - j)) (h := min f (S.str f s j T bits false k + j)) (by omega) (S.at bits k)
    show -s ≤ S.frm _ _ _ ∧ S.frm _ _ _ ≤ f
    simp only [Bool.false_eq_true, if_false]
    omega
theorem S.str_near (h0 : 0 ≤ f) (h1 : 0 ≤ s) (h2 : 1 ≤ j) (k : Nat) : -j ≤ S.str f s j T bits false (k + 1) - S.str f s j T bits false k ∧ S.str f s j T bits false (k + 1) - S.str f s j T bits false k ≤ j := by
  have b := S.str_bd (T := T) (bits := bits) h0 h1 h2 k
  have := S.frm_in (l := max (-s) (S.str f s j T bits false k - j)) (h := min f (S.str f s j T bits false k + j)) (by omega) (S.at bits k)
  have e : S.str f s j T bits false (k + 1) = S.frm (max (-s) (S.str f s j T bits false k - j)) (min f (S.str f s j T bits false k + j)) (S.at bits k) := by
    show S.frm _ _ _ = _
    simp only [Bool.false_eq_true, if_false]
  rw [e]; omega
theorem S.end_step (j : Int) (T k : Nat) : j * ((T : Int) - k) = j * ((T : Int) - (k + 1 : Nat)) + j := by
  have : (T : Int) - k = ((T : Int) - (k + 1 : Nat)) + 1 := by omega
  rw [this, Int.mul_add, Int.mul_one]
theorem S.end_pos {j : Int} (hj : 0 ≤ j) {T k : Nat} (hk : k ≤ T) : 0 ≤ j * ((T : Int) - k) := Int.mul_nonneg hj (by omega)
/-- what holds of smooth adjustments -/
theorem S.str_sm (h0 : 0 ≤ f) (h1 : 0 ≤ s) (h2 : 1 ≤ j) (k : Nat) (hk : k ≤ T) : (-s ≤ S.str f s j T bits true k ∧ S.str f s j T bits true k ≤ f) ∧ (-(j * ((T : Int) - k) + j) ≤ S.str f s j T bits true k ∧ S.str f s j T bits true k ≤ j * ((T : Int) - k) + j) ∧ (k < T → max (max (-s) (S.str f s j T bits true k - j)) (-(j * ((T : Int) - k))) ≤ min (min f (S.str f s j T bits true k + j)) (j * ((T : Int) - k))) := by
  induction k with
  | zero =>
    have e := S.end_pos (j := j) (by omega) hk
    refine ⟨by show -s ≤ 0 ∧ 0 ≤ f; omega, ?_, fun _ => ?_⟩
    · show -(_ + j) ≤ 0 ∧ 0 ≤ _ + j; omega
    · show max (max (-s) (0 - j)) _ ≤ min (min f (0 + j)) _; omega
  | succ k ih =>
    obtain ⟨a, b, c⟩ := ih (by omega)
    have d := S.frm_in (c (by omega)) (S.at bits k)
    have e : S.str f s j T bits true (k + 1) = S.frm (max (max (-s) (S.str f s j T bits true k - j)) (-(j * ((T : Int) - k)))) (min (min f (S.str f s j T bits true k + j)) (j * ((T : Int) - k))) (S.at bits k) := by
      show S.frm _ _ _ = _
      simp only [if_true]
    rw [← e] at d
    have es := S.end_step j T k
    have ep := S.end_pos (j := j) (by omega) hk
    exact ⟨by omega, by omega, fun _ => by omega⟩
theorem S.str_smnear (h0 : 0 ≤ f) (h1 : 0 ≤ s) (h2 : 1 ≤ j) (k : Nat) (hk : k < T) : -j ≤ S.str f s j T bits true (k + 1) - S.str f s j T bits true k ∧ S.str f s j T bits true (k + 1) - S.str f s j T bits true k ≤ j := by
  obtain ⟨a, b, c⟩ := S.str_sm (T := T) (bits := bits) h0 h1 h2 k (by omega)
  have d := S.frm_in (c hk) (S.at bits k)
  have e : S.str f s j T bits true (k + 1) = S.frm (max (max (-s) (S.str f s j T bits true k - j)) (-(j * ((T : Int) - k)))) (min (min f (S.str f s j T bits true k + j)) (j * ((T : Int) - k))) (S.at bits k) := by
    show S.frm _ _ _ = _
    simp only [if_true]
  rw [e]; omega
theorem S.str_any (h0 : 0 ≤ f) (h1 : 0 ≤ s) (h2 : 1 ≤ j) (sm : Bool) (k : Nat) (hk : k ≤ T) : -s ≤ S.str f s j T bits sm k ∧ S.str f s j T bits sm k ≤ f := by
  cases sm
  · exact S.str_bd h0 h1 h2 k
  · exact (S.str_sm h0 h1 h2 k hk).1
theorem S.strs_len (sm : Bool) : (S.strs f s j T bits sm).length = T := by unfold S.strs; rw [List.length_map, List.length_range]
theorem S.strs_keeps (h0 : 0 ≤ f) (h1 : 0 ≤ s) (h2 : 1 ≤ j) (sm : Bool) : S.keeps f s j 0 (S.strs f s j T bits sm) = true := by
  have key : ∀ n, n ≤ T → S.keeps f s j (S.str f s j T bits sm (T - n)) ((List.range n).map fun i => S.str f s j T bits sm (T - n + i + 1)) = true := by
    intro n
    induction n with
    | zero => intro _; rfl
    | succ n ih =>
      intro hn
      rw [List.range_succ_eq_map, List.map_cons, List.map_map]
      have e := ih (by omega)
      rw [show T - n = T - (n + 1) + 0 + 1 by omega] at e
      have e2 : ((fun i => S.str f s j T bits sm (T - (n + 1) + i + 1)) ∘ Nat.succ) = fun i => S.str f s j T bits sm (T - (n + 1) + 0 + 1 + i + 1) := by
        funext i
        show S.str f s j T bits sm (T - (n + 1) + (i + 1) + 1) = _
        rw [show T - (n + 1) + (i + 1) + 1 = T - (n + 1) + 0 + 1 + i + 1 by omega]
      rw [e2]
      have b := S.str_any (T := T) (bits := bits) h0 h1 h2 sm (T - (n + 1) + 0 + 1) (by omega)
      have c : -j ≤ S.str f s j T bits sm (T - (n + 1) + 0 + 1) - S.str f s j T bits sm (T - (n + 1)) ∧ S.str f s j T bits sm (T - (n + 1) + 0 + 1) - S.str f s j T bits sm (T - (n + 1)) ≤ j := by
        cases sm
        · exact S.str_near h0 h1 h2 _
        · exact S.str_smnear h0 h1 h2 _ (by omega)
      simp only [S.keeps, e, Bool.and_true, Bool.and_eq_true, decide_eq_true_eq]
      exact ⟨⟨b, c.1⟩, c.2⟩
  have := key T (Nat.le_refl _)
  rw [Nat.sub_self] at this
  have e : (fun i => S.str f s j T bits sm (0 + i + 1)) = fun i => S.str f s j T bits sm (i + 1) := by funext i; rw [Nat.zero_add]
  rw [e] at this
  exact this
end

section
variable {f s j dl dh : Int}
set_option maxRecDepth 100000 in
set_option maxHeartbeats 4000000 in
theorem l_steered_false (hr : S.ok f s j dl dh = true) {T : Nat} (hT : T ≤ 200) {bv : Value} {bits : List Int} {w : World} (I : Ints w bv bits) : Calls Try.prog 39 #[RV f s j dl dh, .int .i64 T, bv, .bool false] w fun e w' => ∃ v, e = .returned v ∧ Up w w' ∧ Ints w' v (S.strs f s j T bits false) := by
  obtain ⟨⟨f1, f2⟩, ⟨s1, s2⟩, ⟨j1, j2⟩, _⟩ := S.ok_iff.1 hr
  have U0 := (Up.refl w).alloc (.cells #[.int .i64 f, .int .i64 s, .int .i64 j, .int .i64 dl, .int .i64 dh] 25)
  have k0 := blk_new w (.cells #[.int .i64 f, .int .i64 s, .int .i64 j, .int .i64 dl, .int .i64 dh] 25) _ rfl
  obtain ⟨i0, hi, hz0, hz1, hz2⟩ := info_parts Try.infoInt
  have hU := Try.underlying26
  have HA := Lib.hid (fun w' (u : Up w w') n => B_At_any (I.up u) n)
  have R0 := (World.ownsRow_nil w (w.heap.size + 1) 3 1)
  clear hr I
  go_enter Try.func39, Try.ntmps39
  go_wp2_with fail
  go_loopw [9, 10, 11] (fun l b i wr => ∃ (k : Nat) (x : Int), k ≤ T ∧ i = .int .i64 k ∧ b = .int .i64 x ∧ x = S.str f s j T bits false k ∧ mblk wr w.heap.size = some (.cells #[.int .i64 f, .int .i64 s, .int .i64 j, .int .i64 dl, .int .i64 dh] 25 (0, 0)) ∧ wr.ownsRow (w.heap.size + 1) 3 1 l k (((List.range k).map (fun i => S.str f s j T bits false (i + 1))).map (Value.int .i64)) ∧ Up w wr) (fun _ _ i _ => T - (intOf i).toNat)
  case atStart => exact ⟨0, 0, Nat.zero_le _, rfl, rfl, rfl, k0, by simpa using World.ownsRow_nil _ _ _ _, U0⟩
  case round =>
    clear k0 U0 R0
    obtain ⟨k, x, hk, rfl, rfl, hx, k0, hown, V⟩ := hrel
    have HX := Lib.hid hx
    have hb := S.str_any (T := T) (bits := bits) f1 s1 j1 false k hk
    rw [← hx] at hb
    by_cases hlt : k < T
    · have hlt' : (k : Int) < (T : Int) := by omega
      have lt0 := blk_lt k0
      obtain ⟨lo, hlo⟩ : ∃ y, max (-s) (x - j) = y := ⟨_, rfl⟩
      obtain ⟨hi', hhi⟩ : ∃ y, min f (x + j) = y := ⟨_, rfl⟩
      have hMx := max_run hlo
      have hMn := min_run hhi
      have HT := Lib.hid (fun w => B_To_any lo hi' w)
      have me : j * ((T : Int) - k) ≤ 500 * 200 := Int.mul_le_mul (by omega) (by omega) (by omega) (by omega)
      have mp := S.end_pos (j := j) (by omega) hk
      have wd : IntKind.i64.wrap ((T : Int) - k) = (T : Int) - k := IntWalk.i64_in _ (by omega)
      have wm : IntKind.i64.wrap (j * ((T : Int) - k)) = j * ((T : Int) - k) := IntWalk.i64_in _ (by omega)
      have lob : -1000 ≤ lo ∧ lo ≤ 1000 := by omega
      have hib : -1000 ≤ hi' ∧ hi' ≤ 1000 := by omega
      have HAk := Lib.hid (fun w' (u : Up w w') => HA.out w' u (k : Int))
      have HFr := Lib.hid (fun w => B_From_any lo hi' (S.at bits k) w (by omega) (by omega) (by omega) (by omega))
      have hnext : Hid (S.str f s j T bits false (k + 1) = S.frm lo hi' (S.at bits k)) := by
        show S.frm _ _ _ = _
        simp only [Bool.false_eq_true, if_false]
        rw [← hx, hlo, hhi]
      have HLs := Lib.hid (show ((List.range (k + 1)).map (fun i => S.str f s j T bits false (i + 1))).map (Value.int .i64) = ((List.range k).map (fun i => S.str f s j T bits false (i + 1))).map (Value.int .i64) ++ [.int .i64 (S.frm lo hi' (S.at bits k))] by rw [List.range_succ, List.map_append, List.map_append, List.map_singleton, List.map_singleton, hnext.out])
      have wx1 : IntKind.i64.wrap (x - j) = x - j := IntWalk.i64_in _ (by omega)
      have wx2 : IntKind.i64.wrap (x + j) = x + j := IntWalk.i64_in _ (by omega)
      have wx3 : IntKind.i64.wrap (-s) = -s := IntWalk.i64_in _ (by omega)
      generalize S.frm lo hi' (S.at bits k) = nx at *
      generalize S.at bits k = av at *
      clear hx HX hlo hhi
      go_wp2_with fail
      refine (HT.out _).mono ?_
      rintro e w1 ⟨rfl, u1⟩
      have V1 := (V.trans u1).alloc (.cells #[.int .i64 lo, .int .i64 hi'] 23)
      have m0 := blk_keep (.cells #[.int .i64 lo, .int .i64 hi'] 23) (u1.blk k0)
      have m12 := blk_new w1 (.cells #[.int .i64 lo, .int .i64 hi'] 23) _ rfl
      have hown1 := (row_up hown u1).alloc (.cells #[.int .i64 lo, .int .i64 hi'] 23)
      obtain ⟨p12, hp12⟩ : ∃ p, w1.heap.size = p := ⟨_, rfl⟩
      obtain ⟨W1, hW1⟩ : ∃ W, w1.alloc (.cells #[.int .i64 lo, .int .i64 hi'] 23) = W := ⟨_, rfl⟩
      rw [hW1] at V1 m0 m12 hown1
      rw [hp12] at m12
      have l1 := blk_lt (u1.blk k0)
      have j0 := u1.blk k0
      have zp : w.heap.size < p12 := by have := u1.size; omega
      have HRl : ∀ g, u9.ownBlock = some g → g < p12 := fun g hg => by have := row_lt hown g hg; have := u1.size; omega
      clear u1 V k0 hown
      go_wp2_with fail
      clear hW1 hp12 j0 HT hMx hMn wx1 wx2 wx3
      refine wp_region_held_drew (S := fun w' => Up w w' ∧ mblk w' w.heap.size = some (.cells #[.int .i64 f, .int .i64 s, .int .i64 j, .int .i64 dl, .int .i64 dh] 25 (0, 0)) ∧ mblk w' p12 = some (.cells #[.int .i64 lo, .int .i64 hi'] 23 (0, 0)) ∧ w'.ownsRow (w.heap.size + 1) 3 1 u9 k (((List.range k).map (fun i => S.str f s j T bits false (i + 1))).map (Value.int .i64))) (by kernel_rfl) ⟨V1.drew, by rw [blk_drew]; exact m0, by rw [blk_drew]; exact m12, row_up hown1 (Up.refl _).drew⟩ (fun hHeld => ?_)
      clear V1 m0 m12 hown1
      refine takeH (i := 0) (d := (some 48)) (v := ?v1) rfl rfl (by kernel_rfl) (by kernel_rfl) (by kernel_rfl) (fun _ _ _ h => h) (by rfl) ?hy1 (by assumption) ?_
      case hy1 => ((intro w hSw; (try dsimp only at hSw); (try go_split_ands); go_simp); try with_reducible rfl)
      simp only [Act.put, List.setIfInBounds_toArray, List.set_cons_zero, List.set_cons_succ]
      refine takeH (i := 1) (d := (some 49)) (v := ?v2) rfl rfl (by kernel_rfl) (by kernel_rfl) (by kernel_rfl) (fun _ _ _ h => h) (by rfl) ?hy2 (by assumption) ?_
      case hy2 => ((intro w hSw; (try dsimp only at hSw); (try go_split_ands); go_simp); try with_reducible rfl)
      simp only [Act.put, List.setIfInBounds_toArray, List.set_cons_zero, List.set_cons_succ]
      refine takeH (i := 2) (d := (some 50)) (v := ?v3) rfl rfl (by kernel_rfl) (by kernel_rfl) (by kernel_rfl) (fun _ _ _ h => h) (by rfl) ?hy3 (by assumption) ?_
      case hy3 => ((intro w hSw; (try dsimp only at hSw); (try go_split_ands); go_simp); try with_reducible rfl)
      simp only [Act.put, List.setIfInBounds_toArray, List.set_cons_zero, List.set_cons_succ]
      refine wpAnyH_ready (rs := [3]) (by kernel_rfl) (by simp) ?_
      refine AllReadyH.cons rfl (fun K hK => ?_) AllReadyH.nil
      go_simp
      refine (HAk.out _ hHeld.1).mono ?_
      rintro e w5 ⟨rfl, rfl⟩
      go_wp2_with fail
      refine hK.out _ _ hHeld (fun hHeld => ?_)
      clear hK K HAk
      refine wpAnyH_ready (rs := [4]) (by kernel_rfl) (by simp) ?_
      refine AllReadyH.cons rfl (fun K hK => ?_) AllReadyH.nil
      go_simp
      refine (HFr.out _).mono ?_
      rintro e w5 ⟨rfl, u5⟩
      go_wp2_with fail
      refine hK.out _ _ ⟨hHeld.1.trans u5, u5.blk hHeld.2.1, u5.blk hHeld.2.2.1, row_up hHeld.2.2.2 u5⟩ (fun hHeld => ?_)
      clear hK K u5 HFr
      refine takeH (i := 5) (d := (some 10)) (v := ?v6) rfl rfl (by kernel_rfl) (by kernel_rfl) (by kernel_rfl) (fun _ _ _ h => h) (by rfl) ?hy6 (by assumption) ?_
      case hy6 => ((intro w hSw; (try dsimp only at hSw); (try go_split_ands); go_simp); try with_reducible rfl)
      simp only [Act.put, List.setIfInBounds_toArray, List.set_cons_zero, List.set_cons_succ]
      refine wpAnyH_done (by kernel_rfl) ?_ _
      obtain ⟨V5, m0, _, hown5⟩ := hHeld
      have ls := V5.size
      have l0 := blk_lt m0
      go_wp2_with (at_builtin; refine wpList_append_own _ rfl (.tmp 53) (.tmp 55) 26 rfl (w.heap.size + 1) 3 i0 (.int .i64 0) 1 8 hU hi hz0 hz1 hz2 rfl (by decide) _ k _ rfl (hown5.alloc _) ⟨w5.heap.size, 0, none⟩ 1 1 [.int .i64 nx] rfl rfl (cell_one_new _ _ _) (by simp [Value.oneCell']) (by unfold maxLen; omega) (by omega) (by simp; omega) ?_; intro v' w6 hown6 hgrow6 hv6)
      have x0 := grown_blk hgrow6 (blk_keep _ m0) (row_block hown5 (by omega))
      have U6 : Up w w6 := (V5.alloc _).grown hgrow6 (fun k e => by have := row_base hown5 k e; omega)
      go_roundw
      case rel => exact ⟨k + 1, nx, by omega, by go_num, rfl, by rw [hnext.out], x0, by rw [HLs.out]; exact hown6, U6⟩
      case measure => simp [intOf]; omega
    · have hke : k = T := by omega
      subst hke
      obtain ⟨sa, cap, rfl, hc1, hc2⟩ := row_val hown
      have hI := Lib.hid (ints_of_row hown (by omega))
      unfold maxLen at hc2
      clear hown HX hx
      go_wp2
      go_ret
      exact ⟨_, rfl, V, hI.out⟩
end
section
variable {f s j dl dh : Int}
set_option maxRecDepth 100000 in
set_option maxHeartbeats 4000000 in
theorem l_steered_true (hr : S.ok f s j dl dh = true) {T : Nat} (hT : T ≤ 200) {bv : Value} {bits : List Int} {w : World} (I : Ints w bv bits) : Calls Try.prog 39 #[RV f s j dl dh, .int .i64 T, bv, .bool true] w fun e w' => ∃ v, e = .returned v ∧ Up w w' ∧ Ints w' v (S.strs f s j T bits true) := by
  obtain ⟨⟨f1, f2⟩, ⟨s1, s2⟩, ⟨j1, j2⟩, _⟩ := S.ok_iff.1 hr
  have U0 := (Up.refl w).alloc (.cells #[.int .i64 f, .int .i64 s, .int .i64 j, .int .i64 dl, .int .i64 dh] 25)
  have k0 := blk_new w (.cells #[.int .i64 f, .int .i64 s, .int .i64 j, .int .i64 dl, .int .i64 dh] 25) _ rfl
  obtain ⟨i0, hi, hz0, hz1, hz2⟩ := info_parts Try.infoInt
  have hU := Try.underlying26
  have HA := Lib.hid (fun w' (u : Up w w') n => B_At_any (I.up u) n)
  have R0 := (World.ownsRow_nil w (w.heap.size + 1) 3 1)
  clear hr I
  go_enter Try.func39, Try.ntmps39
  go_wp2_with fail
  go_loopw [9, 10, 11] (fun l b i wr => ∃ (k : Nat) (x : Int), k ≤ T ∧ i = .int .i64 k ∧ b = .int .i64 x ∧ x = S.str f s j T bits true k ∧ mblk wr w.heap.size = some (.cells #[.int .i64 f, .int .i64 s, .int .i64 j, .int .i64 dl, .int .i64 dh] 25 (0, 0)) ∧ wr.ownsRow (w.heap.size + 1) 3 1 l k (((List.range k).map (fun i => S.str f s j T bits true (i + 1))).map (Value.int .i64)) ∧ Up w wr) (fun _ _ i _ => T - (intOf i).toNat)
  case atStart => exact ⟨0, 0, Nat.zero_le _, rfl, rfl, rfl, k0, by simpa using World.ownsRow_nil _ _ _ _, U0⟩
  case round =>
    clear k0 U0 R0
    obtain ⟨k, x, hk, rfl, rfl, hx, k0, hown, V⟩ := hrel
    have HX := Lib.hid hx
    have hb := S.str_any (T := T) (bits := bits) f1 s1 j1 true k hk
    rw [← hx] at hb
    by_cases hlt : k < T
    · have hlt' : (k : Int) < (T : Int) := by omega
      have lt0 := blk_lt k0
      obtain ⟨lo, hlo⟩ : ∃ y, max (-s) (x - j) = y := ⟨_, rfl⟩
      obtain ⟨hi', hhi⟩ : ∃ y, min f (x + j) = y := ⟨_, rfl⟩
      have hMx := max_run hlo
      have hMn := min_run hhi
      have HT := Lib.hid (fun w => B_To_any lo hi' w)
      have me : j * ((T : Int) - k) ≤ 500 * 200 := Int.mul_le_mul (by omega) (by omega) (by omega) (by omega)
      have mp := S.end_pos (j := j) (by omega) hk
      have wd : IntKind.i64.wrap ((T : Int) - k) = (T : Int) - k := IntWalk.i64_in _ (by omega)
      have wm : IntKind.i64.wrap (j * ((T : Int) - k)) = j * ((T : Int) - k) := IntWalk.i64_in _ (by omega)
      have lob : -1000 ≤ lo ∧ lo ≤ 1000 := by omega
      have hib : -1000 ≤ hi' ∧ hi' ≤ 1000 := by omega
      have HAk := Lib.hid (fun w' (u : Up w w') => HA.out w' u (k : Int))
      obtain ⟨en, hen⟩ : ∃ y, j * ((T : Int) - k) = y := ⟨_, rfl⟩
      have wm' : IntKind.i64.wrap (j * ((T : Int) - k)) = en := by rw [wm]; exact hen
      clear wm
      rw [hen] at me mp
      have wne : IntKind.i64.wrap (-en) = -en := IntWalk.i64_in _ (by omega)
      have HT2 := Lib.hid (fun w => B_To_any (-en) en w)
      have HBo := Lib.hid (fun w => B_Both_any lo hi' (-en) en w)
      obtain ⟨l2, hl2⟩ : ∃ y, max lo (-en) = y := ⟨_, rfl⟩
      obtain ⟨h2, hh2⟩ : ∃ y, min hi' en = y := ⟨_, rfl⟩
      rw [hl2, hh2] at HBo
      have HFr := Lib.hid (fun w => B_From_any l2 h2 (S.at bits k) w (by omega) (by omega) (by omega) (by omega))
      have hnext : Hid (S.str f s j T bits true (k + 1) = S.frm l2 h2 (S.at bits k)) := by
        show S.frm _ _ _ = _
        simp only [if_true]
        rw [← hx, hen, hlo, hhi, hl2, hh2]
      have HLs := Lib.hid (show ((List.range (k + 1)).map (fun i => S.str f s j T bits true (i + 1))).map (Value.int .i64) = ((List.range k).map (fun i => S.str f s j T bits true (i + 1))).map (Value.int .i64) ++ [.int .i64 (S.frm l2 h2 (S.at bits k))] by rw [List.range_succ, List.map_append, List.map_append, List.map_singleton, List.map_singleton, hnext.out])
      have wx1 : IntKind.i64.wrap (x - j) = x - j := IntWalk.i64_in _ (by omega)
      have wx2 : IntKind.i64.wrap (x + j) = x + j := IntWalk.i64_in _ (by omega)
      have wx3 : IntKind.i64.wrap (-s) = -s := IntWalk.i64_in _ (by omega)
      generalize S.frm l2 h2 (S.at bits k) = nx at *
      generalize S.at bits k = av at *
      clear hx HX hlo hhi hl2 hh2 hen
      go_wp2_with fail
      refine (HT.out _).mono ?_
      rintro e w1 ⟨rfl, u1⟩
      have V1 := (V.trans u1).alloc (.cells #[.int .i64 lo, .int .i64 hi'] 23)
      have m0 := blk_keep (.cells #[.int .i64 lo, .int .i64 hi'] 23) (u1.blk k0)
      have m12 := blk_new w1 (.cells #[.int .i64 lo, .int .i64 hi'] 23) _ rfl
      have hown1 := (row_up hown u1).alloc (.cells #[.int .i64 lo, .int .i64 hi'] 23)
      obtain ⟨p12, hp12⟩ : ∃ p, w1.heap.size = p := ⟨_, rfl⟩
      obtain ⟨W1, hW1⟩ : ∃ W, w1.alloc (.cells #[.int .i64 lo, .int .i64 hi'] 23) = W := ⟨_, rfl⟩
      rw [hW1] at V1 m0 m12 hown1
      rw [hp12] at m12
      have l1 := blk_lt (u1.blk k0)
      have j0 := u1.blk k0
      have zp : w.heap.size < p12 := by have := u1.size; omega
      have HRl : ∀ g, u9.ownBlock = some g → g < p12 := fun g hg => by have := row_lt hown g hg; have := u1.size; omega
      clear u1 V k0 hown
      go_wp2_with fail
      clear hW1 hp12 j0 HT hMx hMn wx1 wx2 wx3
      have hrl : ∀ g, u9.ownBlock = some g → g < p12 := HRl
      refine (wpIn_wide (n := 5)).1 ?_
      refine wpIn_nrm ?_
      refine regionG (fun w' => Up w w' ∧ mblk w' w.heap.size = some (.cells #[.int .i64 f, .int .i64 s, .int .i64 j, .int .i64 dl, .int .i64 dh] 25 (0, 0)) ∧ mblk w' p12 = some (.cells #[.int .i64 lo, .int .i64 hi'] 23 (0, 0)) ∧ w'.ownsRow (w.heap.size + 1) 3 1 u9 k (((List.range k).map (fun i => S.str f s j T bits true (i + 1))).map (Value.int .i64))) 6 (by kernel_rfl) ⟨V1.drew, by rw [blk_drew]; exact m0, by rw [blk_drew]; exact m12, row_up hown1 (Up.refl _).drew⟩ (fun hHeld hCl => ?_)
      clear V1 m0 m12 hown1
      refine takeG (i := 0) (d := (some 42)) (v := ?v7) rfl rfl (by kernel_rfl) (by kernel_rfl) (by decide) hCl (by kernel_rfl) (by kernel_rfl) (by kernel_rfl) (fun _ _ _ h => h) (by rfl) ?hy7 (fun _ _ _ => trivial) (by assumption) (fun hCl' => ?_)
      case hy7 => ((intro w hSw; (try dsimp only at hSw); (try go_split_ands); go_simp); try with_reducible rfl)
      simp only [Act.put, List.setIfInBounds_toArray, List.set_cons_zero, List.set_cons_succ]
      replace hCl := hCl'; clear hCl'
      refine takeG (i := 1) (d := (some 43)) (v := ?v8) rfl rfl (by kernel_rfl) (by kernel_rfl) (by decide) hCl (by kernel_rfl) (by kernel_rfl) (by kernel_rfl) (fun _ _ _ h => h) (by rfl) ?hy8 (fun _ _ _ => trivial) (by assumption) (fun hCl' => ?_)
      case hy8 => ((intro w hSw; (try dsimp only at hSw); (try go_split_ands); go_simp); try with_reducible rfl)
      simp only [Act.put, List.setIfInBounds_toArray, List.set_cons_zero, List.set_cons_succ]
      replace hCl := hCl'; clear hCl'
      refine takeG (i := 3) (d := (some 45)) (v := ?v9) rfl rfl (by kernel_rfl) (by kernel_rfl) (by decide) hCl (by kernel_rfl) (by kernel_rfl) (by kernel_rfl) (fun _ _ _ h => h) (by rfl) ?hy9 (fun _ _ _ => trivial) (by assumption) (fun hCl' => ?_)
      case hy9 => ((intro w hSw; (try dsimp only at hSw); (try go_split_ands); go_simp); try with_reducible rfl)
      simp only [Act.put, List.setIfInBounds_toArray, List.set_cons_zero, List.set_cons_succ]
      replace hCl := hCl'; clear hCl'
      refine takeG (i := 2) (d := (some 44)) (v := ?v10) rfl rfl (by kernel_rfl) (by kernel_rfl) (by decide) hCl (by kernel_rfl) (by kernel_rfl) (by kernel_rfl) (fun _ _ _ h => h) (by rfl) ?hy10 (fun _ _ _ => trivial) (by assumption) (fun hCl' => ?_)
      case hy10 => ((intro w hSw; (try dsimp only at hSw); (try go_split_ands); go_simp); try with_reducible rfl)
      simp only [Act.put, List.setIfInBounds_toArray, List.set_cons_zero, List.set_cons_succ]
      replace hCl := hCl'; clear hCl'
      refine nextG (i := 4) (by kernel_rfl) rfl (by rfl) hCl (fun K hK => ?_)
      go_simp
      refine ⟨trivial, (callsIn_wide.2 (HT2.out _)).mono ?_⟩
      rintro e w3 ⟨rfl, u3⟩
      refine hK.out _ _ ⟨hHeld.1.trans u3, u3.blk hHeld.2.1, u3.blk hHeld.2.2.1, row_up hHeld.2.2.2 u3⟩ (fun hHeld hCl => ?_)
      clear hK K u3 HT2
      refine nextG (i := 5) (by kernel_rfl) rfl (by rfl) hCl (fun K hK => ?_)
      go_simp
      refine ⟨trivial, (callsIn_wide.2 (HBo.out _)).mono ?_⟩
      rintro e w4 ⟨rfl, u4⟩
      refine hK.out _ _ ⟨hHeld.1.trans u4, u4.blk hHeld.2.1, u4.blk hHeld.2.2.1, row_up hHeld.2.2.2 u4⟩ (fun hHeld hCl => ?_)
      clear hK K u4 HBo
      obtain ⟨V4, m0, m12, hown4⟩ := hHeld
      have zc := cellB m12
      have zf := frozB m12
      clear hCl
      refine lastG (i := 6) (by kernel_rfl) rfl (by rfl) (by decide) (fun K hK => ?_)
      go_simp
      obtain ⟨W2, hW2⟩ : ∃ W, (w4.setCell ⟨p12, 0, none⟩ (.int .i64 l2)).setCell ⟨p12, 1, none⟩ (.int .i64 h2) = W := ⟨_, rfl⟩
      have V1 : Up w W2 := by rw [← hW2]; exact (V4.set (by show w.heap.size ≤ p12; omega) _).set (by show w.heap.size ≤ p12; omega) _
      have n0' : mblk W2 w.heap.size = some (.cells #[.int .i64 f, .int .i64 s, .int .i64 j, .int .i64 dl, .int .i64 dh] 25 (0, 0)) := by rw [← hW2, blk_set _ _ _ _ (by show w.heap.size ≠ p12; omega), blk_set _ _ _ _ (by show w.heap.size ≠ p12; omega)]; exact m0
      have n12 : mblk W2 p12 = some (.cells #[.int .i64 l2, .int .i64 h2] 23 (0, 0)) := by rw [← hW2]; exact blk_put (blk_put m12 0 _) 1 _
      have hown1 : W2.ownsRow (w.heap.size + 1) 3 1 u9 k (((List.range k).map (fun i => S.str f s j T bits true (i + 1))).map (Value.int .i64)) := by rw [← hW2]; exact row_set (row_set hown4 hrl 0 _) hrl 1 _
      try rw [hW2]
      refine hK.out _ _ ?_
      clear hK K hW2 m0 m12 V4 hown4 zc zf wne
      have m0 := n0'
      have m12 := n12
      clear n0' n12
      refine doneG (by kernel_rfl) ?_ _
      refine S.nrm_intro ?_
      go_wp2_with fail
      refine wp_region_held_drew (S := fun w' => Up w w' ∧ mblk w' w.heap.size = some (.cells #[.int .i64 f, .int .i64 s, .int .i64 j, .int .i64 dl, .int .i64 dh] 25 (0, 0)) ∧ mblk w' p12 = some (.cells #[.int .i64 l2, .int .i64 h2] 23 (0, 0)) ∧ w'.ownsRow (w.heap.size + 1) 3 1 u9 k (((List.range k).map (fun i => S.str f s j T bits true (i + 1))).map (Value.int .i64))) (by kernel_rfl) ⟨V1.drew, by rw [blk_drew]; exact m0, by rw [blk_drew]; exact m12, row_up hown1 (Up.refl _).drew⟩ (fun hHeld => ?_)
      clear V1 m0 m12 hown1
      refine takeH (i := 0) (d := (some 48)) (v := ?v14) rfl rfl (by kernel_rfl) (by kernel_rfl) (by kernel_rfl) (fun _ _ _ h => h) (by rfl) ?hy14 (by assumption) ?_
      case hy14 => ((intro w hSw; (try dsimp only at hSw); (try go_split_ands); go_simp); try with_reducible rfl)
      simp only [Act.put, List.setIfInBounds_toArray, List.set_cons_zero, List.set_cons_succ]
      refine takeH (i := 1) (d := (some 49)) (v := ?v15) rfl rfl (by kernel_rfl) (by kernel_rfl) (by kernel_rfl) (fun _ _ _ h => h) (by rfl) ?hy15 (by assumption) ?_
      case hy15 => ((intro w hSw; (try dsimp only at hSw); (try go_split_ands); go_simp); try with_reducible rfl)
      simp only [Act.put, List.setIfInBounds_toArray, List.set_cons_zero, List.set_cons_succ]
      refine takeH (i := 2) (d := (some 50)) (v := ?v16) rfl rfl (by kernel_rfl) (by kernel_rfl) (by kernel_rfl) (fun _ _ _ h => h) (by rfl) ?hy16 (by assumption) ?_
      case hy16 => ((intro w hSw; (try dsimp only at hSw); (try go_split_ands); go_simp); try with_reducible rfl)
      simp only [Act.put, List.setIfInBounds_toArray, List.set_cons_zero, List.set_cons_succ]
      refine wpAnyH_ready (rs := [3]) (by kernel_rfl) (by simp) ?_
      refine AllReadyH.cons rfl (fun K hK => ?_) AllReadyH.nil
      go_simp
      refine (HAk.out _ hHeld.1).mono ?_
      rintro e w5 ⟨rfl, rfl⟩
      go_wp2_with fail
      refine hK.out _ _ hHeld (fun hHeld => ?_)
      clear hK K HAk
      refine wpAnyH_ready (rs := [4]) (by kernel_rfl) (by simp) ?_
      refine AllReadyH.cons rfl (fun K hK => ?_) AllReadyH.nil
      go_simp
      refine (HFr.out _).mono ?_
      rintro e w5 ⟨rfl, u5⟩
      go_wp2_with fail
      refine hK.out _ _ ⟨hHeld.1.trans u5, u5.blk hHeld.2.1, u5.blk hHeld.2.2.1, row_up hHeld.2.2.2 u5⟩ (fun hHeld => ?_)
      clear hK K u5 HFr
      refine takeH (i := 5) (d := (some 10)) (v := ?v19) rfl rfl (by kernel_rfl) (by kernel_rfl) (by kernel_rfl) (fun _ _ _ h => h) (by rfl) ?hy19 (by assumption) ?_
      case hy19 => ((intro w hSw; (try dsimp only at hSw); (try go_split_ands); go_simp); try with_reducible rfl)
      simp only [Act.put, List.setIfInBounds_toArray, List.set_cons_zero, List.set_cons_succ]
      refine wpAnyH_done (by kernel_rfl) ?_ _
      obtain ⟨V5, m0, _, hown5⟩ := hHeld
      have ls := V5.size
      have l0 := blk_lt m0
      go_wp2_with (at_builtin; refine wpList_append_own _ rfl (.tmp 53) (.tmp 55) 26 rfl (w.heap.size + 1) 3 i0 (.int .i64 0) 1 8 hU hi hz0 hz1 hz2 rfl (by decide) _ k _ rfl (hown5.alloc _) ⟨w5.heap.size, 0, none⟩ 1 1 [.int .i64 nx] rfl rfl (cell_one_new _ _ _) (by simp [Value.oneCell']) (by unfold maxLen; omega) (by omega) (by simp; omega) ?_; intro v' w6 hown6 hgrow6 hv6)
      have x0 := grown_blk hgrow6 (blk_keep _ m0) (row_block hown5 (by omega))
      have U6 : Up w w6 := (V5.alloc _).grown hgrow6 (fun k e => by have := row_base hown5 k e; omega)
      go_roundw
      case rel => exact ⟨k + 1, nx, by omega, by go_num, rfl, by rw [hnext.out], x0, by rw [HLs.out]; exact hown6, U6⟩
      case measure => simp [intOf]; omega
    · have hke : k = T := by omega
      subst hke
      obtain ⟨sa, cap, rfl, hc1, hc2⟩ := row_val hown
      have hI := Lib.hid (ints_of_row hown (by omega))
      unfold maxLen at hc2
      clear hown HX hx
      go_wp2
      go_ret
      exact ⟨_, rfl, V, hI.out⟩
end

end Go.Proofs.Ytcadpdbadgejfaa

/- Smooth adjustments: what they add up to, and that they are a plan. -/
namespace Go.Proofs.Ytcadpdbadgejfaa
open Go.RowKit

theorem S.sum_bd {xs : List Int} (h : ∀ k, k < xs.length → -500 ≤ xs.getD k 0 ∧ xs.getD k 0 ≤ 500) : -500 * (xs.length : Int) ≤ xs.sum ∧ xs.sum ≤ 500 * (xs.length : Int) := by
  have key : ∀ n, n ≤ xs.length → -500 * (n : Int) ≤ (xs.take n).sum ∧ (xs.take n).sum ≤ 500 * (n : Int) := by
    intro n
    induction n with
    | zero => intro _; simp
    | succ n ih =>
      intro hn
      have := ih (by omega)
      have b := h n (by omega)
      rw [S.tot_take xs n (by omega)]
      omega
  have := key xs.length (Nat.le_refl _)
  rwa [List.take_length] at this
theorem S.map_range_getD (f : Nat → Int) {n k : Nat} (hk : k < n) : ((List.range n).map f).getD k 0 = f k := by
  rw [List.getD_eq_getElem?_getD, List.getElem?_map, List.getElem?_range hk]
  rfl
theorem S.map_range_sum (f : Nat → Int) (n : Nat) : ((List.range n).map f).sum = S.sm f n := by
  induction n with
  | zero => rfl
  | succ n ih => rw [List.range_succ, List.map_append, List.sum_append, ih]; simp [S.sm]
section
variable {f s j : Int} {T : Nat} {bits : List Int}
theorem S.strs_getD {sm : Bool} {i : Nat} (hi : i < T) : (S.strs f s j T bits sm).getD i 0 = S.str f s j T bits sm (i + 1) := S.map_range_getD _ hi
theorem S.str_grow (h0 : 0 ≤ f) (h1 : 0 ≤ s) (h2 : 1 ≤ j) (k : Nat) (hk : k ≤ T) : -(j * (k : Int)) ≤ S.str f s j T bits true k ∧ S.str f s j T bits true k ≤ j * (k : Int) := by
  induction k with
  | zero => show -(j * 0) ≤ 0 ∧ 0 ≤ j * 0; omega
  | succ k ih =>
    have a := ih (by omega)
    have b := S.str_smnear (T := T) (bits := bits) h0 h1 h2 k (by omega)
    have e : j * ((k + 1 : Nat) : Int) = j * (k : Int) + j := by rw [Int.natCast_add, Int.mul_add]; simp
    rw [e]; omega
theorem S.str_can (h0 : 0 ≤ f) (h1 : 0 ≤ s) (h2 : 1 ≤ j) {i : Nat} (hi : i < T) : -(S.add s j T i) ≤ S.str f s j T bits true (i + 1) ∧ S.str f s j T bits true (i + 1) ≤ S.add f j T i := by
  have a := S.str_grow (T := T) (bits := bits) h0 h1 h2 (i + 1) (by omega)
  obtain ⟨b, c, _⟩ := S.str_sm (T := T) (bits := bits) h0 h1 h2 (i + 1) (by omega)
  have es := S.end_step j T i
  rw [← es] at c
  unfold S.add
  rw [S.can_is h1 (by omega), S.can_is h0 (by omega)]
  have key : ((min (i + 1) (T - i) : Nat) : Int) * j = min (j * ((i + 1 : Nat) : Int)) (j * ((T : Int) - i)) := by
    have e2 : ((T - i : Nat) : Int) = (T : Int) - i := by omega
    by_cases h : i + 1 ≤ T - i
    · rw [Nat.min_eq_left h, Int.mul_comm]
      have : j * ((i + 1 : Nat) : Int) ≤ j * ((T : Int) - i) := Int.mul_le_mul_of_nonneg_left (by omega) (by omega)
      omega
    · rw [Nat.min_eq_right (by omega), Int.mul_comm, e2]
      have : j * ((T : Int) - i) ≤ j * ((i + 1 : Nat) : Int) := Int.mul_le_mul_of_nonneg_left (by omega) (by omega)
      omega
  rw [key]
  omega
theorem S.strs_reach (h0 : 0 ≤ f) (h1 : 0 ≤ s) (h2 : 1 ≤ j) : -(S.most s j T) ≤ (S.strs f s j T bits true).sum ∧ (S.strs f s j T bits true).sum ≤ S.most f j T := by
  unfold S.strs S.most
  rw [S.map_range_sum]
  constructor
  · have : S.sm (fun i => -(S.add s j T i)) T ≤ S.sm (fun i => S.str f s j T bits true (i + 1)) T := S.sm_le T fun i hi => (S.str_can h0 h1 h2 hi).1
    have e : S.sm (fun i => -(S.add s j T i)) T = -(S.sm (S.add s j T) T) := by
      have : ∀ n, S.sm (fun i => -(S.add s j T i)) n = -(S.sm (S.add s j T) n) := by
        intro n
        induction n with
        | zero => rfl
        | succ n ih => simp only [S.sm, ih]; omega
      exact this T
    omega
  · exact S.sm_le T fun i hi => (S.str_can h0 h1 h2 hi).2
/-- they are a plan for what they bring to 0 -/
theorem S.strs_plan (h0 : 0 ≤ f ∧ f ≤ 500) (h1 : 0 ≤ s ∧ s ≤ 500) (h2 : 1 ≤ j) (hT : T ≤ 200) : S.plans f s j (-(S.strs f s j T bits true).sum) (S.strs f s j T bits true) = true := by
  have hk := S.strs_keeps (T := T) (bits := bits) h0.1 h1.1 h2 true
  have hl := S.strs_len (f := f) (s := s) (j := j) (T := T) (bits := bits) true
  have hb := S.sum_bd (xs := S.strs f s j T bits true) fun k hk => by
    rw [hl] at hk
    rw [S.strs_getD hk]
    have := S.str_any (T := T) (bits := bits) h0.1 h1.1 h2 true (k + 1) (by omega)
    omega
  have hd : S.keeps f s j 0 ((S.strs f s j T bits true).drop ((S.strs f s j T bits true).length - 1)) = true := by
    rw [hl]
    cases T with
    | zero => rfl
    | succ n =>
      have e : (S.strs f s j (n + 1) bits true).drop (n + 1 - 1) = [S.str f s j (n + 1) bits true (n + 1)] := by
        rw [List.drop_eq_getElem_cons (by rw [hl]; omega), List.drop_eq_nil_of_le (by rw [hl]; omega)]
        have := S.strs_getD (f := f) (s := s) (j := j) (bits := bits) (sm := true) (show n + 1 - 1 < n + 1 by omega)
        rw [List.getD_eq_getElem?_getD, List.getElem?_eq_getElem (by rw [hl]; omega)] at this
        simpa using this
      rw [e]
      obtain ⟨a, b, _⟩ := S.str_sm (T := n + 1) (bits := bits) h0.1 h1.1 h2 (n + 1) (Nat.le_refl _)
      rw [Int.sub_self, Int.mul_zero] at b
      simp only [S.keeps, Bool.and_eq_true, decide_eq_true_eq, and_true]
      exact ⟨⟨a, by omega⟩, by omega⟩
  unfold S.plans
  rw [hk, hd, decide_eq_true (by rw [hl]; exact hT), wrap_in (by unfold D.in64; rw [hl] at hb; omega)]
  simp
end
theorem S.most_grow {e j : Int} (he : 0 ≤ e) (hj : 0 ≤ j) (n : Nat) : S.most e j n ≤ S.most e j (n + 1) := by
  unfold S.most
  have h1 : S.sm (S.add e j n) n ≤ S.sm (S.add e j (n + 1)) n := S.sm_le n fun i hi => S.can_mono he hj (by omega)
  have h2 := (S.add_bd he hj (n + 1) n).1
  simp only [S.sm]
  omega
/-- a number between what can be reached needs no more ticks -/
theorem S.Few.within {f s j : Int} (hf : 0 ≤ f) (hs : 0 ≤ s) (hj : 0 ≤ j) {T r : Nat} (_ : T ≤ 200) {b : Int} (b1 : -(S.most s j T) ≤ b) (b2 : b ≤ S.most f j T) (h : S.Few f s j (-b) r) : r ≤ T := by
  obtain ⟨_, h2, _⟩ := h
  by_cases e : r ≤ T
  · exact e
  · have h3 := of_decide_eq_false (h2 T (by omega))
    exfalso
    apply h3
    have m1 := (S.most_bd hf hj T).1
    have m2 := (S.most_bd hs hj T).1
    by_cases p : 0 < b
    · have : S.against (-b) = 2 := by unfold S.against; rw [if_neg (by omega), if_pos (by omega)]
      rw [this]
      show Max.max (-b) (- -b) ≤ S.most f j T
      omega
    · by_cases q : b < 0
      · have : S.against (-b) = 0 := by unfold S.against; rw [if_pos (by omega)]
        rw [this]
        show Max.max (-b) (- -b) ≤ S.most s j T
        omega
      · have : S.against (-b) = 1 := by unfold S.against; rw [if_neg (by omega), if_neg (by omega)]
        rw [this]
        have m3 := (S.most_bd (Int.le_refl 0) hj T).1
        show Max.max (-b) (- -b) ≤ S.most 0 j T
        omega

end Go.Proofs.Ytcadpdbadgejfaa

/- The contract of the laws' kept, for adjustments that keep the rule; what a plan keeps. -/
namespace Go.Proofs.Ytcadpdbadgejfaa
open Go.RowKit

/-- the adjustment before -/
def S.prv (xs : List Int) : Nat → Int
  | 0 => 0
  | k + 1 => xs.getD k 0
theorem S.keeps_near {f s j : Int} (xs : List Int) : ∀ (n k : Nat), k + n = xs.length → S.keeps f s j (S.prv xs k) (xs.drop k) = true → ∀ i, k ≤ i → i < xs.length → -j ≤ xs.getD i 0 - S.prv xs i ∧ xs.getD i 0 - S.prv xs i ≤ j := by
  intro n
  induction n with
  | zero => intro k hk _ i h1 h2; omega
  | succ n ih =>
    intro k hk h i h1 h2
    rw [S.keeps_drop (by omega)] at h
    simp only [Bool.and_eq_true] at h
    obtain ⟨_, h3, h4⟩ := h
    by_cases e : i = k
    · subst e
      have := inB_iff.1 h3
      exact this
    · exact ih (k + 1) (by omega) h4 i (by omega) h2
theorem S.plans_iff {f s j off : Int} {xs : List Int} (h : S.plans f s j off xs = true) : xs.length ≤ 200 ∧ (∀ k, k < xs.length → (-s ≤ xs.getD k 0 ∧ xs.getD k 0 ≤ f) ∧ (-j ≤ xs.getD k 0 - S.prv xs k ∧ xs.getD k 0 - S.prv xs k ≤ j)) ∧ ((-j ≤ S.prv xs xs.length ∧ S.prv xs xs.length ≤ j) ∨ xs.length = 0) ∧ wrap64 xs.sum = -off := by
  unfold S.plans at h
  simp only [Bool.and_eq_true, decide_eq_true_eq] at h
  obtain ⟨h1, h2, h3, h4⟩ := h
  refine ⟨h1, fun k hk => ⟨S.keeps_bd xs 0 h2 k hk, S.keeps_near xs xs.length 0 (by omega) (by simpa [S.prv] using h2) k (by omega) hk⟩, ?_, h4⟩
  by_cases e : xs.length = 0
  · exact .inr e
  · left
    rw [S.keeps_drop (by omega)] at h3
    simp only [Bool.and_eq_true] at h3
    have := inB_iff.1 h3.2.1
    obtain ⟨n, hn⟩ : ∃ n, xs.length = n + 1 := ⟨xs.length - 1, by omega⟩
    rw [hn] at this ⊢
    show -j ≤ xs.getD n 0 ∧ xs.getD n 0 ≤ j
    have e2 : n + 1 - 1 = n := by omega
    rw [e2] at this
    omega
set_option maxRecDepth 100000 in
set_option maxHeartbeats 4000000 in
theorem l_kept_yes {f s j dl dh : Int} (hr : S.ok f s j dl dh = true) {xs : List Int} (hl : xs.length ≤ 200) (h1 : ∀ k, k < xs.length → (-s ≤ xs.getD k 0 ∧ xs.getD k 0 ≤ f) ∧ (-j ≤ xs.getD k 0 - S.prv xs k ∧ xs.getD k 0 - S.prv xs k ≤ j)) (h2 : (-j ≤ S.prv xs xs.length ∧ S.prv xs xs.length ≤ j) ∨ xs.length = 0) {v : Value} {w : World} (I : Ints w v xs) : Calls Try.prog 44 #[RV f s j dl dh, v] w fun e w' => e = .returned (.bool true) ∧ Up w w' := by
  obtain ⟨⟨f1, f2⟩, ⟨s1, s2⟩, ⟨j1, j2⟩, _⟩ := S.ok_iff.1 hr
  have U0 := (Up.refl w).alloc (.cells #[.int .i64 f, .int .i64 s, .int .i64 j, .int .i64 dl, .int .i64 dh] 25)
  have k0 := blk_new w (.cells #[.int .i64 f, .int .i64 s, .int .i64 j, .int .i64 dl, .int .i64 dh] 25) _ rfl
  have hp : ∀ k, k ≤ xs.length → -500 ≤ S.prv xs k ∧ S.prv xs k ≤ 500 := fun k hk => by
    cases k with
    | zero => show (-500 : Int) ≤ 0 ∧ (0 : Int) ≤ 500; omega
    | succ k => have := h1 k (by omega); show -500 ≤ xs.getD k 0 ∧ xs.getD k 0 ≤ 500; omega
  have hz : -j ≤ S.prv xs xs.length ∧ S.prv xs xs.length ≤ j := by
    rcases h2 with h | h
    · exact h
    · rw [h]; show -j ≤ 0 ∧ 0 ≤ j; omega
  have HP := Lib.hid hp
  have H1 := Lib.hid h1
  obtain ⟨a, c, rfl, lc, lx, mx⟩ := I.is
  have MX := Lib.hid mx
  clear hr I h1 hp h2 mx
  go_enter Try.func44, Try.ntmps44
  go_wp2_with fail
  go_loopw [5, 6] (fun l i wr => ∃ k : Nat, k ≤ xs.length ∧ i = .int .i64 k ∧ l = .int .i64 (S.prv xs k) ∧ Up w wr ∧ mblk wr w.heap.size = some (.cells #[.int .i64 f, .int .i64 s, .int .i64 j, .int .i64 dl, .int .i64 dh] 25 (0, 0))) (fun _ i _ => xs.length - (intOf i).toNat)
  case atStart => exact ⟨0, Nat.zero_le _, rfl, rfl, U0, k0⟩
  case round =>
    clear U0 k0
    obtain ⟨k, hk, rfl, rfl, U, k0⟩ := hrel
    by_cases hlt : k < xs.length
    · have hlt' : (k : Int) < (xs.length : Int) := by omega
      obtain ⟨g, of, rfl, g1, gc⟩ := MX.out (by omega)
      have c1 := (U.facts.1 g (of + k) g1).trans (gc k hlt)
      have b1 := H1.out k hlt
      have b2 := HP.out k (by omega)
      have e1 : S.prv xs (k + 1) = xs.getD k 0 := rfl
      obtain ⟨x, hx⟩ : ∃ x, xs.getD k 0 = x := ⟨_, rfl⟩
      rw [hx] at c1 b1 e1
      generalize S.prv xs k = y at *
      have HL := Lib.hid (fun w => show Calls Try.prog 42 #[.int .i64 x, .int .i64 (-s), .int .i64 f] w fun e w' => e = .returned (.bool true) ∧ w = w' by rw [← inB_yes b1.1.1 b1.1.2]; exact B_Lies_any _ _ _ w)
      have HS := Lib.hid (fun w => B_Size_any (x - y) w (by omega) (by omega))
      have ws : IntKind.i64.wrap (-s) = -s := IntWalk.i64_in _ (by omega)
      have wd : IntKind.i64.wrap (x - y) = x - y := IntWalk.i64_in _ (by omega)
      obtain ⟨z, hz2⟩ : ∃ z, max (x - y) (-(x - y)) = z := ⟨_, rfl⟩
      have hzj : decide (j < z) = false := decide_eq_false (by omega)
      rw [hz2] at HS
      clear gc hx MX
      go_wp2_with fail
      refine wp_region_held_drew (S := fun w' => Up w w' ∧ mblk w' w.heap.size = some (.cells #[.int .i64 f, .int .i64 s, .int .i64 j, .int .i64 dl, .int .i64 dh] 25 (0, 0)) ∧ w'.cell? ⟨g, of + k, none⟩ = some (.int .i64 x)) (by kernel_rfl) ⟨U.drew, by rw [blk_drew]; exact k0, c1⟩ (fun hHeld => ?_)
      clear U k0 c1
      refine takeH (i := 0) (d := (some 13)) (v := ?v20) rfl rfl (by kernel_rfl) (by kernel_rfl) (by kernel_rfl) (fun _ _ _ h => h) (by rfl) ?hy20 (by assumption) ?_
      case hy20 => ((intro w hSw; (try dsimp only at hSw); (try go_split_ands); go_simp); try with_reducible rfl)
      simp only [Act.put, List.setIfInBounds_toArray, List.set_cons_zero, List.set_cons_succ]
      refine takeH (i := 1) (d := (some 14)) (v := ?v21) rfl rfl (by kernel_rfl) (by kernel_rfl) (by kernel_rfl) (fun _ _ _ h => h) (by rfl) ?hy21 (by assumption) ?_
      case hy21 => ((intro w hSw; (try dsimp only at hSw); (try go_split_ands); go_simp); try with_reducible rfl)
      simp only [Act.put, List.setIfInBounds_toArray, List.set_cons_zero, List.set_cons_succ]
      refine takeH (i := 4) (d := (some 17)) (v := ?v22) rfl rfl (by kernel_rfl) (by kernel_rfl) (by kernel_rfl) (fun _ _ _ h => h) (by rfl) ?hy22 (by assumption) ?_
      case hy22 => ((intro w hSw; (try dsimp only at hSw); (try go_split_ands); go_simp); try with_reducible rfl)
      simp only [Act.put, List.setIfInBounds_toArray, List.set_cons_zero, List.set_cons_succ]
      refine takeH (i := 7) (d := (some 20)) (v := ?v23) rfl rfl (by kernel_rfl) (by kernel_rfl) (by kernel_rfl) (fun _ _ _ h => h) (by rfl) ?hy23 (by assumption) ?_
      case hy23 => ((intro w hSw; (try dsimp only at hSw); (try go_split_ands); go_simp); try with_reducible rfl)
      simp only [Act.put, List.setIfInBounds_toArray, List.set_cons_zero, List.set_cons_succ]
      refine takeH (i := 2) (d := (some 15)) (v := ?v24) rfl rfl (by kernel_rfl) (by kernel_rfl) (by kernel_rfl) (fun _ _ _ h => h) (by rfl) ?hy24 (by assumption) ?_
      case hy24 => ((intro w hSw; (try dsimp only at hSw); (try go_split_ands); go_simp); try with_reducible rfl)
      simp only [Act.put, List.setIfInBounds_toArray, List.set_cons_zero, List.set_cons_succ]
      refine takeH (i := 5) (d := (some 18)) (v := ?v25) rfl rfl (by kernel_rfl) (by kernel_rfl) (by kernel_rfl) (fun _ _ _ h => h) (by rfl) ?hy25 (by assumption) ?_
      case hy25 => ((intro w hSw; (try dsimp only at hSw); (try go_split_ands); go_simp); try with_reducible rfl)
      simp only [Act.put, List.setIfInBounds_toArray, List.set_cons_zero, List.set_cons_succ]
      refine takeH (i := 8) (d := (some 21)) (v := ?v26) rfl rfl (by kernel_rfl) (by kernel_rfl) (by kernel_rfl) (fun _ _ _ h => h) (by rfl) ?hy26 (by assumption) ?_
      case hy26 => ((intro w hSw; (try dsimp only at hSw); (try go_split_ands); go_simp); try with_reducible rfl)
      simp only [Act.put, List.setIfInBounds_toArray, List.set_cons_zero, List.set_cons_succ]
      refine takeH (i := 3) (d := (some 16)) (v := ?v27) rfl rfl (by kernel_rfl) (by kernel_rfl) (by kernel_rfl) (fun _ _ _ h => h) (by rfl) ?hy27 (by assumption) ?_
      case hy27 => ((intro w hSw; (try dsimp only at hSw); (try go_split_ands); go_simp); try with_reducible rfl)
      simp only [Act.put, List.setIfInBounds_toArray, List.set_cons_zero, List.set_cons_succ]
      refine takeH (i := 6) (d := (some 19)) (v := ?v28) rfl rfl (by kernel_rfl) (by kernel_rfl) (by kernel_rfl) (fun _ _ _ h => h) (by rfl) ?hy28 (by assumption) ?_
      case hy28 => ((intro w hSw; (try dsimp only at hSw); (try go_split_ands); go_simp); try with_reducible rfl)
      simp only [Act.put, List.setIfInBounds_toArray, List.set_cons_zero, List.set_cons_succ]
      refine wpAnyH_ready (rs := [9]) (by kernel_rfl) (by simp) ?_
      refine AllReadyH.cons rfl (fun K hK => ?_) AllReadyH.nil
      go_simp
      refine (HL.out _).mono ?_
      rintro e w3 ⟨rfl, rfl⟩
      go_wp2_with fail
      refine hK.out _ _ hHeld (fun hHeld => ?_)
      clear hK K HL
      refine takeH (i := 10) (d := (some 23)) (v := ?v30) rfl rfl (by kernel_rfl) (by kernel_rfl) (by kernel_rfl) (fun _ _ _ h => h) (by rfl) ?hy30 (by assumption) ?_
      case hy30 => ((intro w hSw; (try dsimp only at hSw); (try go_split_ands); go_simp); try with_reducible rfl)
      simp only [Act.put, List.setIfInBounds_toArray, List.set_cons_zero, List.set_cons_succ]
      refine takeH (i := 11) (d := (some 24)) (v := ?v31) rfl rfl (by kernel_rfl) (by kernel_rfl) (by kernel_rfl) (fun _ _ _ h => h) (by rfl) ?hy31 (by assumption) ?_
      case hy31 => ((intro w hSw; (try dsimp only at hSw); (try go_split_ands); go_simp); try with_reducible rfl)
      simp only [Act.put, List.setIfInBounds_toArray, List.set_cons_zero, List.set_cons_succ]
      refine takeH (i := 12) (d := (some 25)) (v := ?v32) rfl rfl (by kernel_rfl) (by kernel_rfl) (by kernel_rfl) (fun _ _ _ h => h) (by rfl) ?hy32 (by assumption) ?_
      case hy32 => ((intro w hSw; (try dsimp only at hSw); (try go_split_ands); go_simp); try with_reducible rfl)
      simp only [Act.put, List.setIfInBounds_toArray, List.set_cons_zero, List.set_cons_succ]
      refine takeH (i := 13) (d := (some 26)) (v := ?v33) rfl rfl (by kernel_rfl) (by kernel_rfl) (by kernel_rfl) (fun _ _ _ h => h) (by rfl) ?hy33 (by assumption) ?_
      case hy33 => ((intro w hSw; (try dsimp only at hSw); (try go_split_ands); go_simp); try with_reducible rfl)
      simp only [Act.put, List.setIfInBounds_toArray, List.set_cons_zero, List.set_cons_succ]
      refine takeH (i := 16) (d := (some 29)) (v := ?v34) rfl rfl (by kernel_rfl) (by kernel_rfl) (by kernel_rfl) (fun _ _ _ h => h) (by rfl) ?hy34 (by assumption) ?_
      case hy34 => ((intro w hSw; (try dsimp only at hSw); (try go_split_ands); go_simp); try with_reducible rfl)
      simp only [Act.put, List.setIfInBounds_toArray, List.set_cons_zero, List.set_cons_succ]
      refine takeH (i := 19) (d := (some 32)) (v := ?v35) rfl rfl (by kernel_rfl) (by kernel_rfl) (by kernel_rfl) (fun _ _ _ h => h) (by rfl) ?hy35 (by assumption) ?_
      case hy35 => ((intro w hSw; (try dsimp only at hSw); (try go_split_ands); go_simp); try with_reducible rfl)
      simp only [Act.put, List.setIfInBounds_toArray, List.set_cons_zero, List.set_cons_succ]
      refine takeH (i := 14) (d := (some 27)) (v := ?v36) rfl rfl (by kernel_rfl) (by kernel_rfl) (by kernel_rfl) (fun _ _ _ h => h) (by rfl) ?hy36 (by assumption) ?_
      case hy36 => ((intro w hSw; (try dsimp only at hSw); (try go_split_ands); go_simp); try with_reducible rfl)
      simp only [Act.put, List.setIfInBounds_toArray, List.set_cons_zero, List.set_cons_succ]
      refine takeH (i := 20) (d := (some 33)) (v := ?v37) rfl rfl (by kernel_rfl) (by kernel_rfl) (by kernel_rfl) (fun _ _ _ h => h) (by rfl) ?hy37 (by assumption) ?_
      case hy37 => ((intro w hSw; (try dsimp only at hSw); (try go_split_ands); go_simp); try with_reducible rfl)
      simp only [Act.put, List.setIfInBounds_toArray, List.set_cons_zero, List.set_cons_succ]
      refine takeH (i := 15) (d := (some 28)) (v := ?v38) rfl rfl (by kernel_rfl) (by kernel_rfl) (by kernel_rfl) (fun _ _ _ h => h) (by rfl) ?hy38 (by assumption) ?_
      case hy38 => ((intro w hSw; (try dsimp only at hSw); (try go_split_ands); go_simp); try with_reducible rfl)
      simp only [Act.put, List.setIfInBounds_toArray, List.set_cons_zero, List.set_cons_succ]
      refine takeH (i := 17) (d := (some 30)) (v := ?v39) rfl rfl (by kernel_rfl) (by kernel_rfl) (by kernel_rfl) (fun _ _ _ h => h) (by rfl) ?hy39 (by assumption) ?_
      case hy39 => ((intro w hSw; (try dsimp only at hSw); (try go_split_ands); go_simp); try with_reducible rfl)
      simp only [Act.put, List.setIfInBounds_toArray, List.set_cons_zero, List.set_cons_succ]
      refine wpAnyH_ready (rs := [18]) (by kernel_rfl) (by simp) ?_
      refine AllReadyH.cons rfl (fun K hK => ?_) AllReadyH.nil
      go_simp
      refine (HS.out _).mono ?_
      rintro e w3 ⟨rfl, rfl⟩
      go_wp2_with fail
      refine hK.out _ _ hHeld (fun hHeld => ?_)
      clear hK K HS
      refine takeH (i := 21) (d := (some 34)) (v := ?v41) rfl rfl (by kernel_rfl) (by kernel_rfl) (by kernel_rfl) (fun _ _ _ h => h) (by rfl) ?hy41 (by assumption) ?_
      case hy41 => ((intro w hSw; (try dsimp only at hSw); (try go_split_ands); go_simp); try with_reducible rfl)
      simp only [Act.put, List.setIfInBounds_toArray, List.set_cons_zero, List.set_cons_succ]
      try rw [hzj]
      refine takeH (i := 22) (d := (some 35)) (v := ?v42) rfl rfl (by kernel_rfl) (by kernel_rfl) (by kernel_rfl) (fun _ _ _ h => h) (by rfl) ?hy42 (by assumption) ?_
      case hy42 => ((intro w hSw; (try dsimp only at hSw); (try go_split_ands); go_simp); try with_reducible rfl)
      simp only [Act.put, List.setIfInBounds_toArray, List.set_cons_zero, List.set_cons_succ]
      refine wpAnyH_done (by kernel_rfl) ?_ _
      obtain ⟨U, k0, c1⟩ := hHeld
      go_wp2_with fail
      go_roundw
      case rel => exact ⟨k + 1, by omega, by go_num, by rw [e1], U, k0⟩
      case measure => simp [intOf]; omega
    · have hke : k = xs.length := by omega
      subst hke
      have b2 := HP.out xs.length (by omega)
      generalize S.prv xs xs.length = y at *
      have HS := Lib.hid (fun w => B_Size_any y w (by omega) (by omega))
      obtain ⟨z, hz2⟩ : ∃ z, max y (-y) = z := ⟨_, rfl⟩
      have hzj : decide (z ≤ j) = true := decide_eq_true (by omega)
      rw [hz2] at HS
      go_wp2_with fail
      refine wp_region_held_drew (S := fun w' => Up w w' ∧ mblk w' w.heap.size = some (.cells #[.int .i64 f, .int .i64 s, .int .i64 j, .int .i64 dl, .int .i64 dh] 25 (0, 0))) (by kernel_rfl) ⟨U.drew, by rw [blk_drew]; exact k0⟩ (fun hHeld => ?_)
      clear U k0
      refine takeH (i := 0) (d := (some 40)) (v := ?v43) rfl rfl (by kernel_rfl) (by kernel_rfl) (by kernel_rfl) (fun _ _ _ h => h) (by rfl) ?hy43 (by assumption) ?_
      case hy43 => ((intro w hSw; (try dsimp only at hSw); (try go_split_ands); go_simp); try with_reducible rfl)
      simp only [Act.put, List.setIfInBounds_toArray, List.set_cons_zero, List.set_cons_succ]
      refine takeH (i := 2) (d := (some 42)) (v := ?v44) rfl rfl (by kernel_rfl) (by kernel_rfl) (by kernel_rfl) (fun _ _ _ h => h) (by rfl) ?hy44 (by assumption) ?_
      case hy44 => ((intro w hSw; (try dsimp only at hSw); (try go_split_ands); go_simp); try with_reducible rfl)
      simp only [Act.put, List.setIfInBounds_toArray, List.set_cons_zero, List.set_cons_succ]
      refine takeH (i := 3) (d := (some 43)) (v := ?v45) rfl rfl (by kernel_rfl) (by kernel_rfl) (by kernel_rfl) (fun _ _ _ h => h) (by rfl) ?hy45 (by assumption) ?_
      case hy45 => ((intro w hSw; (try dsimp only at hSw); (try go_split_ands); go_simp); try with_reducible rfl)
      simp only [Act.put, List.setIfInBounds_toArray, List.set_cons_zero, List.set_cons_succ]
      refine wpAnyH_ready (rs := [1]) (by kernel_rfl) (by simp) ?_
      refine AllReadyH.cons rfl (fun K hK => ?_) AllReadyH.nil
      go_simp
      refine (HS.out _).mono ?_
      rintro e w3 ⟨rfl, rfl⟩
      go_wp2_with fail
      refine hK.out _ _ hHeld (fun hHeld => ?_)
      clear hK K HS
      refine takeH (i := 4) (d := (some 44)) (v := ?v47) rfl rfl (by kernel_rfl) (by kernel_rfl) (by kernel_rfl) (fun _ _ _ h => h) (by rfl) ?hy47 (by assumption) ?_
      case hy47 => ((intro w hSw; (try dsimp only at hSw); (try go_split_ands); go_simp); try with_reducible rfl)
      simp only [Act.put, List.setIfInBounds_toArray, List.set_cons_zero, List.set_cons_succ]
      try rw [hzj]
      refine takeH (i := 5) (d := (some 4)) (v := ?v48) rfl rfl (by kernel_rfl) (by kernel_rfl) (by kernel_rfl) (fun _ _ _ h => h) (by rfl) ?hy48 (by assumption) ?_
      case hy48 => ((intro w hSw; (try dsimp only at hSw); (try go_split_ands); go_simp); try with_reducible rfl)
      simp only [Act.put, List.setIfInBounds_toArray, List.set_cons_zero, List.set_cons_succ]
      refine wpAnyH_done (by kernel_rfl) ?_ _
      go_wp2
      go_ret
      exact ⟨rfl, hHeld.1⟩

end Go.Proofs.Ytcadpdbadgejfaa
