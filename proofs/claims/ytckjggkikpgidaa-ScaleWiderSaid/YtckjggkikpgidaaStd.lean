import Derived.Test.YtckjggkikpgidaaMth
/- The contract of the laws' steered: adjustments as numbers choose them. -/
namespace Go.Proofs.Ytckjggkikpgidaa
open Go.RowKit

theorem row_up {w w' : World} {base size n : Nat} {e : TypeId} {v : Value} {xs : List Value} (h : w.ownsRow base e size v n xs) (u : Up w w') : w'.ownsRow base e size v n xs :=
  h.kept (up_grown u none) (by
    cases v.ownBlock with
    | none => exact .inl rfl
    | some k => exact .inr (by simp))
theorem row_lt {w : World} {base size n : Nat} {e : TypeId} {v : Value} {xs : List Value} (h : w.ownsRow base e size v n xs) (k : Nat) (hk : v.ownBlock = some k) : k < w.heap.size := by
  obtain ⟨_, ⟨rfl, _⟩ | ⟨g, cap, cur, rfl, hg, hb, _⟩⟩ := h
  · simp [Value.ownBlock] at hk
  · simp [Value.ownBlock] at hk
    subst hk
    exact (Array.getElem?_eq_some_iff.1 hb).1
theorem row_set {w : World} {base size n : Nat} {e : TypeId} {v : Value} {xs : List Value} (h : w.ownsRow base e size v n xs) {p : Nat} (hp : ∀ k, v.ownBlock = some k → k < p) (i : Nat) (u : Value) : (w.setCell ⟨p, i, none⟩ u).ownsRow base e size v n xs :=
  h.kept (row := some p) ⟨rfl, rfl, rfl, by simp [World.setCell], fun b _ hb => Below.heap_setCell _ _ _ _ (fun e => hb (by rw [e]))⟩ (.inr fun e => by have := hp p e; omega)
section
variable (f s j : Int) (T : Nat) (bits : List Int)
/-- the last adjustment, after so many -/
def S.str (sm : Bool) : Nat → Int
  | 0 => 0
  | k + 1 => S.frm (if sm then max (max (-s) (S.str sm k - j)) (-(j * (T - k))) else max (-s) (S.str sm k - j)) (if sm then min (min f (S.str sm k + j)) (j * (T - k)) else min f (S.str sm k + j)) (S.at bits k)
/-- all of them -/
def S.strs (sm : Bool) : List Int := (List.range T).map fun i => S.str f s j T bits sm (i + 1)
end
section
variable {f s j : Int} {T : Nat} {bits : List Int}
theorem S.str_bd (h0 : 0 ≤ f) (h1 : 0 ≤ s) (h2 : 1 ≤ j) (k : Nat) : -s ≤ S.str f s j T bits false k ∧ S.str f s j T bits false k ≤ f := by
  induction k with
  | zero => show -s ≤ 0 ∧ 0 ≤ f; omega
  | succ k ih =>
    have := S.frm_in (l := max (-s) (S.str f s j T bits false k - j)) (h := min f (S.str f s j T bits false k + j)) (by omega) (S.at bits k)
    show -s ≤ S.frm _ _ _ ∧ S.frm _ _ _ ≤ f
    simp only [Bool.false_eq_true, if_false]
    omega
theorem S.str_near (h0 : 0 ≤ f) (h1 : 0 ≤ s) (h2 : 1 ≤ j) (k : Nat) : -j ≤ S.str f s j T bits false (k + 1) - S.str f s j T bits false k ∧ S.str f s j T bits false (k + 1) - S.str f s j T bits false k ≤ j := by
  have b := S.str_bd (T := T) (bits := bits) h0 h1 h2 k
  have := S.frm_in (l := max (-s) (S.str f s j T bits false k - j)) (h := min f (S.str f s j T bits false k + j)) (by omega) (S.at bits k)
  have e : S.str f s j T bits false (k + 1) = S.frm (max (-s) (S.str f s j T bits false k - j)) (min f (S.str f s j T bits false k + j)) (S.at bits k) := by
    show S.frm _ _ _ = _
    simp only [Bool.false_eq_true, if_false]
  rw [e]; omega
theorem S.end_step (j : Int) (T k : Nat) : j * ((T : Int) - k) = j * ((T : Int) - (k + 1 : Nat)) + j := by
  have : (T : Int) - k = ((T : Int) - (k + 1 : Nat)) + 1 := by omega
  rw [this, Int.mul_add, Int.mul_one]
theorem S.end_pos {j : Int} (hj : 0 ≤ j) {T k : Nat} (hk : k ≤ T) : 0 ≤ j * ((T : Int) - k) := Int.mul_nonneg hj (by omega)
/-- what holds of smooth adjustments -/
theorem S.str_sm (h0 : 0 ≤ f) (h1 : 0 ≤ s) (h2 : 1 ≤ j) (k : Nat) (hk : k ≤ T) : (-s ≤ S.str f s j T bits true k ∧ S.str f s j T bits true k ≤ f) ∧ (-(j * ((T : Int) - k) + j) ≤ S.str f s j T bits true k ∧ S.str f s j T bits true k ≤ j * ((T : Int) - k) + j) ∧ (k < T → max (max (-s) (S.str f s j T bits true k - j)) (-(j * ((T : Int) - k))) ≤ min (min f (S.str f s j T bits true k + j)) (j * ((T : Int) - k))) := by
  induction k with
  | zero =>
    have e := S.end_pos (j := j) (by omega) hk
    refine ⟨by show -s ≤ 0 ∧ 0 ≤ f; omega, ?_, fun _ => ?_⟩
    · show -(_ + j) ≤ 0 ∧ 0 ≤ _ + j; omega
    · show max (max (-s) (0 - j)) _ ≤ min (min f (0 + j)) _; omega
  | succ k ih =>
    obtain ⟨a, b, c⟩ := ih (by omega)
    have d := S.frm_in (c (by omega)) (S.at bits k)
    have e : S.str f s j T bits true (k + 1) = S.frm (max (max (-s) (S.str f s j T bits true k - j)) (-(j * ((T : Int) - k)))) (min (min f (S.str f s j T bits true k + j)) (j * ((T : Int) - k))) (S.at bits k) := by
      show S.frm _ _ _ = _
      simp only [if_true]
    rw [← e] at d
    have es := S.end_step j T k
    have ep := S.end_pos (j := j) (by omega) hk
    exact ⟨by omega, by omega, fun _ => by omega⟩
theorem S.str_smnear (h0 : 0 ≤ f) (h1 : 0 ≤ s) (h2 : 1 ≤ j) (k : Nat) (hk : k < T) : -j ≤ S.str f s j T bits true (k + 1) - S.str f s j T bits true k ∧ S.str f s j T bits true (k + 1) - S.str f s j T bits true k ≤ j := by
  obtain ⟨a, b, c⟩ := S.str_sm (T := T) (bits := bits) h0 h1 h2 k (by omega)
  have d := S.frm_in (c hk) (S.at bits k)
  have e : S.str f s j T bits true (k + 1) = S.frm (max (max (-s) (S.str f s j T bits true k - j)) (-(j * ((T : Int) - k)))) (min (min f (S.str f s j T bits true k + j)) (j * ((T : Int) - k))) (S.at bits k) := by
    show S.frm _ _ _ = _
    simp only [if_true]
  rw [e]; omega
theorem S.str_any (h0 : 0 ≤ f) (h1 : 0 ≤ s) (h2 : 1 ≤ j) (sm : Bool) (k : Nat) (hk : k ≤ T) : -s ≤ S.str f s j T bits sm k ∧ S.str f s j T bits sm k ≤ f := by
  cases sm
  · exact S.str_bd h0 h1 h2 k
  · exact (S.str_sm h0 h1 h2 k hk).1
theorem S.strs_len (sm : Bool) : (S.strs f s j T bits sm).length = T := by unfold S.strs; rw [List.length_map, List.length_range]
theorem S.strs_keeps (h0 : 0 ≤ f) (h1 : 0 ≤ s) (h2 : 1 ≤ j) (sm : Bool) : S.keeps f s j 0 (S.strs f s j T bits sm) = true := by
  have key : ∀ n, n ≤ T → S.keeps f s j (S.str f s j T bits sm (T - n)) ((List.range n).map fun i => S.str f s j T bits sm (T - n + i + 1)) = true := by
    intro n
    induction n with
    | zero => intro _; rfl
    | succ n ih =>
      intro hn
      rw [List.range_succ_eq_map, List.map_cons, List.map_map]
      have e := ih (by omega)
      rw [show T - n = T - (n + 1) + 0 + 1 by omega] at e
      have e2 : ((fun i => S.str f s j T bits sm (T - (n + 1) + i + 1)) ∘ Nat.succ) = fun i => S.str f s j T bits sm (T - (n + 1) + 0 + 1 + i + 1) := by
        funext i
        show S.str f s j T bits sm (T - (n + 1) + (i + 1) + 1) = _
        rw [show T - (n + 1) + (i + 1) + 1 = T - (n + 1) + 0 + 1 + i + 1 by omega]
      rw [e2]
      have b := S.str_any (T := T) (bits := bits) h0 h1 h2 sm (T - (n + 1) + 0 + 1) (by omega)
      have c : -j ≤ S.str f s j T bits sm (T - (n + 1) + 0 + 1) - S.str f s j T bits sm (T - (n + 1)) ∧ S.str f s j T bits sm (T - (n + 1) + 0 + 1) - S.str f s j T bits sm (T - (n + 1)) ≤ j := by
        cases sm
        · exact S.str_near h0 h1 h2 _
        · exact S.str_smnear h0 h1 h2 _ (by omega)
      simp only [S.keeps, e, Bool.and_true, Bool.and_eq_true, decide_eq_true_eq]
      exact ⟨⟨b, c.1⟩, c.2⟩
  have := key T (Nat.le_refl _)
  rw [Nat.sub_self] at this
  have e : (fun i => S.str f s j T bits sm (0 + i + 1)) = fun i => S.str f s j T bits sm (i + 1) := by funext i; rw [Nat.zero_add]
  rw [e] at this
  exact this
end

section
variable {f s j dl dh : Int}
set_option maxRecDepth 100000 in
set_option maxHeartbeats 4000000 in
theorem l_steered_false (hr : S.ok f s j dl dh = true) {T : Nat} (hT : T ≤ 200) {bv : Value} {bits : List Int} {w : World} (I : Ints w bv bits) : Calls Try.prog 39 #[RV f s j dl dh, .int .i64 T, bv, .bool false] w fun e w' => ∃ v, e = .returned v ∧ Up w w' ∧ Ints w' v (S.strs f s j T bits false) := by
  obtain ⟨⟨f1, f2⟩, ⟨s1, s2⟩, ⟨j1, j2⟩, _⟩ := S.ok_iff.1 hr
  have U0 := (Up.refl w).alloc (.cells #[.int .i64 f, .int .i64 s, .int .i64 j, .int .i64 dl, .int .i64 dh] 25)
  have k0 := blk_new w (.cells #[.int .i64 f, .int .i64 s, .int .i64 j, .int .i64 dl, .int .i64 dh] 25) _ rfl
  obtain ⟨i0, hi, hz0, hz1, hz2⟩ := info_parts Try.infoInt
  have hU := Try.underlying26
  have HA := Lib.hid (fun w' (u : Up w w') n => B_At_any (I.up u) n)
  have R0 := (World.ownsRow_nil w (w.heap.size + 1) 3 1)
  clear hr I
  go_enter Try.func39, Try.ntmps39
  go_wp2_with fail
  go_loopw [9, 10, 11] (fun l b i wr => ∃ (k : Nat) (x : Int), k ≤ T ∧ i = .int .i64 k ∧ b = .int .i64 x ∧ x = S.str f s j T bits false k ∧ mblk wr w.heap.size = some (.cells #[.int .i64 f, .int .i64 s, .int .i64 j, .int .i64 dl, .int .i64 dh] 25 (0, 0)) ∧ wr.ownsRow (w.heap.size + 1) 3 1 l k (((List.range k).map (fun i => S.str f s j T bits false (i + 1))).map (Value.int .i64)) ∧ Up w wr) (fun _ _ i _ => T - (intOf i).toNat)
  case atStart => exact ⟨0, 0, Nat.zero_le _, rfl, rfl, rfl, k0, by simpa using World.ownsRow_nil _ _ _ _, U0⟩
  case round =>
    clear k0 U0 R0
    obtain ⟨k, x, hk, rfl, rfl, hx, k0, hown, V⟩ := hrel
    have HX := Lib.hid hx
    have hb := S.str_any (T := T) (bits := bits) f1 s1 j1 false k hk
    rw [← hx] at hb
    by_cases hlt : k < T
    · have hlt' : (k : Int) < (T : Int) := by omega
      have lt0 := blk_lt k0
      obtain ⟨lo, hlo⟩ : ∃ y, max (-s) (x - j) = y := ⟨_, rfl⟩
      obtain ⟨hi', hhi⟩ : ∃ y, min f (x + j) = y := ⟨_, rfl⟩
      have hMx := max_run hlo
      have hMn := min_run hhi
      have HT := Lib.hid (fun w => B_To_any lo hi' w)
      have me : j * ((T : Int) - k) ≤ 500 * 200 := Int.mul_le_mul (by omega) (by omega) (by omega) (by omega)
      have mp := S.end_pos (j := j) (by omega) hk
      have wd : IntKind.i64.wrap ((T : Int) - k) = (T : Int) - k := IntWalk.i64_in _ (by omega)
      have wm : IntKind.i64.wrap (j * ((T : Int) - k)) = j * ((T : Int) - k) := IntWalk.i64_in _ (by omega)
      have lob : -1000 ≤ lo ∧ lo ≤ 1000 := by omega
      have hib : -1000 ≤ hi' ∧ hi' ≤ 1000 := by omega
      have HAk := Lib.hid (fun w' (u : Up w w') => HA.out w' u (k : Int))
      have HFr := Lib.hid (fun w => B_From_any lo hi' (S.at bits k) w (by omega) (by omega) (by omega) (by omega))
      have hnext : Hid (S.str f s j T bits false (k + 1) = S.frm lo hi' (S.at bits k)) := by
        show S.frm _ _ _ = _
        simp only [Bool.false_eq_true, if_false]
        rw [← hx, hlo, hhi]
      have HLs := Lib.hid (show ((List.range (k + 1)).map (fun i => S.str f s j T bits false (i + 1))).map (Value.int .i64) = ((List.range k).map (fun i => S.str f s j T bits false (i + 1))).map (Value.int .i64) ++ [.int .i64 (S.frm lo hi' (S.at bits k))] by rw [List.range_succ, List.map_append, List.map_append, List.map_singleton, List.map_singleton, hnext.out])
      have wx1 : IntKind.i64.wrap (x - j) = x - j := IntWalk.i64_in _ (by omega)
      have wx2 : IntKind.i64.wrap (x + j) = x + j := IntWalk.i64_in _ (by omega)
      have wx3 : IntKind.i64.wrap (-s) = -s := IntWalk.i64_in _ (by omega)
      generalize S.frm lo hi' (S.at bits k) = nx at *
      generalize S.at bits k = av at *
      clear hx HX hlo hhi
      go_wp2_with fail
      refine (HT.out _).mono ?_
      rintro e w1 ⟨rfl, u1⟩
      have V1 := (V.trans u1).alloc (.cells #[.int .i64 lo, .int .i64 hi'] 23)
      have m0 := blk_keep (.cells #[.int .i64 lo, .int .i64 hi'] 23) (u1.blk k0)
      have m12 := blk_new w1 (.cells #[.int .i64 lo, .int .i64 hi'] 23) _ rfl
      have hown1 := (row_up hown u1).alloc (.cells #[.int .i64 lo, .int .i64 hi'] 23)
      obtain ⟨p12, hp12⟩ : ∃ p, w1.heap.size = p := ⟨_, rfl⟩
      obtain ⟨W1, hW1⟩ : ∃ W, w1.alloc (.cells #[.int .i64 lo, .int .i64 hi'] 23) = W := ⟨_, rfl⟩
      rw [hW1] at V1 m0 m12 hown1
      rw [hp12] at m12
      have l1 := blk_lt (u1.blk k0)
      have j0 := u1.blk k0
      have zp : w.heap.size < p12 := by have := u1.size; omega
      have HRl : ∀ g, u9.ownBlock = some g → g < p12 := fun g hg => by have := row_lt hown g hg; have := u1.size; omega
      clear u1 V k0 hown
      go_wp2_with fail
      clear hW1 hp12 j0 HT hMx hMn wx1 wx2 wx3
      refine wp_region_held_drew (S := fun w' => Up w w' ∧ mblk w' w.heap.size = some (.cells #[.int .i64 f, .int .i64 s, .int .i64 j, .int .i64 dl, .int .i64 dh] 25 (0, 0)) ∧ mblk w' p12 = some (.cells #[.int .i64 lo, .int .i64 hi'] 23 (0, 0)) ∧ w'.ownsRow (w.heap.size + 1) 3 1 u9 k (((List.range k).map (fun i => S.str f s j T bits false (i + 1))).map (Value.int .i64))) (by kernel_rfl) ⟨V1.drew, by rw [blk_drew]; exact m0, by rw [blk_drew]; exact m12, row_up hown1 (Up.refl _).drew⟩ (fun hHeld => ?_)
      clear V1 m0 m12 hown1
      refine takeH (i := 0) (d := (some 48)) (v := ?v1) rfl rfl (by kernel_rfl) (by kernel_rfl) (by kernel_rfl) (fun _ _ _ h => h) (by rfl) ?hy1 (by assumption) ?_
      case hy1 => ((intro w hSw; (try dsimp only at hSw); (try go_split_ands); go_simp); try with_reducible rfl)
      simp only [Act.put, List.setIfInBounds_toArray, List.set_cons_zero, List.set_cons_succ]
      refine takeH (i := 1) (d := (some 49)) (v := ?v2) rfl rfl (by kernel_rfl) (by kernel_rfl) (by kernel_rfl) (fun _ _ _ h => h) (by rfl) ?hy2 (by assumption) ?_
      case hy2 => ((intro w hSw; (try dsimp only at hSw); (try go_split_ands); go_simp); try with_reducible rfl)
      simp only [Act.put, List.setIfInBounds_toArray, List.set_cons_zero, List.set_cons_succ]
      refine takeH (i := 2) (d := (some 50)) (v := ?v3) rfl rfl (by kernel_rfl) (by kernel_rfl) (by kernel_rfl) (fun _ _ _ h => h) (by rfl) ?hy3 (by assumption) ?_
      case hy3 => ((intro w hSw; (try dsimp only at hSw); (try go_split_ands); go_simp); try with_reducible rfl)
      simp only [Act.put, List.setIfInBounds_toArray, List.set_cons_zero, List.set_cons_succ]
      refine wpAnyH_ready (rs := [3]) (by kernel_rfl) (by simp) ?_
      refine AllReadyH.cons rfl (fun K hK => ?_) AllReadyH.nil
      go_simp
      refine (HAk.out _ hHeld.1).mono ?_
      rintro e w5 ⟨rfl, rfl⟩
      go_wp2_with fail
      refine hK.out _ _ hHeld (fun hHeld => ?_)
      clear hK K HAk
      refine wpAnyH_ready (rs := [4]) (by kernel_rfl) (by simp) ?_
      refine AllReadyH.cons rfl (fun K hK => ?_) AllReadyH.nil
      go_simp
      refine (HFr.out _).mono ?_
      rintro e w5 ⟨rfl, u5⟩
      go_wp2_with fail
      refine hK.out _ _ ⟨hHeld.1.trans u5, u5.blk hHeld.2.1, u5.blk hHeld.2.2.1, row_up hHeld.2.2.2 u5⟩ (fun hHeld => ?_)
      clear hK K u5 HFr
      refine takeH (i := 5) (d := (some 10)) (v := ?v6) rfl rfl (by kernel_rfl) (by kernel_rfl) (by kernel_rfl) (fun _ _ _ h => h) (by rfl) ?hy6 (by assumption) ?_
      case hy6 => ((intro w hSw; (try dsimp only at hSw); (try go_split_ands); go_simp); try with_reducible rfl)
      simp only [Act.put, List.setIfInBounds_toArray, List.set_cons_zero, List.set_cons_succ]
      refine wpAnyH_done (by kernel_rfl) ?_ _
      obtain ⟨V5, m0, _, hown5⟩ := hHeld
      have ls := V5.size
      have l0 := blk_lt m0
      go_wp2_with (at_builtin; refine wpList_append_own _ rfl (.tmp 53) (.tmp 55) 26 rfl (w.heap.size + 1) 3 i0 (.int .i64 0) 1 8 hU hi hz0 hz1 hz2 rfl (by decide) _ k _ rfl (hown5.alloc _) ⟨w5.heap.size, 0, none⟩ 1 1 [.int .i64 nx] rfl rfl (cell_one_new _ _ _) (by simp [Value.oneCell']) (by unfold maxLen; omega) (by omega) (by simp; omega) ?_; intro v' w6 hown6 hgrow6 hv6)
      have x0 := grown_blk hgrow6 (blk_keep _ m0) (row_block hown5 (by omega))
      have U6 : Up w w6 := (V5.alloc _).grown hgrow6 (fun k e => by have := row_base hown5 k e; omega)
      go_roundw
      case rel => exact ⟨k + 1, nx, by omega, by go_num, rfl, by rw [hnext.out], x0, by rw [HLs.out]; exact hown6, U6⟩
      case measure => simp [intOf]; omega
    · have hke : k = T := by omega
      subst hke
      obtain ⟨sa, cap, rfl, hc1, hc2⟩ := row_val hown
      have hI := Lib.hid (ints_of_row hown (by omega))
      unfold maxLen at hc2
      clear hown HX hx
      go_wp2
      go_ret
      exact ⟨_, rfl, V, hI.out⟩
end
section
variable {f s j dl dh : Int}
set_option maxRecDepth 100000 in
set_option maxHeartbeats 4000000 in
theorem l_steered_true (hr : S.ok f s j dl dh = true) {T : Nat} (hT : T ≤ 200) {bv : Value} {bits : List Int} {w : World} (I : Ints w bv bits) : Calls Try.prog 39 #[RV f s j dl dh, .int .i64 T, bv, .bool true] w fun e w' => ∃ v, e = .returned v ∧ Up w w' ∧ Ints w' v (S.strs f s j T bits true) := by
  obtain ⟨⟨f1, f2⟩, ⟨s1, s2⟩, ⟨j1, j2⟩, _⟩ := S.ok_iff.1 hr
  have U0 := (Up.refl w).alloc (.cells #[.int .i64 f, .int .i64 s, .int .i64 j, .int .i64 dl, .int .i64 dh] 25)
  have k0 := blk_new w (.cells #[.int .i64 f, .int .i64 s, .int .i64 j, .int .i64 dl, .int .i64 dh] 25) _ rfl
  obtain ⟨i0, hi, hz0, hz1, hz2⟩ := info_parts Try.infoInt
  have hU := Try.underlying26
  have HA := Lib.hid (fun w' (u : Up w w') n => B_At_any (I.up u) n)
  have R0 := (World.ownsRow_nil w (w.heap.size + 1) 3 1)
  clear hr I
  go_enter Try.func39, Try.ntmps39
  go_wp2_with fail
  go_loopw [9, 10, 11] (fun l b i wr => ∃ (k : Nat) (x : Int), k ≤ T ∧ i = .int .i64 k ∧ b = .int .i64 x ∧ x = S.str f s j T bits true k ∧ mblk wr w.heap.size = some (.cells #[.int .i64 f, .int .i64 s, .int .i64 j, .int .i64 dl, .int .i64 dh] 25 (0, 0)) ∧ wr.ownsRow (w.heap.size + 1) 3 1 l k (((List.range k).map (fun i => S.str f s j T bits true (i + 1))).map (Value.int .i64)) ∧ Up w wr) (fun _ _ i _ => T - (intOf i).toNat)
  case atStart => exact ⟨0, 0, Nat.zero_le _, rfl, rfl, rfl, k0, by simpa using World.ownsRow_nil _ _ _ _, U0⟩
  case round =>
    clear k0 U0 R0
    obtain ⟨k, x, hk, rfl, rfl, hx, k0, hown, V⟩ := hrel
    have HX := Lib.hid hx
    have hb := S.str_any (T := T) (bits := bits) f1 s1 j1 true k hk
    rw [← hx] at hb
    by_cases hlt : k < T
    · have hlt' : (k : Int) < (T : Int) := by omega
      have lt0 := blk_lt k0
      obtain ⟨lo, hlo⟩ : ∃ y, max (-s) (x - j) = y := ⟨_, rfl⟩
      obtain ⟨hi', hhi⟩ : ∃ y, min f (x + j) = y := ⟨_, rfl⟩
      have hMx := max_run hlo
      have hMn := min_run hhi
      have HT := Lib.hid (fun w => B_To_any lo hi' w)
      have me : j * ((T : Int) - k) ≤ 500 * 200 := Int.mul_le_mul (by omega) (by omega) (by omega) (by omega)
      have mp := S.end_pos (j := j) (by omega) hk
      have wd : IntKind.i64.wrap ((T : Int) - k) = (T : Int) - k := IntWalk.i64_in _ (by omega)
      have wm : IntKind.i64.wrap (j * ((T : Int) - k)) = j * ((T : Int) - k) := IntWalk.i64_in _ (by omega)
      have lob : -1000 ≤ lo ∧ lo ≤ 1000 := by omega
      have hib : -1000 ≤ hi' ∧ hi' ≤ 1000 := by omega
      have HAk := Lib.hid (fun w' (u : Up w w') => HA.out w' u (k : Int))
      obtain ⟨en, hen⟩ : ∃ y, j * ((T : Int) - k) = y := ⟨_, rfl⟩
      have wm' : IntKind.i64.wrap (j * ((T : Int) - k)) = en := by rw [wm]; exact hen
      clear wm
      rw [hen] at me mp
      have wne : IntKind.i64.wrap (-en) = -en := IntWalk.i64_in _ (by omega)
      have HT2 := Lib.hid (fun w => B_To_any (-en) en w)
      have HBo := Lib.hid (fun w => B_Both_any lo hi' (-en) en w)
      obtain ⟨l2, hl2⟩ : ∃ y, max lo (-en) = y := ⟨_, rfl⟩
      obtain ⟨h2, hh2⟩ : ∃ y, min hi' en = y := ⟨_, rfl⟩
      rw [hl2, hh2] at HBo
      have HFr := Lib.hid (fun w => B_From_any l2 h2 (S.at bits k) w (by omega) (by omega) (by omega) (by omega))
      have hnext : Hid (S.str f s j T bits true (k + 1) = S.frm l2 h2 (S.at bits k)) := by
        show S.frm _ _ _ = _
        simp only [if_true]
        rw [← hx, hen, hlo, hhi, hl2, hh2]
      have HLs := Lib.hid (show ((List.range (k + 1)).map (fun i => S.str f s j T bits true (i + 1))).map (Value.int .i64) = ((List.range k).map (fun i => S.str f s j T bits true (i + 1))).map (Value.int .i64) ++ [.int .i64 (S.frm l2 h2 (S.at bits k))] by rw [List.range_succ, List.map_append, List.map_append, List.map_singleton, List.map_singleton, hnext.out])
      have wx1 : IntKind.i64.wrap (x - j) = x - j := IntWalk.i64_in _ (by omega)
      have wx2 : IntKind.i64.wrap (x + j) = x + j := IntWalk.i64_in _ (by omega)
      have wx3 : IntKind.i64.wrap (-s) = -s := IntWalk.i64_in _ (by omega)
      generalize S.frm l2 h2 (S.at bits k) = nx at *
      generalize S.at bits k = av at *
      clear hx HX hlo hhi hl2 hh2 hen
      go_wp2_with fail
      refine (HT.out _).mono ?_
      rintro e w1 ⟨rfl, u1⟩
      have V1 := (V.trans u1).alloc (.cells #[.int .i64 lo, .int .i64 hi'] 23)
      have m0 := blk_keep (.cells #[.int .i64 lo, .int .i64 hi'] 23) (u1.blk k0)
      have m12 := blk_new w1 (.cells #[.int .i64 lo, .int .i64 hi'] 23) _ rfl
      have hown1 := (row_up hown u1).alloc (.cells #[.int .i64 lo, .int .i64 hi'] 23)
      obtain ⟨p12, hp12⟩ : ∃ p, w1.heap.size = p := ⟨_, rfl⟩
      obtain ⟨W1, hW1⟩ : ∃ W, w1.alloc (.cells #[.int .i64 lo, .int .i64 hi'] 23) = W := ⟨_, rfl⟩
      rw [hW1] at V1 m0 m12 hown1
      rw [hp12] at m12
      have l1 := blk_lt (u1.blk k0)
      have j0 := u1.blk k0
      have zp : w.heap.size < p12 := by have := u1.size; omega
      have HRl : ∀ g, u9.ownBlock = some g → g < p12 := fun g hg => by have := row_lt hown g hg; have := u1.size; omega
      clear u1 V k0 hown
      go_wp2_with fail
      clear hW1 hp12 j0 HT hMx hMn wx1 wx2 wx3
      have hrl : ∀ g, u9.ownBlock = some g → g < p12 := HRl
      refine (wpIn_wide (n := 5)).1 ?_
      refine wpIn_nrm ?_
      refine regionG (fun w' => Up w w' ∧ mblk w' w.heap.size = some (.cells #[.int .i64 f, .int .i64 s, .int .i64 j, .int .i64 dl, .int .i64 dh] 25 (0, 0)) ∧ mblk w' p12 = some (.cells #[.int .i64 lo, .int .i64 hi'] 23 (0, 0)) ∧ w'.ownsRow (w.heap.size + 1) 3 1 u9 k (((List.range k).map (fun i => S.str f s j T bits true (i + 1))).map (Value.int .i64))) 6 (by kernel_rfl) ⟨V1.drew, by rw [blk_drew]; exact m0, by rw [blk_drew]; exact m12, row_up hown1 (Up.refl _).drew⟩ (fun hHeld hCl => ?_)
      clear V1 m0 m12 hown1
      refine takeG (i := 0) (d := (some 42)) (v := ?v7) rfl rfl (by kernel_rfl) (by kernel_rfl) (by decide) hCl (by kernel_rfl) (by kernel_rfl) (by kernel_rfl) (fun _ _ _ h => h) (by rfl) ?hy7 (fun _ _ _ => trivial) (by assumption) (fun hCl' => ?_)
      case hy7 => ((intro w hSw; (try dsimp only at hSw); (try go_split_ands); go_simp); try with_reducible rfl)
      simp only [Act.put, List.setIfInBounds_toArray, List.set_cons_zero, List.set_cons_succ]
      replace hCl := hCl'; clear hCl'
      refine takeG (i := 1) (d := (some 43)) (v := ?v8) rfl rfl (by kernel_rfl) (by kernel_rfl) (by decide) hCl (by kernel_rfl) (by kernel_rfl) (by kernel_rfl) (fun _ _ _ h => h) (by rfl) ?hy8 (fun _ _ _ => trivial) (by assumption) (fun hCl' => ?_)
      case hy8 => ((intro w hSw; (try dsimp only at hSw); (try go_split_ands); go_simp); try with_reducible rfl)
      simp only [Act.put, List.setIfInBounds_toArray, List.set_cons_zero, List.set_cons_succ]
      replace hCl := hCl'; clear hCl'
      refine takeG (i := 3) (d := (some 45)) (v := ?v9) rfl rfl (by kernel_rfl) (by kernel_rfl) (by decide) hCl (by kernel_rfl) (by kernel_rfl) (by kernel_rfl) (fun _ _ _ h => h) (by rfl) ?hy9 (fun _ _ _ => trivial) (by assumption) (fun hCl' => ?_)
      case hy9 => ((intro w hSw; (try dsimp only at hSw); (try go_split_ands); go_simp); try with_reducible rfl)
      simp only [Act.put, List.setIfInBounds_toArray, List.set_cons_zero, List.set_cons_succ]
      replace hCl := hCl'; clear hCl'
      refine takeG (i := 2) (d := (some 44)) (v := ?v10) rfl rfl (by kernel_rfl) (by kernel_rfl) (by decide) hCl (by kernel_rfl) (by kernel_rfl) (by kernel_rfl) (fun _ _ _ h => h) (by rfl) ?hy10 (fun _ _ _ => trivial) (by assumption) (fun hCl' => ?_)
      case hy10 => ((intro w hSw; (try dsimp only at hSw); (try go_split_ands); go_simp); try with_reducible rfl)
      simp only [Act.put, List.setIfInBounds_toArray, List.set_cons_zero, List.set_cons_succ]
      replace hCl := hCl'; clear hCl'
      refine nextG (i := 4) (by kernel_rfl) rfl (by rfl) hCl (fun K hK => ?_)
      go_simp
      refine ⟨trivial, (callsIn_wide.2 (HT2.out _)).mono ?_⟩
      rintro e w3 ⟨rfl, u3⟩
      refine hK.out _ _ ⟨hHeld.1.trans u3, u3.blk hHeld.2.1, u3.blk hHeld.2.2.1, row_up hHeld.2.2.2 u3⟩ (fun hHeld hCl => ?_)
      clear hK K u3 HT2
      refine nextG (i := 5) (by kernel_rfl) rfl (by rfl) hCl (fun K hK => ?_)
      go_simp
      refine ⟨trivial, (callsIn_wide.2 (HBo.out _)).mono ?_⟩
      rintro e w4 ⟨rfl, u4⟩
      refine hK.out _ _ ⟨hHeld.1.trans u4, u4.blk hHeld.2.1, u4.blk hHeld.2.2.1, row_up hHeld.2.2.2 u4⟩ (fun hHeld hCl => ?_)
      clear hK K u4 HBo
      obtain ⟨V4, m0, m12, hown4⟩ := hHeld
      have zc := cellB m12
      have zf := frozB m12
      clear hCl
      refine lastG (i := 6) (by kernel_rfl) rfl (by rfl) (by decide) (fun K hK => ?_)
      go_simp
      obtain ⟨W2, hW2⟩ : ∃ W, (w4.setCell ⟨p12, 0, none⟩ (.int .i64 l2)).setCell ⟨p12, 1, none⟩ (.int .i64 h2) = W := ⟨_, rfl⟩
      have V1 : Up w W2 := by rw [← hW2]; exact (V4.set (by show w.heap.size ≤ p12; omega) _).set (by show w.heap.size ≤ p12; omega) _
      have n0' : mblk W2 w.heap.size = some (.cells #[.int .i64 f, .int .i64 s, .int .i64 j, .int .i64 dl, .int .i64 dh] 25 (0, 0)) := by rw [← hW2, blk_set _ _ _ _ (by show w.heap.size ≠ p12; omega), blk_set _ _ _ _ (by show w.heap.size ≠ p12; omega)]; exact m0
      have n12 : mblk W2 p12 = some (.cells #[.int .i64 l2, .int .i64 h2] 23 (0, 0)) := by rw [← hW2]; exact blk_put (blk_put m12 0 _) 1 _
      have hown1 : W2.ownsRow (w.heap.size + 1) 3 1 u9 k (((List.range k).map (fun i => S.str f s j T bits true (i + 1))).map (Value.int .i64)) := by rw [← hW2]; exact row_set (row_set hown4 hrl 0 _) hrl 1 _
      try rw [hW2]
      refine hK.out _ _ ?_
      clear hK K hW2 m0 m12 V4 hown4 zc zf wne
      have m0 := n0'
      have m12 := n12
      clear n0' n12
      refine doneG (by kernel_rfl) ?_ _
      refine S.nrm_intro ?_
      go_wp2_with fail
      refine wp_region_held_drew (S := fun w' => Up w w' ∧ mblk w' w.heap.size = some (.cells #[.int .i64 f, .int .i64 s, .int .i64 j, .int .i64 dl, .int .i64 dh] 25 (0, 0)) ∧ mblk w' p12 = some (.cells #[.int .i64 l2, .int .i64 h2] 23 (0, 0)) ∧ w'.ownsRow (w.heap.size + 1) 3 1 u9 k (((List.range k).map (fun i => S.str f s j T bits true (i + 1))).map (Value.int .i64))) (by kernel_rfl) ⟨V1.drew, by rw [blk_drew]; exact m0, by rw [blk_drew]; exact m12, row_up hown1 (Up.refl _).drew⟩ (fun hHeld => ?_)
      clear V1 m0 m12 hown1
      refine takeH (i := 0) (d := (some 48)) (v := ?v14) rfl rfl (by kernel_rfl) (by kernel_rfl) (by kernel_rfl) (fun _ _ _ h => h) (by rfl) ?hy14 (by assumption) ?_
      case hy14 => ((intro w hSw; (try dsimp only at hSw); (try go_split_ands); go_simp); try with_reducible rfl)
      simp only [Act.put, List.setIfInBounds_toArray, List.set_cons_zero, List.set_cons_succ]
      refine takeH (i := 1) (d := (some 49)) (v := ?v15) rfl rfl (by kernel_rfl) (by kernel_rfl) (by kernel_rfl) (fun _ _ _ h => h) (by rfl) ?hy15 (by assumption) ?_
      case hy15 => ((intro w hSw; (try dsimp only at hSw); (try go_split_ands); go_simp); try with_reducible rfl)
      simp only [Act.put, List.setIfInBounds_toArray, List.set_cons_zero, List.set_cons_succ]
      refine takeH (i := 2) (d := (some 50)) (v := ?v16) rfl rfl (by kernel_rfl) (by kernel_rfl) (by kernel_rfl) (fun _ _ _ h => h) (by rfl) ?hy16 (by assumption) ?_
      case hy16 => ((intro w hSw; (try dsimp only at hSw); (try go_split_ands); go_simp); try with_reducible rfl)
      simp only [Act.put, List.setIfInBounds_toArray, List.set_cons_zero, List.set_cons_succ]
      refine wpAnyH_ready (rs := [3]) (by kernel_rfl) (by simp) ?_
      refine AllReadyH.cons rfl (fun K hK => ?_) AllReadyH.nil
      go_simp
      refine (HAk.out _ hHeld.1).mono ?_
      rintro e w5 ⟨rfl, rfl⟩
      go_wp2_with fail
      refine hK.out _ _ hHeld (fun hHeld => ?_)
      clear hK K HAk
      refine wpAnyH_ready (rs := [4]) (by kernel_rfl) (by simp) ?_
      refine AllReadyH.cons rfl (fun K hK => ?_) AllReadyH.nil
      go_simp
      refine (HFr.out _).mono ?_
      rintro e w5 ⟨rfl, u5⟩
      go_wp2_with fail
      refine hK.out _ _ ⟨hHeld.1.trans u5, u5.blk hHeld.2.1, u5.blk hHeld.2.2.1, row_up hHeld.2.2.2 u5⟩ (fun hHeld => ?_)
      clear hK K u5 HFr
      refine takeH (i := 5) (d := (some 10)) (v := ?v19) rfl rfl (by kernel_rfl) (by kernel_rfl) (by kernel_rfl) (fun _ _ _ h => h) (by rfl) ?hy19 (by assumption) ?_
      case hy19 => ((intro w hSw; (try dsimp only at hSw); (try go_split_ands); go_simp); try with_reducible rfl)
      simp only [Act.put, List.setIfInBounds_toArray, List.set_cons_zero, List.set_cons_succ]
      refine wpAnyH_done (by kernel_rfl) ?_ _
      obtain ⟨V5, m0, _, hown5⟩ := hHeld
      have ls := V5.size
      have l0 := blk_lt m0
      go_wp2_with (at_builtin; refine wpList_append_own _ rfl (.tmp 53) (.tmp 55) 26 rfl (w.heap.size + 1) 3 i0 (.int .i64 0) 1 8 hU hi hz0 hz1 hz2 rfl (by decide) _ k _ rfl (hown5.alloc _) ⟨w5.heap.size, 0, none⟩ 1 1 [.int .i64 nx] rfl rfl (cell_one_new _ _ _) (by simp [Value.oneCell']) (by unfold maxLen; omega) (by omega) (by simp; omega) ?_; intro v' w6 hown6 hgrow6 hv6)
      have x0 := grown_blk hgrow6 (blk_keep _ m0) (row_block hown5 (by omega))
      have U6 : Up w w6 := (V5.alloc _).grown hgrow6 (fun k e => by have := row_base hown5 k e; omega)
      go_roundw
      case rel => exact ⟨k + 1, nx, by omega, by go_num, rfl, by rw [hnext.out], x0, by rw [HLs.out]; exact hown6, U6⟩
      case measure => simp [intOf]; omega
    · have hke : k = T := by omega
      subst hke
      obtain ⟨sa, cap, rfl, hc1, hc2⟩ := row_val hown
      have hI := Lib.hid (ints_of_row hown (by omega))
      unfold maxLen at hc2
      clear hown HX hx
      go_wp2
      go_ret
      exact ⟨_, rfl, V, hI.out⟩
end

end Go.Proofs.Ytckjggkikpgidaa
