import Derived.Test.YtcadpdbadgejfaaUpt
/- The contract of level. -/
namespace Go.Proofs.Ytcadpdbadgejfaa
open Go.RowKit

theorem S.sum_lo {A : Nat → Int} (hA : ∀ x, 0 ≤ A x ∧ A x ≤ 500) (L : Int) (hL : 0 ≤ L) {T : Nat} (hT : T ≤ 200) : wrap64 (S.list (S.lo A L) T 0).sum = S.sm (S.lo A L) T ∧ 0 ≤ S.sm (S.lo A L) T ∧ S.sm (S.lo A L) T ≤ 100000 := by
  have b := S.sm_bd (f := S.lo A L) T 0 500 (fun i _ => by have := hA i; unfold S.lo; omega)
  rw [S.sum_list]
  exact ⟨wrap_in ⟨by omega, by omega⟩, by omega, by omega⟩

set_option maxRecDepth 100000 in
set_option maxHeartbeats 1000000 in
theorem level1_any {f s j dl dh p far : Int} (hr : S.ok f s j dl dh = true) (hp : p = 0 ∨ p = 1 ∨ p = 2) {T : Nat} (hT : T ≤ 200) {m b2 b3 : Nat} {w : World} (K : S.Know w (.map (some m)) f s j)
    (k2 : mblk w b2 = some (.cells #[.map (some m), .int .i64 p, .int .i64 far] 89 (0, 0))) (k3 : mblk w b3 = some (.cells #[.int .i64 T] 3 (0, 0))) (x : Nat) (hx : x < 500) :
    Calls Try.prog 112 #[.int .i64 x, .pointer (some ⟨b2, 0, none⟩), .pointer (some ⟨b3, 0, none⟩)] w fun e w' => e = .returned (.bool (decide (far < S.sm (S.lo (S.add (S.part f s p) j T) ((x : Int) + 1)) T))) ∧ Up w w' := by
  obtain ⟨p1, p2⟩ := S.part_bd hr p
  obtain ⟨_, _, h3, _⟩ := S.ok_iff.1 hr
  have hA : ∀ x, 0 ≤ S.add (S.part f s p) j T x ∧ S.add (S.part f s p) j T x ≤ 500 := fun x => by
    have := S.add_bd (e := S.part f s p) (j := j) p1 (by omega) T x; omega
  obtain ⟨e1, _, _⟩ := S.sum_lo hA ((x : Int) + 1) (by omega) hT
  have HU := Lib.hid (fun w' (u : Up w w') => upTo_any (far := far) hr hp hT ((x : Int) + 1) (K.up u))
  have HE := Lib.hid e1
  generalize S.sm (S.lo (S.add (S.part f s p) j T) ((x : Int) + 1)) T = q at *
  have ew : IntKind.i64.wrap ((x : Int) + 1) = (x : Int) + 1 := IntWalk.i64_in _ (by omega)
  clear hr K hp e1 hA p1 p2 h3
  go_enter Try.func112, Try.ntmps112
  go_wp2_with fail
  refine wp_region_held_drew (S := fun w' => Up w w' ∧ mblk w' b2 = some (.cells #[.map (some m), .int .i64 p, .int .i64 far] 89 (0, 0)) ∧ mblk w' b3 = some (.cells #[.int .i64 T] 3 (0, 0))) (by kernel_rfl) ⟨(Up.refl w).drew, by rw [blk_drew]; exact k2, by rw [blk_drew]; exact k3⟩ (fun hHeld => ?_)
  clear k2 k3
  refine takeH (i := 0) (d := (some 5)) (v := ?v1) rfl rfl (by kernel_rfl) (by kernel_rfl) (by kernel_rfl) (fun _ _ _ h => h) (by rfl) ?hy1 (by assumption) ?_
  case hy1 => ((intro w hSw; (try dsimp only at hSw); (try go_split_ands); go_simp); try with_reducible rfl)
  simp only [Act.put, List.setIfInBounds_toArray, List.set_cons_zero, List.set_cons_succ]
  refine takeH (i := 1) (d := (some 6)) (v := ?v2) rfl rfl (by kernel_rfl) (by kernel_rfl) (by kernel_rfl) (fun _ _ _ h => h) (by rfl) ?hy2 (by assumption) ?_
  case hy2 => ((intro w hSw; (try dsimp only at hSw); (try go_split_ands); go_simp); try with_reducible rfl)
  simp only [Act.put, List.setIfInBounds_toArray, List.set_cons_zero, List.set_cons_succ]
  refine takeH (i := 3) (d := (some 8)) (v := ?v3) rfl rfl (by kernel_rfl) (by kernel_rfl) (by kernel_rfl) (fun _ _ _ h => h) (by rfl) ?hy3 (by assumption) ?_
  case hy3 => ((intro w hSw; (try dsimp only at hSw); (try go_split_ands); go_simp); try with_reducible rfl)
  simp only [Act.put, List.setIfInBounds_toArray, List.set_cons_zero, List.set_cons_succ]
  refine takeH (i := 6) (d := (some 11)) (v := ?v4) rfl rfl (by kernel_rfl) (by kernel_rfl) (by kernel_rfl) (fun _ _ _ h => h) (by rfl) ?hy4 (by assumption) ?_
  case hy4 => ((intro w hSw; (try dsimp only at hSw); (try go_split_ands); go_simp); try with_reducible rfl)
  simp only [Act.put, List.setIfInBounds_toArray, List.set_cons_zero, List.set_cons_succ]
  refine takeH (i := 2) (d := (some 7)) (v := ?v5) rfl rfl (by kernel_rfl) (by kernel_rfl) (by kernel_rfl) (fun _ _ _ h => h) (by rfl) ?hy5 (by assumption) ?_
  case hy5 => ((intro w hSw; (try dsimp only at hSw); (try go_split_ands); go_simp); try with_reducible rfl)
  simp only [Act.put, List.setIfInBounds_toArray, List.set_cons_zero, List.set_cons_succ]
  refine takeH (i := 7) (d := (some 12)) (v := ?v6) rfl rfl (by kernel_rfl) (by kernel_rfl) (by kernel_rfl) (fun _ _ _ h => h) (by rfl) ?hy6 (by assumption) ?_
  case hy6 => ((intro w hSw; (try dsimp only at hSw); (try go_split_ands); go_simp); try with_reducible rfl)
  simp only [Act.put, List.setIfInBounds_toArray, List.set_cons_zero, List.set_cons_succ]
  refine wpAnyH_ready (rs := [4]) (by kernel_rfl) (by simp) ?_
  refine AllReadyH.cons rfl (fun K hK => ?_) AllReadyH.nil
  go_simp
  refine (HU.out _ hHeld.1).mono ?_
  rintro e w1 ⟨v, rfl, u1, I1⟩
  go_wp2_with fail
  refine hK.out _ _ ⟨hHeld.1.trans u1, u1.blk hHeld.2.1, u1.blk hHeld.2.2⟩ (fun hHeld => ?_)
  have KS := Lib.hid (sum_any I1)
  rw [HE.out] at KS
  clear hK K I1
  refine wpAnyH_ready (rs := [5]) (by kernel_rfl) (by simp) ?_
  refine AllReadyH.cons rfl (fun K hK => ?_) AllReadyH.nil
  go_simp
  refine KS.out.mono ?_
  rintro e w2 ⟨rfl, rfl⟩
  go_wp2_with fail
  refine hK.out _ _ hHeld (fun hHeld => ?_)
  clear hK K
  refine takeH (i := 8) (d := (some 13)) (v := ?v9) rfl rfl (by kernel_rfl) (by kernel_rfl) (by kernel_rfl) (fun _ _ _ h => h) (by rfl) ?hy9 (by assumption) ?_
  case hy9 => ((intro w hSw; (try dsimp only at hSw); (try go_split_ands); go_simp); try with_reducible rfl)
  simp only [Act.put, List.setIfInBounds_toArray, List.set_cons_zero, List.set_cons_succ]
  refine takeH (i := 9) (d := (some 4)) (v := ?v10) rfl rfl (by kernel_rfl) (by kernel_rfl) (by kernel_rfl) (fun _ _ _ h => h) (by rfl) ?hy10 (by assumption) ?_
  case hy10 => ((intro w hSw; (try dsimp only at hSw); (try go_split_ands); go_simp); try with_reducible rfl)
  simp only [Act.put, List.setIfInBounds_toArray, List.set_cons_zero, List.set_cons_succ]
  refine wpAnyH_done (by kernel_rfl) ?_ _
  go_wp2
  go_ret
  exact ⟨rfl, hHeld.1⟩

theorem S.level_first {A : Nat → Int} (hA : ∀ x, 0 ≤ A x) {T r : Nat} {far : Int} (h0 : 0 ≤ far) (h : S.First (fun x : Nat => decide (far < S.sm (S.lo A ((x : Int) + 1)) T)) 500 r) : S.Level A T far r := by
  obtain ⟨h1, h2, h3⟩ := h
  refine ⟨by omega, ?_, fun hr => ?_, by omega⟩
  · cases r with
    | zero =>
      have e : S.sm (S.lo A ((0 : Nat) : Int)) T = 0 := by
        rw [← S.sm_zero T]
        exact S.sm_eq T (fun i _ => by have := hA i; unfold S.lo; simp; omega)
      rw [e]; exact h0
    | succ r =>
      have := h2 r (by omega)
      simp only [decide_eq_false_iff_not] at this
      have e : (((r + 1 : Nat)) : Int) = (r : Int) + 1 := by omega
      rw [e]; omega
  · have := h3 (by omega)
    simpa using this

set_option maxRecDepth 100000 in
theorem level_any {f s j dl dh p far : Int} (hr : S.ok f s j dl dh = true) (hp : p = 0 ∨ p = 1 ∨ p = 2) (far1 : 0 ≤ far) {T : Nat} (hT : T ≤ 200) {m : Nat} {w : World} (K : S.Know w (.map (some m)) f s j) :
    ∃ L : Nat, S.Level (S.add (S.part f s p) j T) T far L ∧ ∀ w', Up w w' → Calls Try.prog 98 #[CV m p far, .int .i64 T] w' fun e w'' => e = .returned (.int .i64 L) ∧ Up w' w'' := by
  obtain ⟨p1, p2⟩ := S.part_bd hr p
  obtain ⟨_, _, h3, _⟩ := S.ok_iff.1 hr
  have hA : ∀ x, 0 ≤ S.add (S.part f s p) j T x := fun x => (S.add_bd (e := S.part f s p) (j := j) p1 (by omega) T x).1
  obtain ⟨P, hP⟩ : ∃ P : Nat → Bool, P = fun x : Nat => decide (far < S.sm (S.lo (S.add (S.part f s p) j T) ((x : Int) + 1)) T) := ⟨_, rfl⟩
  have hmono : ∀ x y, x ≤ y → P x = true → P y = true := fun x y hxy hx => by
    rw [hP] at hx ⊢
    simp only [decide_eq_true_eq] at hx ⊢
    have := S.sm_le (f := S.lo (S.add (S.part f s p) j T) ((x : Int) + 1)) (g := S.lo (S.add (S.part f s p) j T) ((y : Int) + 1)) T (fun i _ => by unfold S.lo; omega)
    omega
  have hex : ∃ r, S.First P 500 r := by
    have : ∀ n, ∃ r, S.First P n r := by
      intro n
      induction n with
      | zero => exact ⟨0, Nat.le_refl _, fun x hx => absurd hx (by omega), fun h => absurd h (by omega)⟩
      | succ n ih =>
        obtain ⟨r, r1, r2, r3⟩ := ih
        by_cases e : r < n
        · exact ⟨r, by omega, r2, fun _ => r3 e⟩
        · obtain rfl : r = n := by omega
          cases hq : P r
          · exact ⟨r + 1, Nat.le_refl _, fun x hx => by
              by_cases g : x < r
              · exact r2 x g
              · rw [show x = r by omega]; exact hq, fun h => absurd h (by omega)⟩
          · exact ⟨r, by omega, r2, fun _ => hq⟩
    exact this 500
  obtain ⟨L, hL⟩ := hex
  have hLv : S.Level (S.add (S.part f s p) j T) T far L := S.level_first hA far1 (by rw [← hP]; exact hL)
  refine ⟨L, hLv, fun w' u => ?_⟩
  have U := ((Up.refl w').alloc (.cells #[.map (some m), .int .i64 p, .int .i64 far] 89)).alloc (.cells #[.int .i64 T] 3)
  have k2 := blk_keep (.cells #[.int .i64 T] 3) (blk_new w' (.cells #[.map (some m), .int .i64 p, .int .i64 far] 89) w'.heap.size rfl)
  have k3 := blk_new (w'.alloc (.cells #[.map (some m), .int .i64 p, .int .i64 far] 89)) (.cells #[.int .i64 T] 3) (w'.heap.size + 1) (by simp)
  have KS := search_level1 (c1 := .pointer (some ⟨w'.heap.size, 0, none⟩)) (c2 := .pointer (some ⟨w'.heap.size + 1, 0, none⟩)) P hmono 500 (by omega) _ (fun x w2 hx u2 => by
    rw [hP]
    exact level1_any hr hp hT (K.up ((u.trans U).trans u2)) (u2.blk k2) (u2.blk k3) x hx)
  have HS := Lib.hid (KS.mono (R' := fun e w2 => e = .returned (.int .i64 L) ∧ Up ((w'.alloc (.cells #[.map (some m), .int .i64 p, .int .i64 far] 89)).alloc (.cells #[.int .i64 T] 3)) w2) (fun e w2 ⟨r', he, q1, q2⟩ => ⟨by rw [he, q1.one hL], q2⟩))
  clear KS k2 k3 hLv hL hmono hA hr K hp hP
  go_enter Try.func98, Try.ntmps98
  go_wp2_with fail
  refine HS.out.mono ?_
  rintro e w1 ⟨rfl, u1⟩
  go_wp2
  go_ret
  exact ⟨rfl, U.trans u1⟩

end Go.Proofs.Ytcadpdbadgejfaa
