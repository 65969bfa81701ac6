import Derived.Test.YtcadpdbadgejfaaAdC
/- The contracts of areEnough, of sort.Search, and of fewest. -/
namespace Go.Proofs.Ytcadpdbadgejfaa
open Go.RowKit

/-- a course's value -/
abbrev CV (m : Nat) (p far : Int) : Value := .agg #[.map (some m), .int .i64 p, .int .i64 far]
set_option maxRecDepth 100000 in
theorem areEnough_any {f s j dl dh p far : Int} (hr : S.ok f s j dl dh = true) (hp : p = 0 ∨ p = 1 ∨ p = 2) {T : Nat} (hT : T ≤ 200) {m : Nat} {w : World} (K : S.Know w (.map (some m)) f s j) :
    Calls Try.prog 85 #[CV m p far, .int .i64 T] w fun e w' => e = .returned (.bool (decide (far ≤ S.most (S.part f s p) j T))) ∧ Up w w' := by
  have U := (Up.refl w).alloc (.cells #[.map (some m), .int .i64 p, .int .i64 far] 89)
  have KM := Lib.hid (fun w' (u : Up w w') => most_any hr hp hT (K.up u))
  generalize S.most (S.part f s p) j T = q at *
  clear hr K hp
  go_enter Try.func85, Try.ntmps85
  go_wp2_with fail
  refine wp_region_held_drew (S := fun w' => Up w w' ∧ mblk w' w.heap.size = some (.cells #[.map (some m), .int .i64 p, .int .i64 far] 89 (0, 0))) (by kernel_rfl) ⟨U.drew, by rw [blk_drew]; exact blk_new _ _ _ rfl⟩ (fun hHeld => ?_)
  refine takeH (i := 0) (d := (some 5)) (v := ?v1) rfl rfl (by kernel_rfl) (by kernel_rfl) (by kernel_rfl) (fun _ _ _ h => h) (by rfl) ?hy1 (by assumption) ?_
  case hy1 => ((intro w hSw; (try dsimp only at hSw); (try go_split_ands); go_simp); try with_reducible rfl)
  simp only [Act.put, List.setIfInBounds_toArray, List.set_cons_zero, List.set_cons_succ]
  refine takeH (i := 1) (d := (some 6)) (v := ?v2) rfl rfl (by kernel_rfl) (by kernel_rfl) (by kernel_rfl) (fun _ _ _ h => h) (by rfl) ?hy2 (by assumption) ?_
  case hy2 => ((intro w hSw; (try dsimp only at hSw); (try go_split_ands); go_simp); try with_reducible rfl)
  simp only [Act.put, List.setIfInBounds_toArray, List.set_cons_zero, List.set_cons_succ]
  refine takeH (i := 2) (d := (some 7)) (v := ?v3) rfl rfl (by kernel_rfl) (by kernel_rfl) (by kernel_rfl) (fun _ _ _ h => h) (by rfl) ?hy3 (by assumption) ?_
  case hy3 => ((intro w hSw; (try dsimp only at hSw); (try go_split_ands); go_simp); try with_reducible rfl)
  simp only [Act.put, List.setIfInBounds_toArray, List.set_cons_zero, List.set_cons_succ]
  refine takeH (i := 3) (d := (some 8)) (v := ?v4) rfl rfl (by kernel_rfl) (by kernel_rfl) (by kernel_rfl) (fun _ _ _ h => h) (by rfl) ?hy4 (by assumption) ?_
  case hy4 => ((intro w hSw; (try dsimp only at hSw); (try go_split_ands); go_simp); try with_reducible rfl)
  simp only [Act.put, List.setIfInBounds_toArray, List.set_cons_zero, List.set_cons_succ]
  refine takeH (i := 4) (d := (some 9)) (v := ?v5) rfl rfl (by kernel_rfl) (by kernel_rfl) (by kernel_rfl) (fun _ _ _ h => h) (by rfl) ?hy5 (by assumption) ?_
  case hy5 => ((intro w hSw; (try dsimp only at hSw); (try go_split_ands); go_simp); try with_reducible rfl)
  simp only [Act.put, List.setIfInBounds_toArray, List.set_cons_zero, List.set_cons_succ]
  refine takeH (i := 6) (d := (some 11)) (v := ?v6) rfl rfl (by kernel_rfl) (by kernel_rfl) (by kernel_rfl) (fun _ _ _ h => h) (by rfl) ?hy6 (by assumption) ?_
  case hy6 => ((intro w hSw; (try dsimp only at hSw); (try go_split_ands); go_simp); try with_reducible rfl)
  simp only [Act.put, List.setIfInBounds_toArray, List.set_cons_zero, List.set_cons_succ]
  refine takeH (i := 7) (d := (some 12)) (v := ?v7) rfl rfl (by kernel_rfl) (by kernel_rfl) (by kernel_rfl) (fun _ _ _ h => h) (by rfl) ?hy7 (by assumption) ?_
  case hy7 => ((intro w hSw; (try dsimp only at hSw); (try go_split_ands); go_simp); try with_reducible rfl)
  simp only [Act.put, List.setIfInBounds_toArray, List.set_cons_zero, List.set_cons_succ]
  refine wpAnyH_ready (rs := [5]) (by kernel_rfl) (by simp) ?_
  refine AllReadyH.cons rfl (fun K hK => ?_) AllReadyH.nil
  go_simp
  refine (KM.out _ hHeld.1).mono ?_
  rintro e w1 ⟨rfl, u1⟩
  go_wp2_with fail
  refine hK.out _ _ ⟨hHeld.1.trans u1, u1.blk hHeld.2⟩ (fun hHeld => ?_)
  clear hK K
  refine takeH (i := 8) (d := (some 13)) (v := ?v9) rfl rfl (by kernel_rfl) (by kernel_rfl) (by kernel_rfl) (fun _ _ _ h => h) (by rfl) ?hy9 (by assumption) ?_
  case hy9 => ((intro w hSw; (try dsimp only at hSw); (try go_split_ands); go_simp); try with_reducible rfl)
  simp only [Act.put, List.setIfInBounds_toArray, List.set_cons_zero, List.set_cons_succ]
  refine takeH (i := 9) (d := (some 4)) (v := ?v10) rfl rfl (by kernel_rfl) (by kernel_rfl) (by kernel_rfl) (fun _ _ _ h => h) (by rfl) ?hy10 (by assumption) ?_
  case hy10 => ((intro w hSw; (try dsimp only at hSw); (try go_split_ands); go_simp); try with_reducible rfl)
  simp only [Act.put, List.setIfInBounds_toArray, List.set_cons_zero, List.set_cons_succ]
  refine wpAnyH_done (by kernel_rfl) ?_ _
  go_wp2
  go_ret
  exact ⟨rfl, hHeld.1⟩

/-- the first number that will do, or how many there are -/
def S.First (P : Nat → Bool) (n r : Nat) : Prop := r ≤ n ∧ (∀ x, x < r → P x = false) ∧ (r < n → P r = true)
theorem S.First.one {P : Nat → Bool} {n r r' : Nat} (h : S.First P n r) (h' : S.First P n r') : r = r' := by
  obtain ⟨a, b, c⟩ := h
  obtain ⟨a', b', c'⟩ := h'
  by_cases e : r < r'
  · have := b' r e
    rw [c (by omega)] at this; cases this
  · by_cases e2 : r' < r
    · have := b r' e2
      rw [c' (by omega)] at this; cases this
    · omega

set_option maxRecDepth 100000 in
set_option maxHeartbeats 1000000 in
theorem search_areEnough {cv : Value} (P : Nat → Bool) (hmono : ∀ x y, x ≤ y → P x = true → P y = true) (n : Nat) (hn : n ≤ 1000) (w : World)
    (HF : ∀ (x : Nat) w', x < n → Up w w' → Calls Try.prog 85 #[cv, .int .i64 x] w' fun e w'' => e = .returned (.bool (P x)) ∧ Up w' w'') :
    Calls Try.prog 84 #[.int .i64 n, (.func (.func 85) #[cv] #[])] w fun e w' => ∃ r : Nat, e = .returned (.int .i64 r) ∧ S.First P n r ∧ Up w w' := by
  have H := Lib.hid HF
  have HM := Lib.hid hmono
  clear HF hmono
  go_enter Try.func84, Try.ntmps84
  go_wp2_with fail
  go_loopw [5, 6] (fun iv jv wr => ∃ i k : Nat, i ≤ k ∧ k ≤ n ∧ iv = .int .i64 i ∧ jv = .int .i64 k ∧ Hid (∀ x, x < i → P x = false) ∧ Hid (k < n → P k = true) ∧ Up w wr) (fun iv jv _ => (intOf jv - intOf iv).toNat)
  case atStart => exact ⟨0, n, Nat.zero_le _, Nat.le_refl _, rfl, rfl, fun x hx => absurd hx (by omega), fun h => absurd h (by omega), Up.refl _⟩
  case round =>
    obtain ⟨i, k, hik, hkn, rfl, rfl, h1, h2, U⟩ := hrel
    by_cases hlt : i < k
    · obtain ⟨q, hq⟩ : ∃ q : Nat, (i + k) / 2 = q := ⟨_, rfl⟩
      have hq' : ((i : Int) + (k : Int)) / 2 = (q : Int) := by omega
      have HQ := Lib.hid hq'
      have q1 : i ≤ q ∧ q < k := by omega
      have KQ := Lib.hid (H.out q wr (by omega) U)
      have hs : Hid (∀ x, P x = true → x ≤ q → P q = true) := fun x hx hl => HM.out x q hl hx
      obtain ⟨pv, hpv⟩ : ∃ pv, P q = pv := ⟨_, rfl⟩
      rw [hpv] at KQ
      have HPV := Lib.hid hpv
      have hL : Hid (pv = false → ∀ x, x < q + 1 → P x = false) := fun e x hx => by
        cases hx' : P x
        · rfl
        · have := hs.out x hx' (by omega)
          rw [hpv, e] at this
          cases this
      clear hpv hq hq' H HM
      cases pv
      · go_wp2_with fail
        rw [HQ.out]
        refine KQ.out.mono ?_
        rintro e w1 ⟨rfl, u1⟩
        have U1 := U.trans u1
        clear u1 U KQ
        go_wp2
        go_roundw
        case rel => exact ⟨q + 1, k, by omega, by omega, by go_num, rfl, Lib.hid (hL.out trivial), h2, U1⟩
        case measure => simp [intOf]; omega
      · go_wp2_with fail
        rw [HQ.out]
        refine KQ.out.mono ?_
        rintro e w1 ⟨rfl, u1⟩
        have U1 := U.trans u1
        clear u1 U KQ
        go_wp2
        go_roundw
        case rel => exact ⟨i, q, by omega, by omega, rfl, rfl, h1, fun _ => HPV.out, U1⟩
        case measure => simp [intOf]; omega
    · obtain rfl : i = k := by omega
      clear H HM
      go_wp2
      go_ret
      exact ⟨i, rfl, ⟨hkn, h1.out, h2.out⟩, U⟩

set_option maxRecDepth 100000 in
set_option maxHeartbeats 1000000 in
theorem search_level1 {c1 c2 : Value} (P : Nat → Bool) (hmono : ∀ x y, x ≤ y → P x = true → P y = true) (n : Nat) (hn : n ≤ 1000) (w : World)
    (HF : ∀ (x : Nat) w', x < n → Up w w' → Calls Try.prog 112 #[.int .i64 x, c1, c2] w' fun e w'' => e = .returned (.bool (P x)) ∧ Up w' w'') :
    Calls Try.prog 84 #[.int .i64 n, (.func (.func 112) #[] #[c1, c2])] w fun e w' => ∃ r : Nat, e = .returned (.int .i64 r) ∧ S.First P n r ∧ Up w w' := by
  have H := Lib.hid HF
  have HM := Lib.hid hmono
  clear HF hmono
  go_enter Try.func84, Try.ntmps84
  go_wp2_with fail
  go_loopw [5, 6] (fun iv jv wr => ∃ i k : Nat, i ≤ k ∧ k ≤ n ∧ iv = .int .i64 i ∧ jv = .int .i64 k ∧ Hid (∀ x, x < i → P x = false) ∧ Hid (k < n → P k = true) ∧ Up w wr) (fun iv jv _ => (intOf jv - intOf iv).toNat)
  case atStart => exact ⟨0, n, Nat.zero_le _, Nat.le_refl _, rfl, rfl, fun x hx => absurd hx (by omega), fun h => absurd h (by omega), Up.refl _⟩
  case round =>
    obtain ⟨i, k, hik, hkn, rfl, rfl, h1, h2, U⟩ := hrel
    by_cases hlt : i < k
    · obtain ⟨q, hq⟩ : ∃ q : Nat, (i + k) / 2 = q := ⟨_, rfl⟩
      have hq' : ((i : Int) + (k : Int)) / 2 = (q : Int) := by omega
      have HQ := Lib.hid hq'
      have q1 : i ≤ q ∧ q < k := by omega
      have KQ := Lib.hid (H.out q wr (by omega) U)
      have hs : Hid (∀ x, P x = true → x ≤ q → P q = true) := fun x hx hl => HM.out x q hl hx
      obtain ⟨pv, hpv⟩ : ∃ pv, P q = pv := ⟨_, rfl⟩
      rw [hpv] at KQ
      have HPV := Lib.hid hpv
      have hL : Hid (pv = false → ∀ x, x < q + 1 → P x = false) := fun e x hx => by
        cases hx' : P x
        · rfl
        · have := hs.out x hx' (by omega)
          rw [hpv, e] at this
          cases this
      clear hpv hq hq' H HM
      cases pv
      · go_wp2_with fail
        rw [HQ.out]
        refine KQ.out.mono ?_
        rintro e w1 ⟨rfl, u1⟩
        have U1 := U.trans u1
        clear u1 U KQ
        go_wp2
        go_roundw
        case rel => exact ⟨q + 1, k, by omega, by omega, by go_num, rfl, Lib.hid (hL.out trivial), h2, U1⟩
        case measure => simp [intOf]; omega
      · go_wp2_with fail
        rw [HQ.out]
        refine KQ.out.mono ?_
        rintro e w1 ⟨rfl, u1⟩
        have U1 := U.trans u1
        clear u1 U KQ
        go_wp2
        go_roundw
        case rel => exact ⟨i, q, by omega, by omega, rfl, rfl, h1, fun _ => HPV.out, U1⟩
        case measure => simp [intOf]; omega
    · obtain rfl : i = k := by omega
      clear H HM
      go_wp2
      go_ret
      exact ⟨i, rfl, ⟨hkn, h1.out, h2.out⟩, U⟩
theorem S.enough_mono {e j far : Int} (he : 0 ≤ e) (hj : 0 ≤ j) : ∀ x y, x ≤ y → decide (far ≤ S.most e j x) = true → decide (far ≤ S.most e j y) = true := fun x y h hx => by
  rw [decide_eq_true_eq] at hx ⊢
  have := S.most_mono he hj h
  omega
set_option maxRecDepth 100000 in
theorem fewest_any {f s j dl dh p far : Int} (hr : S.ok f s j dl dh = true) (hp : p = 0 ∨ p = 1 ∨ p = 2) {m : Nat} {w : World} (K : S.Know w (.map (some m)) f s j) {r : Nat} (hf : S.First (fun x => decide (far ≤ S.most (S.part f s p) j x)) 201 r) :
    Calls Try.prog 61 #[CV m p far] w fun e w' => e = .returned (.tuple #[.int .i64 (if r ≤ 200 then r else 0), .int .i64 (if r ≤ 200 then 0 else 4)]) ∧ Up w w' := by
  have U := (Up.refl w).alloc (.cells #[.map (some m), .int .i64 p, .int .i64 far] 89)
  obtain ⟨p1, p2⟩ := S.part_bd hr p
  obtain ⟨_, _, h3, _⟩ := S.ok_iff.1 hr
  have KS := search_areEnough (cv := CV m p far) (fun x => decide (far ≤ S.most (S.part f s p) j x)) (S.enough_mono p1 (by omega)) 201 (by omega) (w.alloc (.cells #[.map (some m), .int .i64 p, .int .i64 far] 89)) (fun x w' hx u => areEnough_any hr hp (by omega) (K.up (U.trans u)))
  have KR := KS.mono (R' := fun e w' => e = .returned (.int .i64 r) ∧ Up (w.alloc (.cells #[.map (some m), .int .i64 p, .int .i64 far] 89)) w') (fun e w' ⟨r', he, h1, h2⟩ => ⟨by rw [he, h1.one hf], h2⟩)
  have HS := Lib.hid KR
  have hr2 := hf.1
  clear KS KR K hr hp hf
  by_cases h : r ≤ 200
  · rw [if_pos h, if_pos h]
    go_enter Try.func61, Try.ntmps61
    go_wp2_with fail
    refine HS.out.mono ?_
    rintro e w1 ⟨rfl, u1⟩
    go_wp2
    go_ret2
    exact ⟨rfl, U.trans u1⟩
  · rw [if_neg h, if_neg h]
    go_enter Try.func61, Try.ntmps61
    go_wp2_with fail
    refine HS.out.mono ?_
    rintro e w1 ⟨rfl, u1⟩
    go_wp2
    go_ret2
    exact ⟨rfl, U.trans u1⟩

end Go.Proofs.Ytcadpdbadgejfaa
