import Derived.Test.YtckjggkikpgidaaRul
/- The contracts of scale's keeps, endsSmoothly and isPlan. -/
namespace Go.Proofs.Ytckjggkikpgidaa
open Go.RowKit

theorem S.keeps_drop {f s j : Int} {xs : List Int} {k : Nat} (hk : k < xs.length) (last : Int) : S.keeps f s j last (xs.drop k) = (inB (xs.getD k 0) (-s) f && (inB (xs.getD k 0 - last) (-j) j && S.keeps f s j (xs.getD k 0) (xs.drop (k + 1)))) := by
  rw [List.drop_eq_getElem_cons hk, S.keeps, List.getD_eq_getElem?_getD, List.getElem?_eq_getElem hk]
  simp only [inB, Option.getD_some, Bool.decide_and, Bool.and_assoc]

set_option maxRecDepth 100000 in
set_option maxHeartbeats 1000000 in
theorem keeps_any {f s j dl dh : Int} (hr : S.ok f s j dl dh = true) {v : Value} {xs : List Int} {w : World} (I : Ints w v xs) (most : Int) :
    Calls Try.prog 70 #[RV f s j dl dh, v, .int .i64 most] w fun e w' => e = .returned (.bool (decide ((xs.length : Int) ≤ most) && S.keeps f s j 0 xs)) ∧ Up w w' := by
  obtain ⟨⟨f1, f2⟩, ⟨s1, s2⟩, ⟨j1, j2⟩, hd⟩ := S.ok_iff.1 hr
  obtain ⟨a, c, rfl, _, hl, hm⟩ := I.is
  have HM := Lib.hid hm
  have U := (Up.refl w).alloc (.cells #[.int .i64 f, .int .i64 s, .int .i64 j, .int .i64 dl, .int .i64 dh] 79)
  clear hm I hr hd
  by_cases hlen : (xs.length : Int) ≤ most
  · rw [decide_eq_true hlen, Bool.true_and]
    go_enter Try.func70, Try.ntmps70
    go_wp2_with fail
    go_loopw [7, 16] (fun b i wr => ∃ (k : Nat) (last : Int), k ≤ xs.length ∧ i = .int .i64 k ∧ b = .int .i64 last ∧ -500 ≤ last ∧ last ≤ 500 ∧ Hid (S.keeps f s j 0 xs = S.keeps f s j last (xs.drop k)) ∧ mblk wr w.heap.size = some (.cells #[.int .i64 f, .int .i64 s, .int .i64 j, .int .i64 dl, .int .i64 dh] 79 (0, 0)) ∧ Up w wr) (fun _ i _ => xs.length - (intOf i).toNat)
    case atStart => exact ⟨0, 0, Nat.zero_le _, rfl, rfl, by omega, by omega, rfl, blk_new _ _ _ rfl, U⟩
    case round =>
      obtain ⟨k, last, hk, rfl, rfl, la, lb, hK, c1, V⟩ := hrel
      by_cases hlt : k < xs.length
      · obtain ⟨g, off, rfl, gl, hc⟩ := HM.out (by omega)
        have hcell := (V.facts.1 g _ gl).trans (hc k hlt)
        have st := S.keeps_drop (f := f) (s := s) (j := j) hlt last
        generalize xs.getD k 0 = x at *
        clear hc
        by_cases h1 : -s ≤ x ∧ x ≤ f
        · obtain ⟨a1, a2⟩ := h1
          rw [inB_yes a1 a2, Bool.true_and] at st
          have e1 : IntKind.i64.wrap (x - last) = x - last := IntWalk.i64_in _ (by omega)
          by_cases h2 : -j ≤ x - last ∧ x - last ≤ j
          · obtain ⟨b1, b2⟩ := h2
            rw [inB_yes b1 b2, Bool.true_and] at st
            have h3 : Hid (S.keeps f s j 0 xs = S.keeps f s j x (xs.drop (k + 1))) := hK.out.trans st
            clear hK st e1
            go_wp2_with (go_at_call 65; refine (within_yes _ _ _ _ (by omega) (by omega)).mono ?_; rintro e w1 ⟨rfl, rfl⟩)
            go_roundw
            case rel => exact ⟨k + 1, x, by omega, by go_num, rfl, by omega, by omega, h3, c1, V⟩
            case measure => simp [intOf]; omega
          · rw [inB_no h2, Bool.false_and] at st
            have h3 := Lib.hid (hK.out.trans st)
            clear hK st e1
            go_wp2_with (first | (go_at_call 65; refine (within_yes _ _ _ _ (by omega) (by omega)).mono ?_; rintro e w1 ⟨rfl, rfl⟩) | (go_at_call 65; refine (within_no _ _ _ _ (by omega)).mono ?_; rintro e w1 ⟨rfl, rfl⟩))
            go_ret
            exact ⟨by rw [h3.out]; rfl, V⟩
        · rw [inB_no h1, Bool.false_and] at st
          have h3 := Lib.hid (hK.out.trans st)
          clear hK st
          go_wp2_with (go_at_call 65; refine (within_no _ _ _ _ (by omega)).mono ?_; rintro e w1 ⟨rfl, rfl⟩)
          go_ret
          exact ⟨by rw [h3.out]; rfl, V⟩
      · have h3 : Hid (S.keeps f s j 0 xs = true) := by
          have := hK.out
          rw [List.drop_eq_nil_of_le (by omega)] at this
          exact this
        clear hK
        go_wp2
        go_ret
        exact ⟨by rw [h3.out]; rfl, V⟩
  · rw [decide_eq_false hlen, Bool.false_and]
    have hlt : most < (xs.length : Int) := by omega
    clear hlen
    go_enter Try.func70, Try.ntmps70
    go_wp2
    go_ret
    exact ⟨rfl, U⟩

set_option maxRecDepth 100000 in
theorem smooth_any {f s j dl dh : Int} (hr : S.ok f s j dl dh = true) {v : Value} {xs : List Int} {w : World} (I : Ints w v xs) :
    Calls Try.prog 82 #[RV f s j dl dh, v] w fun e w' => e = .returned (.bool (S.keeps f s j 0 (xs.drop (xs.length - 1)))) ∧ Up w w' := by
  have U := (Up.refl w).alloc (.cells #[.int .i64 f, .int .i64 s, .int .i64 j, .int .i64 dl, .int .i64 dh] 79)
  obtain ⟨a, c, rfl, hc, hl, hm⟩ := I.is
  by_cases h0 : xs.length = 0
  · have hx : xs = [] := List.length_eq_zero_iff.1 h0
    subst hx
    have hM : ∀ (ts : Array TypeId) (t' : TypeId) (w : World), (Builtin.max_ ts t' #[.int .i64 (-1), .int .i64 0]).run Try.prog w = .ok (.int .i64 0) w := fun ts t' w => by rw [run_max_int2]; rfl
    have h00 : ([] : List Int).length = 0 := rfl
    rw [h00]
    clear I hm hl hc h0 h00
    go_enter Try.func82, Try.ntmps82
    go_wp2_with fail
    refine (keeps_any hr (xs := []) ⟨_, _, rfl, Nat.le_refl _, by simp, fun h => by simp at h⟩ 1).mono ?_
    rintro e w1 ⟨rfl, u1⟩
    go_wp2
    go_ret
    exact ⟨rfl, U.trans u1⟩
  · have hM : ∀ (ts : Array TypeId) (t' : TypeId) (w : World), (Builtin.max_ ts t' #[.int .i64 ((xs.length : Int) - 1), .int .i64 0]).run Try.prog w = .ok (.int .i64 ((xs.length : Int) - 1)) w := fun ts t' w => by
      have e : (if 0 > (xs.length : Int) - 1 then 0 else (xs.length : Int) - 1) = (xs.length : Int) - 1 := by split <;> omega
      rw [run_max_int2, e]
    have KD : ∀ w', Up w w' → Calls Try.prog 70 #[RV f s j dl dh, .slice (a.map fun x => x.add (xs.length - 1)) (xs.length - (xs.length - 1)) (xs.length - (xs.length - 1)), .int .i64 1] w' fun e w'' => e = .returned (.bool (S.keeps f s j 0 (xs.drop (xs.length - 1)))) ∧ Up w' w'' := fun w' u => by
      have := keeps_any hr ((I.drop (xs.length - 1)).up u) 1
      rw [decide_eq_true (by rw [List.length_drop]; omega), Bool.true_and] at this
      exact this
    have HK := Lib.hid KD
    generalize S.keeps f s j 0 (xs.drop (xs.length - 1)) = q at *
    clear KD
    clear I hm
    go_enter Try.func82, Try.ntmps82
    go_wp2_with fail
    refine (HK.out _ U).mono ?_
    rintro e w1 ⟨rfl, u1⟩
    go_wp2
    go_ret
    exact ⟨rfl, U.trans u1⟩

theorem S.smooth_last {f s j : Int} {xs : List Int} : S.keeps f s j 0 (xs.drop (xs.length - 1)) = match xs.getLast? with | none => true | some x => inB x (-s) f && inB x (-j) j := by
  cases h : xs.getLast? with
  | none =>
    rw [List.getLast?_eq_none_iff] at h
    subst h; rfl
  | some x =>
    have hl : 0 < xs.length := by
      cases xs with
      | nil => simp at h
      | cons _ _ => simp
    rw [List.getLast?_eq_getElem?, List.getElem?_eq_getElem (by omega)] at h
    injection h with h
    rw [S.keeps_drop (by omega), List.drop_eq_nil_of_le (by omega), List.getD_eq_getElem?_getD, List.getElem?_eq_getElem (by omega), Option.getD_some, h]
    simp [S.keeps]
/-- is a list a plan? -/
def S.plans (f s j off : Int) (xs : List Int) : Bool := decide (xs.length ≤ 200) && (S.keeps f s j 0 xs && (S.keeps f s j 0 (xs.drop (xs.length - 1)) && decide (wrap64 xs.sum = -off)))

set_option maxRecDepth 100000 in
set_option maxHeartbeats 1000000 in
theorem isPlan_any {f s j dl dh : Int} (hr : S.ok f s j dl dh = true) (off : Int) (o1 : -20000 ≤ off) (o2 : off ≤ 20000) {v : Value} {xs : List Int} {w : World} (I : Ints w v xs) :
    Calls Try.prog 56 #[RV f s j dl dh, .int .i64 off, v] w fun e w' => e = .returned (.bool (S.plans f s j off xs)) ∧ Up w w' := by
  have U := (Up.refl w).alloc (.cells #[.int .i64 f, .int .i64 s, .int .i64 j, .int .i64 dl, .int .i64 dh] 79)
  have K1 := Lib.hid (keeps_any hr (I.up U) 200)
  have K2 := Lib.hid (fun w' (u : Up w w') => smooth_any hr (I.up u))
  have K3 := Lib.hid (fun w' (u : Up w w') => sum_any (I.up u))
  have E := Lib.hid (show S.plans f s j off xs = ((decide ((xs.length : Int) ≤ 200) && S.keeps f s j 0 xs) && (S.keeps f s j 0 (xs.drop (xs.length - 1)) && decide (wrap64 xs.sum = -off))) by
    unfold S.plans
    rw [Bool.and_assoc, decide_eq_decide.2 (show xs.length ≤ 200 ↔ (xs.length : Int) ≤ 200 by omega)])
  rw [E.out]
  clear E I hr
  generalize (decide ((xs.length : Int) ≤ 200) && S.keeps f s j 0 xs) = p1 at *
  generalize S.keeps f s j 0 (xs.drop (xs.length - 1)) = p2 at *
  generalize wrap64 xs.sum = t at *
  have w1' : IntKind.i64.wrap (-off) = -off := IntWalk.i64_in _ (by omega)
  cases p1
  · go_enter Try.func56, Try.ntmps56
    go_wp2_with fail
    refine K1.out.mono ?_
    rintro e w1 ⟨rfl, u1⟩
    go_wp2
    go_ret
    exact ⟨rfl, U.trans u1⟩
  · have k0 := blk_new w (.cells #[.int .i64 f, .int .i64 s, .int .i64 j, .int .i64 dl, .int .i64 dh] 79) _ rfl
    cases p2
    · go_enter Try.func56, Try.ntmps56
      go_wp2_with fail
      refine K1.out.mono ?_
      rintro e w1 ⟨rfl, u1⟩
      have k1 := u1.blk k0
      have U1 := U.trans u1
      clear u1 k0 U
      go_wp2_with fail
      refine (K2.out _ U1).mono ?_
      rintro e w2 ⟨rfl, u2⟩
      go_wp2
      go_ret
      exact ⟨rfl, U1.trans u2⟩
    · go_enter Try.func56, Try.ntmps56
      go_wp2_with fail
      refine K1.out.mono ?_
      rintro e w1 ⟨rfl, u1⟩
      have k1 := u1.blk k0
      have U1 := U.trans u1
      clear u1 k0 U
      go_wp2_with fail
      refine (K2.out _ U1).mono ?_
      rintro e w2 ⟨rfl, u2⟩
      have U2 := U1.trans u2
      clear u2 k1 U1
      go_wp2_with fail
      refine (K3.out _ U2).mono ?_
      rintro e w3 ⟨rfl, rfl⟩
      go_wp2
      go_ret
      exact ⟨ret_bool (a := (t == -off)) (by rw [Bool.eq_iff_iff]; simp), U2⟩

end Go.Proofs.Ytckjggkikpgidaa
