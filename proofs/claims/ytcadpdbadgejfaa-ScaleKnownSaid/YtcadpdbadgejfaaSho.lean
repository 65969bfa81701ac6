import Derived.Test.YtcadpdbadgejfaaExp
import Derived.Test.YtcadpdbadgejfaaAdC
/- The contract of Shown. -/
namespace Go.Proofs.Ytcadpdbadgejfaa
open Go.RowKit
attribute [local go_sem] Oper.semAt_some

theorem S.keeps_bd {f s j : Int} : ∀ (xs : List Int) (last : Int), S.keeps f s j last xs = true → ∀ k, k < xs.length → -s ≤ xs.getD k 0 ∧ xs.getD k 0 ≤ f
  | [], _, _, k, hk => by simp at hk
  | x :: xs, last, h, k, hk => by
    rw [S.keeps] at h
    simp only [Bool.and_eq_true, decide_eq_true_eq] at h
    cases k with
    | zero => rw [List.getD_cons_zero]; omega
    | succ k => rw [List.getD_cons_succ]; exact S.keeps_bd xs x h.2 k (by simpa using hk)

/-- what the scale shows behind k ticks -/
def S.shows (fr : Int) (xs : List Int) (k : Nat) : Int := fr + 1000 * k + (xs.take k).sum
theorem S.shows_zero (fr : Int) (xs : List Int) : S.shows fr xs 0 = fr := by simp [S.shows]
theorem S.shows_succ (fr : Int) {xs : List Int} {k : Nat} (hk : k < xs.length) : S.shows fr xs (k + 1) = S.shows fr xs k + 1000 + xs.getD k 0 := by
  unfold S.shows
  rw [S.tot_take xs k hk]
  omega

section
variable {f s j dl dh : Int}
set_option maxRecDepth 100000 in
theorem Shown_no {v : Value} (w : World) (h : S.ok f s j dl dh = false) (fr : Int) : Calls Try.prog 24 #[RV f s j dl dh, .int .i64 fr, v] w fun e w' => e = .returned (.tuple #[.slice none 0 0, .int .i64 40]) ∧ Up w w' := by
  have U0 := (Up.refl w).alloc (.cells #[.int .i64 f, .int .i64 s, .int .i64 j, .int .i64 dl, .int .i64 dh] 25)
  have HN := Lib.hid (fun w => newRule_no w h)
  clear h
  go_enter Try.func24, Try.ntmps24
  go_wp2_with fail
  refine (HN.out _).mono ?_
  rintro e w1 ⟨rfl, u1⟩
  go_wp2
  go_ret2
  exact ⟨rfl, (U0.trans u1).alloc _⟩
set_option maxRecDepth 100000 in
theorem Shown_ask1 {v : Value} (w : World) (h : S.ok f s j dl dh = true) (fr : Int) (hf : ¬ (0 ≤ fr ∧ fr ≤ 10000000)) : Calls Try.prog 24 #[RV f s j dl dh, .int .i64 fr, v] w fun e w' => e = .returned (.tuple #[.slice none 0 0, .int .i64 41]) ∧ Up w w' := by
  have U0 := (Up.refl w).alloc (.cells #[.int .i64 f, .int .i64 s, .int .i64 j, .int .i64 dl, .int .i64 dh] 25)
  have HN := Lib.hid (fun w => newRule_yes w h)
  have HW := Lib.hid (fun w => within_no fr 0 10000000 w hf)
  clear h hf
  go_enter Try.func24, Try.ntmps24
  go_wp2_with fail
  refine (HN.out _).mono ?_
  rintro e w1 ⟨rfl, u1⟩
  go_wp2_with fail
  refine (HW.out _).mono ?_
  rintro e w2 ⟨rfl, rfl⟩
  go_wp2
  go_ret2
  exact ⟨rfl, (U0.trans u1).alloc _⟩
set_option maxRecDepth 100000 in
theorem Shown_ask2 {v : Value} {xs : List Int} (w : World) (h : S.ok f s j dl dh = true) (fr : Int) (f1 : 0 ≤ fr) (f2 : fr ≤ 10000000) (I : Ints w v xs) (hk : (decide ((xs.length : Int) ≤ 200) && S.keeps f s j 0 xs) = false) : Calls Try.prog 24 #[RV f s j dl dh, .int .i64 fr, v] w fun e w' => e = .returned (.tuple #[.slice none 0 0, .int .i64 41]) ∧ Up w w' := by
  have U0 := (Up.refl w).alloc (.cells #[.int .i64 f, .int .i64 s, .int .i64 j, .int .i64 dl, .int .i64 dh] 25)
  have HN := Lib.hid (fun w => newRule_yes w h)
  have HW := Lib.hid (fun w => within_yes fr 0 10000000 w f1 f2)
  have HK := Lib.hid (fun w' (u : Up w w') => by have := keeps_any h (I.up u) 200; rwa [hk] at this)
  clear h f1 f2 hk I
  go_enter Try.func24, Try.ntmps24
  go_wp2_with fail
  refine (HN.out _).mono ?_
  rintro e w1 ⟨rfl, u1⟩
  have U1 := (U0.trans u1).alloc (.cells #[.int .i64 f, .int .i64 s, .int .i64 j, .int .i64 dl, .int .i64 dh] 79)
  clear u1 U0 HN
  go_wp2_with fail
  refine (HW.out _).mono ?_
  rintro e w2 ⟨rfl, rfl⟩
  go_wp2_with fail
  refine (HK.out _ U1).mono ?_
  rintro e w3 ⟨rfl, u3⟩
  go_wp2
  go_ret2
  exact ⟨rfl, U1.trans u3⟩
set_option maxRecDepth 100000 in
set_option maxHeartbeats 1000000 in
theorem Shown_yes {v : Value} {xs : List Int} (w : World) (h : S.ok f s j dl dh = true) (fr : Int) (f1 : 0 ≤ fr) (f2 : fr ≤ 10000000) (I : Ints w v xs) (hk : (decide ((xs.length : Int) ≤ 200) && S.keeps f s j 0 xs) = true) : Calls Try.prog 24 #[RV f s j dl dh, .int .i64 fr, v] w fun e w' => ∃ v', e = .returned (.tuple #[v', .int .i64 0]) ∧ Up w w' ∧ Ints w' v' ((List.range (xs.length + 1)).map (S.shows fr xs)) := by
  have U0 := (Up.refl w).alloc (.cells #[.int .i64 f, .int .i64 s, .int .i64 j, .int .i64 dl, .int .i64 dh] 25)
  obtain ⟨⟨q1, q2⟩, ⟨s1, s2⟩, _, _⟩ := S.ok_iff.1 h
  have HN := Lib.hid (fun w => newRule_yes w h)
  have HW := Lib.hid (fun w => within_yes fr 0 10000000 w f1 f2)
  have HK := Lib.hid (fun w' (u : Up w w') => by have := keeps_any h (I.up u) 200; rwa [hk] at this)
  obtain ⟨hn, hkk⟩ := (Bool.and_eq_true _ _).mp hk
  have hn := of_decide_eq_true hn
  have HB := Lib.hid (fun k (hk : k < xs.length) => show -500 ≤ xs.getD k 0 ∧ xs.getD k 0 ≤ 500 by have := S.keeps_bd xs 0 hkk k hk; omega)
  have HS := Lib.hid (fun k (hk : k < xs.length) => S.shows_succ fr hk)
  obtain ⟨i0, hi, hz0, hz1, hz2⟩ := info_parts Try.infoInt
  have hU := Try.underlying26
  obtain ⟨a, c, rfl, _, hl, hm⟩ := I.is
  have HM := Lib.hid hm
  clear h hk hkk I hm q1 q2 s1 s2
  go_enter Try.func24, Try.ntmps24
  go_wp2_with fail
  refine (HN.out _).mono ?_
  rintro e w1 ⟨rfl, u1⟩
  have U1 := (U0.trans u1).alloc (.cells #[.int .i64 f, .int .i64 s, .int .i64 j, .int .i64 dl, .int .i64 dh] 79)
  clear u1 U0 HN
  go_wp2_with fail
  refine (HW.out _).mono ?_
  rintro e w2 ⟨rfl, rfl⟩
  go_wp2_with fail
  refine (HK.out _ U1).mono ?_
  rintro e w3 ⟨rfl, u3⟩
  have U3 := U1.trans u3
  have R0 := World.ownsRow_lit (base := w3.heap.size) (e := 3) (size := 1) w3 #[.int .i64 fr] 1 (Nat.le_refl _) (by unfold maxLen; omega) rfl
  have z3 := U3.size
  have UA := U3.alloc (.cells #[.int .i64 fr] 3)
  clear U1 HW HK
  go_wp2_with fail
  go_loopw [1, 10, 34] (fun b l i wr => ∃ (k : Nat) (x : Int), k ≤ xs.length ∧ i = .int .i64 k ∧ b = .int .i64 x ∧ x = S.shows fr xs k ∧ -100000 ≤ x ∧ x ≤ 10000000 + 1500 * k ∧ -500 * k ≤ x ∧ wr.ownsRow w3.heap.size 3 1 l (k + 1) (((List.range (k + 1)).map (S.shows fr xs)).map (Value.int .i64)) ∧ Up w wr ∧ w3.heap.size ≤ wr.heap.size) (fun _ _ i _ => xs.length - (intOf i).toNat)
  case atStart => exact ⟨0, fr, Nat.zero_le _, rfl, rfl, (S.shows_zero fr xs).symm, by omega, by omega, by omega, by simpa [S.shows_zero] using R0, UA, by simp⟩
  case round =>
    obtain ⟨k, x, hk, rfl, rfl, hx, b1, b2, b3, hown, V, zr⟩ := hrel
    have hX := Lib.hid hx
    clear hx
    by_cases hlt : k < xs.length
    · obtain ⟨g, off, rfl, gl, hc⟩ := HM.out (by omega)
      have hcell := (V.facts.1 g _ gl).trans (hc k hlt)
      have st := HS.out k hlt
      obtain ⟨y1, y2⟩ := HB.out k hlt
      generalize xs.getD k 0 = y at *
      have HX := Lib.hid (hX.out ▸ st)
      clear hc st
      obtain ⟨x', hx'⟩ : ∃ x', x + 1000 + y = x' := ⟨_, rfl⟩
      have es : wrap64 ([x, 1000, y] : List Int).sum = x' := by
        rw [← hx', wrap_in (by unfold D.in64; simp; omega)]; simp; omega
      have KS := sum_any (Ints.new (cap := 3) (xs := [x, 1000, y]) (blk_new wr (.cells #[.int .i64 x, .int .i64 1000, .int .i64 y] 3) _ rfl) (by simp) (by simp) (fun j hj => by
        match j, hj with
        | 0, _ => rfl
        | 1, _ => rfl
        | 2, _ => rfl))
      rw [es] at KS
      have KH := Lib.hid KS
      have HL := Lib.hid (show ((List.range (k + 1 + 1)).map (S.shows fr xs)).map (Value.int .i64) = ((List.range (k + 1)).map (S.shows fr xs)).map (Value.int .i64) ++ [.int .i64 x'] by rw [List.range_succ, List.map_append, List.map_append, List.map_singleton, List.map_singleton, HX.out, hx'])
      have HX' := Lib.hid (show x' = S.shows fr xs (k + 1) by rw [HX.out, hx'])
      clear es KS HX
      go_wp2_with fail
      obtain ⟨W1, hW1⟩ : ∃ W1, wr.alloc (.cells #[.int .i64 x, .int .i64 1000, .int .i64 y] 3) = W1 := ⟨_, rfl⟩
      have V1 : Up w W1 := by rw [← hW1]; exact V.alloc _
      have hown1 := hown.alloc (.cells #[.int .i64 x, .int .i64 1000, .int .i64 y] 3)
      rw [hW1] at hown1
      have zr1 : w3.heap.size ≤ W1.heap.size := by rw [← hW1]; simp; omega
      have KH1 := KH.out
      rw [hW1] at KH1
      try rw [hW1]
      clear hW1 KH V hown zr
      refine KH1.mono ?_
      rintro e w4 ⟨rfl, rfl⟩
      clear KH1
      go_wp2_with (at_builtin; refine wpList_append_own _ rfl (.tmp 42) (.tmp 44) 26 rfl w3.heap.size 3 i0 (.int .i64 0) 1 8 hU hi hz0 hz1 hz2 rfl (by decide) _ (k + 1) _ rfl (hown1.alloc _) ⟨W1.heap.size, 0, none⟩ 1 1 [.int .i64 x'] rfl rfl (cell_one_new _ _ _) (by simp [Value.oneCell']) (by unfold maxLen; omega) (by omega) (by simp; omega) ?_; intro v' w5 hown5 hgrow5 hv5)
      have B1 : Below w3.heap.size W1 w5 := ((Below.refl w3.heap.size W1).alloc zr1 _).grown hgrow5 (by simp; omega) (fun k e => row_base hown1 k e)
      have U5 := Below.trans V1 (B1.mono (by omega))
      go_roundw
      case rel => exact ⟨k + 1, x', by omega, by go_num, rfl, HX'.out, by omega, by omega, by omega, by rw [HL.out]; exact hown5, U5, by have := B1.size; omega⟩
      case measure => simp [intOf]; omega
    · have hke : k = xs.length := by omega
      subst hke
      obtain ⟨sa, cap, rfl, hc1, hc2⟩ := row_val hown
      have hI := Lib.hid (ints_of_row hown (by omega)).clip
      unfold maxLen at hc2
      clear hown hX
      go_wp2
      go_ret2
      exact ⟨_, rfl, V, hI.out⟩
end

end Go.Proofs.Ytcadpdbadgejfaa
