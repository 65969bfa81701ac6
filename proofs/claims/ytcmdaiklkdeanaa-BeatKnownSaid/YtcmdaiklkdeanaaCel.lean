import Derived.Test.YtcmdaiklkdeanaaNum
/- Is a cellar one: the contracts of its questions, of areAll and the library functions below it, and of newCellar. -/
namespace Go.Proofs.Ytcmdaiklkdeanaa
open Go.RowKit

/-- a slice of things of so many numbers, in memory -/
structure Tab {α : Type} (k : Nat) (enc : α → Nat → Int) (d : α) (w : World) (v : Value) (xs : List α) : Prop where
  mk :: (is : ∃ a c, v = .slice a xs.length c ∧ xs.length ≤ c ∧ xs.length ≤ 9223372036854775807 ∧ (0 < xs.length → ∃ g off, a = some ⟨g, off, none⟩ ∧ g < w.heap.size ∧ ∀ j, j < xs.length → ∀ i, i < k → w.cell? ⟨g, off + j * k + i, none⟩ = some (.int .i64 (enc (xs.getD j d) i))))
section
variable {α : Type} {k : Nat} {enc : α → Nat → Int} {d : α} {w w' : World} {xs : List α}
theorem Tab.up {v : Value} (h : Tab k enc d w v xs) (u : Up w w') : Tab k enc d w' v xs := by
  obtain ⟨a, c, e, hc, hl, hm⟩ := h.is
  refine ⟨a, c, e, hc, hl, fun h0 => ?_⟩
  obtain ⟨g, off, e1, e2, e3⟩ := hm h0
  exact ⟨g, off, e1, by have := u.size; omega, fun j hj i hi => (u.facts.1 g _ e2).trans (e3 j hj i hi)⟩
theorem Tab.nil (w : World) : Tab k enc d w (.slice none 0 0) [] := ⟨none, 0, rfl, Nat.le_refl _, by simp, fun h => by simp at h⟩
theorem Tab.new {g cap : Nat} {cs : Array Value} {t : TypeId} {fr : Nat × Nat} (h : mblk w g = some (.cells cs t fr)) (hc : xs.length ≤ cap) (hl : xs.length ≤ 9223372036854775807) (hx : ∀ j, j < xs.length → ∀ i, i < k → cs[j * k + i]? = some (.int .i64 (enc (xs.getD j d) i))) : Tab k enc d w (.slice (some ⟨g, 0, none⟩) xs.length cap) xs :=
  ⟨_, _, rfl, hc, hl, fun _ => ⟨g, 0, rfl, blk_lt h, fun j hj i hi => by rw [cellB h, Nat.zero_add]; exact hx j hj i hi⟩⟩
theorem Tab.len {a : Option Addr} {n c : Nat} (I : Tab k enc d w (.slice a n c) xs) : n = xs.length := by
  obtain ⟨a', c', e, hc, hl, hm⟩ := I.is
  injection e
theorem Tab.max {v : Value} (I : Tab k enc d w v xs) : xs.length ≤ 9223372036854775807 := by
  obtain ⟨a', c', e, hc, hl, hm⟩ := I.is
  exact hl
theorem Tab.sl {v : Value} (I : Tab k enc d w v xs) : ∃ a n c, v = .slice a n c ∧ n = xs.length ∧ n ≤ c := by
  obtain ⟨a', c', e, hc, hl, hm⟩ := I.is
  exact ⟨_, _, _, e, rfl, hc⟩
theorem all_drop' {p : α → Bool} {k : Nat} (hk : k < xs.length) : (xs.drop k).all p = (p (xs.getD k d) && (xs.drop (k + 1)).all p) := by
  rw [List.drop_eq_getElem_cons hk, List.all_cons, List.getD_eq_getElem?_getD, List.getElem?_eq_getElem hk]
  rfl
end
/-- spans, openings, comparisons, ties, as numbers -/
def T.encS : Int × Int → Nat → Int
  | (l, _), 0 => l
  | (_, h), _ => h
def T.encO : Int × Int × Int × Int → Nat → Int
  | (c, _, _, _), 0 => c
  | (_, h, _, _), 1 => h
  | (_, _, l, _), 2 => l
  | (_, _, _, u), _ => u
def T.encP : Int × Int × Int × Int × Int → Nat → Int
  | (h, _, _, _, _), 0 => h
  | (_, a, _, _, _), 1 => a
  | (_, _, b, _, _), 2 => b
  | (_, _, _, l, _), 3 => l
  | (_, _, _, _, u), _ => u
abbrev Sps := Tab 2 T.encS (0, 0)
abbrev Ops := Tab 4 T.encO (0, 0, 0, 0)
abbrev Prs := Tab 5 T.encP (0, 0, 0, 0, 0)
/-- is a clock, an hour one of a cellar? -/
def T.isTwo (n : Nat) (a b : Int) : Bool := inB a 0 (n - 1) && (!(a == b) && (b == -1 || inB b 0 (n - 1)))
def T.clkP (n : Nat) (k : Int) : Bool := inB k 0 ((n : Int) - 1)
def T.hrP (H : Int) (k : Int) : Bool := inB k 0 H
def T.rateOk (s : Int × Int) : Bool := S.spanOk s.1 s.2 1000
def T.openOk (H : Int) (n : Nat) (x : Int × Int × Int × Int) : Bool := inB x.1 0 (n - 1) && (inB x.2.1 0 (H - 1) && S.spanOk x.2.2.1 x.2.2.2 100000)
def T.pairOk (H : Int) (n : Nat) (x : Int × Int × Int × Int × Int) : Bool := inB x.1 0 H && (T.isTwo n x.2.1 x.2.2.1 && S.spanOk x.2.2.2.1 x.2.2.2.2 200000)

section
variable {H : Int} {aR aO aP : Option Addr} {nR cR nO cO nP cP : Nat} {b0 b1 b2 b3 b4 : Bool}

set_option maxRecDepth 100000 in
theorem isClock_any (k : Int) (w : World) (hn : nR ≤ 9223372036854775807) : Calls Try.prog 69 #[(CeV H (.slice aR nR cR) (.slice aO nO cO) (.slice aP nP cP) b0 b1 b2 b3 b4), .int .i64 k] w fun e w' => e = .returned (.bool (inB k 0 (nR - 1))) ∧ Up w w' := by
  have U := (Up.refl w).alloc (.cells (CeC H (.slice aR nR cR) (.slice aO nO cO) (.slice aP nP cP) b0 b1 b2 b3 b4) 79)
  have HW := Lib.hid (fun w => within_any k 0 ((nR : Int) - 1) w)
  generalize inB k 0 ((nR : Int) - 1) = q at *
  go_enter Try.func69, Try.ntmps69
  go_wp2_with fail
  refine (HW.out _).mono ?_
  rintro e w1 ⟨rfl, rfl⟩
  go_wp2
  go_ret
  exact ⟨rfl, U⟩
set_option maxRecDepth 100000 in
theorem isHour_any (k : Int) (w : World) : Calls Try.prog 70 #[(CeV H (.slice aR nR cR) (.slice aO nO cO) (.slice aP nP cP) b0 b1 b2 b3 b4), .int .i64 k] w fun e w' => e = .returned (.bool (inB k 0 H)) ∧ Up w w' := by
  have U := (Up.refl w).alloc (.cells (CeC H (.slice aR nR cR) (.slice aO nO cO) (.slice aP nP cP) b0 b1 b2 b3 b4) 79)
  have HW := Lib.hid (fun w => within_any k 0 H w)
  generalize inB k 0 H = q at *
  go_enter Try.func70, Try.ntmps70
  go_wp2_with fail
  refine (HW.out _).mono ?_
  rintro e w1 ⟨rfl, rfl⟩
  go_wp2
  go_ret
  exact ⟨rfl, U⟩
set_option maxRecDepth 100000 in
theorem isRate_any (l h : Int) (w : World) : Calls Try.prog 89 #[SpV l h] w fun e w' => e = .returned (.bool (T.rateOk (l, h))) ∧ Up w w' := by
  have U := (Up.refl w).alloc (.cells #[.int .i64 l, .int .i64 h] 34)
  have HW := Lib.hid (fun w => isSpan_any l h 1000 w (by omega) (by omega))
  rw [show T.rateOk (l, h) = S.spanOk l h 1000 from rfl]
  generalize S.spanOk l h 1000 = q at *
  go_enter Try.func89, Try.ntmps89
  go_wp2_with fail
  refine (HW.out _).mono ?_
  rintro e w1 ⟨rfl, u1⟩
  go_wp2
  go_ret
  exact ⟨rfl, U.trans u1⟩
set_option maxRecDepth 100000 in
set_option maxHeartbeats 1000000 in
theorem areTwo_any (a b : Int) (w : World) (hn : nR ≤ 9223372036854775807) : Calls Try.prog 95 #[(CeV H (.slice aR nR cR) (.slice aO nO cO) (.slice aP nP cP) b0 b1 b2 b3 b4), .int .i64 a, .int .i64 b] w fun e w' => e = .returned (.bool (T.isTwo nR a b)) ∧ Up w w' := by
  have U := (Up.refl w).alloc (.cells (CeC H (.slice aR nR cR) (.slice aO nO cO) (.slice aP nP cP) b0 b1 b2 b3 b4) 79)
  have k0 := blk_new w (.cells (CeC H (.slice aR nR cR) (.slice aO nO cO) (.slice aP nP cP) b0 b1 b2 b3 b4) 79) _ rfl
  have HA := Lib.hid (fun w => isClock_any (H := H) (aR := aR) (aO := aO) (aP := aP) (nR := nR) (cR := cR) (nO := nO) (cO := cO) (nP := nP) (cP := cP) (b0 := b0) (b1 := b1) (b2 := b2) (b3 := b3) (b4 := b4) a w hn)
  have HB := Lib.hid (fun w => isClock_any (H := H) (aR := aR) (aO := aO) (aP := aP) (nR := nR) (cR := cR) (nO := nO) (cO := cO) (nP := nP) (cP := cP) (b0 := b0) (b1 := b1) (b2 := b2) (b3 := b3) (b4 := b4) b w hn)
  have E := Lib.hid (show T.isTwo nR a b = (inB a 0 (nR - 1) && (!(a == b) && (b == -1 || inB b 0 (nR - 1)))) from rfl)
  generalize T.isTwo nR a b = R at *
  generalize inB a 0 ((nR : Int) - 1) = q at *
  generalize inB b 0 ((nR : Int) - 1) = q' at *
  have lt := blk_lt k0
  cases q
  case false =>
    rw [Bool.false_and] at E
    go_enter Try.func95, Try.ntmps95
    go_wp2_with fail
    refine (HA.out _).mono ?_
    rintro e w1 ⟨rfl, u1⟩
    go_wp2
    go_ret
    exact ⟨by rw [E.out]; rfl, U.trans u1⟩
  case true =>
    by_cases h1 : a = b
    · have e1 : (a == b) = true := beq_iff_eq.2 h1
      rw [e1, Bool.not_true, Bool.false_and, Bool.and_false] at E
      have e2 : (a != b) = false := by simp [bne, e1]
      clear h1
      go_enter Try.func95, Try.ntmps95
      go_wp2_with fail
      refine (HA.out _).mono ?_
      rintro e w1 ⟨rfl, u1⟩
      go_wp2
      go_ret
      exact ⟨by rw [E.out]; rfl, U.trans u1⟩
    · have e1 : (a == b) = false := beq_eq_false_iff_ne.2 h1
      rw [e1, Bool.not_false, Bool.true_and, Bool.true_and] at E
      have e2 : (a != b) = true := by simp [bne, e1]
      clear h1
      by_cases h2 : b = -1
      · subst h2
        rw [beq_self_eq_true, Bool.true_or] at E
        go_enter Try.func95, Try.ntmps95
        go_wp2_with fail
        refine (HA.out _).mono ?_
        rintro e w1 ⟨rfl, u1⟩
        go_wp2
        go_ret
        exact ⟨by rw [E.out]; rfl, U.trans u1⟩
      · have e3 : (b == -1) = false := beq_eq_false_iff_ne.2 h2
        rw [e3, Bool.false_or] at E
        clear h2
        go_enter Try.func95, Try.ntmps95
        go_wp2_with fail
        refine (HA.out _).mono ?_
        rintro e w1 ⟨rfl, u1⟩
        have k1 := u1.blk k0
        have V := U.trans u1
        clear u1 k0 U
        go_wp2_with fail
        refine (HB.out _).mono ?_
        rintro e w2 ⟨rfl, u2⟩
        go_wp2
        go_ret
        exact ⟨by rw [E.out]; rfl, V.trans u2⟩
set_option maxRecDepth 100000 in
set_option maxHeartbeats 1000000 in
theorem isOpen_any (c h l u : Int) (w : World) (hn : nR ≤ 9223372036854775807) (hH : -9223372036854775807 ≤ H ∧ H ≤ 9223372036854775807) : Calls Try.prog 76 #[(CeV H (.slice aR nR cR) (.slice aO nO cO) (.slice aP nP cP) b0 b1 b2 b3 b4), .agg #[.int .i64 c, .int .i64 h, .int .i64 l, .int .i64 u]] w fun e w' => e = .returned (.bool (T.openOk H nR (c, h, l, u))) ∧ Up w w' := by
  have U := ((Up.refl w).alloc (.cells (CeC H (.slice aR nR cR) (.slice aO nO cO) (.slice aP nP cP) b0 b1 b2 b3 b4) 79)).alloc (.cells #[.int .i64 c, .int .i64 h, .int .i64 l, .int .i64 u] 63)
  have k0 := blk_keep (.cells #[.int .i64 c, .int .i64 h, .int .i64 l, .int .i64 u] 63) (blk_new w (.cells (CeC H (.slice aR nR cR) (.slice aO nO cO) (.slice aP nP cP) b0 b1 b2 b3 b4) 79) _ rfl)
  have k1 := blk_new (w.alloc (.cells (CeC H (.slice aR nR cR) (.slice aO nO cO) (.slice aP nP cP) b0 b1 b2 b3 b4) 79)) (.cells #[.int .i64 c, .int .i64 h, .int .i64 l, .int .i64 u] 63) (w.heap.size + 1) (by simp)
  have H1 := Lib.hid (fun w => isClock_any (H := H) (aR := aR) (aO := aO) (aP := aP) (nR := nR) (cR := cR) (nO := nO) (cO := cO) (nP := nP) (cP := cP) (b0 := b0) (b1 := b1) (b2 := b2) (b3 := b3) (b4 := b4) c w hn)
  have H2 := Lib.hid (fun w => within_any h 0 (H - 1) w)
  have H3 := Lib.hid (fun w => isSpan_any l u 100000 w (by omega) (by omega))
  have lt := blk_lt k1
  have lt0 := blk_lt k0
  have eH : IntKind.i64.wrap (H - 1) = H - 1 := IntWalk.i64_in _ (by omega)
  have E := Lib.hid (show T.openOk H nR (c, h, l, u) = (inB c 0 ((nR : Int) - 1) && (inB h 0 (H - 1) && S.spanOk l u 100000)) from rfl)
  generalize T.openOk H nR (c, h, l, u) = R at *
  generalize inB c 0 ((nR : Int) - 1) = q1 at *
  generalize inB h 0 (H - 1) = q2 at *
  generalize S.spanOk l u 100000 = q3 at *
  cases q1
  case false =>
    rw [Bool.false_and] at E
    go_enter Try.func76, Try.ntmps76
    go_wp2_with fail
    refine (H1.out _).mono ?_
    rintro e w1 ⟨rfl, u1⟩
    have U1 := U.trans u1
    clear u1 U
    go_wp2
    go_ret
    exact ⟨by rw [E.out]; rfl, U1⟩
  case true =>
  cases q2
  case false =>
    rw [Bool.true_and, Bool.false_and] at E
    go_enter Try.func76, Try.ntmps76
    go_wp2_with fail
    refine (H1.out _).mono ?_
    rintro e w1 ⟨rfl, u1⟩
    have U1 := U.trans u1
    replace k0 := u1.blk k0
    replace k1 := u1.blk k1
    clear u1 U
    go_wp2_with fail
    refine (H2.out _).mono ?_
    rintro e w2 ⟨rfl, rfl⟩
    go_wp2
    go_ret
    exact ⟨by rw [E.out]; rfl, U1⟩
  case true =>
    rw [Bool.true_and, Bool.true_and] at E
    go_enter Try.func76, Try.ntmps76
    go_wp2_with fail
    refine (H1.out _).mono ?_
    rintro e w1 ⟨rfl, u1⟩
    have U1 := U.trans u1
    replace k0 := u1.blk k0
    replace k1 := u1.blk k1
    clear u1 U
    go_wp2_with fail
    refine (H2.out _).mono ?_
    rintro e w2 ⟨rfl, rfl⟩
    go_wp2_with fail
    refine (H3.out _).mono ?_
    rintro e w3 ⟨rfl, u3⟩
    have U3 := U1.trans u3
    clear u3 U1
    go_wp2
    go_ret
    exact ⟨by rw [E.out]; rfl, U3⟩
set_option maxRecDepth 100000 in
set_option maxHeartbeats 1000000 in
theorem isPair_any (h a b l u : Int) (w : World) (hn : nR ≤ 9223372036854775807) (hH : -9223372036854775807 ≤ H ∧ H ≤ 9223372036854775807) : Calls Try.prog 78 #[(CeV H (.slice aR nR cR) (.slice aO nO cO) (.slice aP nP cP) b0 b1 b2 b3 b4), .agg #[.int .i64 h, .int .i64 a, .int .i64 b, .int .i64 l, .int .i64 u]] w fun e w' => e = .returned (.bool (T.pairOk H nR (h, a, b, l, u))) ∧ Up w w' := by
  have U := ((Up.refl w).alloc (.cells (CeC H (.slice aR nR cR) (.slice aO nO cO) (.slice aP nP cP) b0 b1 b2 b3 b4) 79)).alloc (.cells #[.int .i64 h, .int .i64 a, .int .i64 b, .int .i64 l, .int .i64 u] 61)
  have k0 := blk_keep (.cells #[.int .i64 h, .int .i64 a, .int .i64 b, .int .i64 l, .int .i64 u] 61) (blk_new w (.cells (CeC H (.slice aR nR cR) (.slice aO nO cO) (.slice aP nP cP) b0 b1 b2 b3 b4) 79) _ rfl)
  have k1 := blk_new (w.alloc (.cells (CeC H (.slice aR nR cR) (.slice aO nO cO) (.slice aP nP cP) b0 b1 b2 b3 b4) 79)) (.cells #[.int .i64 h, .int .i64 a, .int .i64 b, .int .i64 l, .int .i64 u] 61) (w.heap.size + 1) (by simp)
  have H1 := Lib.hid (fun w => isHour_any (H := H) (aR := aR) (aO := aO) (aP := aP) (nR := nR) (cR := cR) (nO := nO) (cO := cO) (nP := nP) (cP := cP) (b0 := b0) (b1 := b1) (b2 := b2) (b3 := b3) (b4 := b4) h w)
  have H2 := Lib.hid (fun w => areTwo_any (H := H) (aR := aR) (aO := aO) (aP := aP) (nR := nR) (cR := cR) (nO := nO) (cO := cO) (nP := nP) (cP := cP) (b0 := b0) (b1 := b1) (b2 := b2) (b3 := b3) (b4 := b4) a b w hn)
  have H3 := Lib.hid (fun w => isSpan_any l u 200000 w (by omega) (by omega))
  have lt := blk_lt k1
  have lt0 := blk_lt k0
  have eH : IntKind.i64.wrap (H - 1) = H - 1 := IntWalk.i64_in _ (by omega)
  have E := Lib.hid (show T.pairOk H nR (h, a, b, l, u) = (inB h 0 H && (T.isTwo nR a b && S.spanOk l u 200000)) from rfl)
  generalize T.pairOk H nR (h, a, b, l, u) = R at *
  generalize inB h 0 H = q1 at *
  generalize T.isTwo nR a b = q2 at *
  generalize S.spanOk l u 200000 = q3 at *
  cases q1
  case false =>
    rw [Bool.false_and] at E
    go_enter Try.func78, Try.ntmps78
    go_wp2_with fail
    refine (H1.out _).mono ?_
    rintro e w1 ⟨rfl, u1⟩
    have U1 := U.trans u1
    clear u1 U
    go_wp2
    go_ret
    exact ⟨by rw [E.out]; rfl, U1⟩
  case true =>
  cases q2
  case false =>
    rw [Bool.true_and, Bool.false_and] at E
    go_enter Try.func78, Try.ntmps78
    go_wp2_with fail
    refine (H1.out _).mono ?_
    rintro e w1 ⟨rfl, u1⟩
    have U1 := U.trans u1
    replace k0 := u1.blk k0
    replace k1 := u1.blk k1
    clear u1 U
    go_wp2_with fail
    refine (H2.out _).mono ?_
    rintro e w2 ⟨rfl, u2⟩
    have U2 := U1.trans u2
    clear u2 U1
    go_wp2
    go_ret
    exact ⟨by rw [E.out]; rfl, U2⟩
  case true =>
    rw [Bool.true_and, Bool.true_and] at E
    go_enter Try.func78, Try.ntmps78
    go_wp2_with fail
    refine (H1.out _).mono ?_
    rintro e w1 ⟨rfl, u1⟩
    have U1 := U.trans u1
    replace k0 := u1.blk k0
    replace k1 := u1.blk k1
    clear u1 U
    go_wp2_with fail
    refine (H2.out _).mono ?_
    rintro e w2 ⟨rfl, u2⟩
    have U2 := U1.trans u2
    replace k0 := u2.blk k0
    replace k1 := u2.blk k1
    clear u2 U1
    go_wp2_with fail
    refine (H3.out _).mono ?_
    rintro e w3 ⟨rfl, u3⟩
    have U3 := U2.trans u3
    clear u3 U2
    go_wp2
    go_ret
    exact ⟨by rw [E.out]; rfl, U3⟩

set_option maxRecDepth 100000 in
theorem allSpan1_any (l h : Int) {B : Nat} {w : World}  (kB : mblk w B = some (.cells #[.func (.func 89) #[] #[]] 144 (0, 0))) : Calls Try.prog 104 #[SpV l h, .pointer (some ⟨B, 0, none⟩)] w fun e w' => e = .returned (.bool (!T.rateOk (l, h))) ∧ Up w w' := by
  have U := (Up.refl w).alloc (.cells #[.int .i64 l, .int .i64 h] 34)
  have k0 := blk_new w (.cells #[.int .i64 l, .int .i64 h] 34) w.heap.size rfl
  have k1 := blk_keep (.cells #[.int .i64 l, .int .i64 h] 34) kB
  have lB := blk_lt kB
  have f0 := cellB k0
  have f1 := cellB k1
  have HL := Lib.hid (fun w => show Calls Try.prog 89 #[SpV l h] w fun e w' => e = .returned (.bool (T.rateOk (l, h))) ∧ Up w w' from isRate_any l h w)
  generalize T.rateOk (l, h) = q at *
  go_enter Try.func104, Try.ntmps104
  go_wp2_with fail
  refine (HL.out _).mono ?_
  rintro e w1 ⟨rfl, u1⟩
  go_wp2
  go_ret
  exact ⟨rfl, U.trans u1⟩
set_option maxRecDepth 100000 in
set_option maxHeartbeats 1000000 in
theorem ifSpan_any {xs : List (Int × Int)} {v : Value} {w : World}  (I : Tab 2 T.encS (0, 0) w v xs) {B : Nat} (kB : mblk w B = some (.cells #[.func (.func 89) #[] #[]] 144 (0, 0))) : Calls Try.prog 114 #[v, .func (.func 104) #[] #[.pointer (some ⟨B, 0, none⟩)]] w fun e w' => ∃ r : Int, e = .returned (.int .i64 r) ∧ decide (r ≥ 0) = !xs.all (T.rateOk) ∧ Up w w' := by
  obtain ⟨a0, c0, rfl, _, hl, hm⟩ := I.is
  have HI := Lib.hid I
  have HB := Lib.hid (fun w' (up : Up w w') l h => allSpan1_any  l h  (up.blk kB))
  clear hm I kB
  go_enter Try.func114, Try.ntmps114
  go_wp2_with fail
  go_loopw [8] (fun i wr => ∃ k : Nat, k ≤ xs.length ∧ i = .int .i64 k ∧ Hid (xs.all (T.rateOk) = (xs.drop k).all (T.rateOk)) ∧ Up w wr) (fun i _ => xs.length - (intOf i).toNat)
  case atStart => exact ⟨0, Nat.zero_le _, rfl, rfl, Up.refl _⟩
  case round =>
    obtain ⟨k, hk, rfl, hD, U⟩ := hrel
    by_cases hlt : k < xs.length
    · obtain ⟨a1, c1, e1, _, _, hm⟩ := (HI.out.up U).is
      injection e1 with e1 e2 e3
      subst e1 e3
      clear e2
      obtain ⟨g, off, rfl, gl, hc⟩ := hm (by omega)
      have x0 := hc k hlt 0 (by omega)
      have x1 := hc k hlt 1 (by omega)
      have st := all_drop' (d := (0, 0)) (p := T.rateOk) hlt
      generalize xs.getD k (0, 0) = z at *
      obtain ⟨l, h⟩ := z
      simp only [T.encS, Nat.add_zero] at x0 x1
      have HC := Lib.hid (HB.out wr U l h)
      clear hc hm
      cases hq : T.rateOk (l, h) with
      | true =>
        rw [hq, Bool.true_and] at st
        have h3 := Lib.hid (hD.out.trans st)
        rw [hq, Bool.not_true] at HC
        clear st hD hq
        go_wp2_with fail
        refine HC.out.mono ?_
        rintro e w1 ⟨rfl, u1⟩
        go_wp2
        go_roundw
        case rel => exact ⟨k + 1, by omega, by go_num, h3, U.trans u1⟩
        case measure => simp [intOf]; omega
      | false =>
        rw [hq, Bool.false_and] at st
        have h3 := Lib.hid (hD.out.trans st)
        rw [hq, Bool.not_false] at HC
        clear st hD hq
        go_wp2_with fail
        refine HC.out.mono ?_
        rintro e w1 ⟨rfl, u1⟩
        go_wp2
        go_ret
        exact ⟨_, rfl, (by rw [h3.out]; simp : decide ((k : Int) ≥ 0) = _), U.trans u1⟩
    · have h3 := hD.out
      rw [List.drop_eq_nil_of_le (by omega)] at h3
      have h4 := Lib.hid h3
      clear h3
      go_wp2
      go_ret
      exact ⟨-1, rfl, by rw [h4.out]; simp, U⟩
set_option maxRecDepth 100000 in
theorem cfSpan_any {xs : List (Int × Int)} {v : Value} {w : World}  (I : Tab 2 T.encS (0, 0) w v xs) {B : Nat} (kB : mblk w B = some (.cells #[.func (.func 89) #[] #[]] 144 (0, 0))) : Calls Try.prog 103 #[v, .func (.func 104) #[] #[.pointer (some ⟨B, 0, none⟩)]] w fun e w' => e = .returned (.bool (!xs.all (T.rateOk))) ∧ Up w w' := by
  have HX := Lib.hid (ifSpan_any  I kB)
  generalize (!xs.all (T.rateOk)) = q at *
  clear I kB
  go_enter Try.func103, Try.ntmps103
  go_wp2_with fail
  refine HX.out.mono ?_
  rintro e w1 ⟨r, rfl, hr, u1⟩
  go_wp2
  go_ret
  exact ⟨rfl, u1⟩
set_option maxRecDepth 100000 in
theorem allSpan_any {xs : List (Int × Int)} {v : Value} {w : World}  (I : Tab 2 T.encS (0, 0) w v xs) (m : Nat) : Calls Try.prog 88 #[v, .int .i64 m, .func (.func 89) #[] #[]] w fun e w' => e = .returned (.bool (decide (xs.length ≤ m) && xs.all (T.rateOk))) ∧ Up w w' := by
  have U := (Up.refl w).alloc (.cells #[.func (.func 89) #[] #[]] 144)
  have HX := Lib.hid (cfSpan_any  (I.up U) (blk_new w (.cells #[.func (.func 89) #[] #[]] 144) _ rfl))
  obtain ⟨a0, c0, rfl, _, hl, _⟩ := I.is
  clear I
  by_cases h10 : xs.length ≤ m
  · rw [decide_eq_true h10, Bool.true_and]
    generalize xs.all (T.rateOk) = q at *
    have g : decide (xs.length ≤ m) = true := decide_eq_true h10
    have g' : (xs.length : Int) ≤ m := by omega
    go_enter Try.func88, Try.ntmps88
    go_wp2_with fail
    refine HX.out.mono ?_
    rintro e w1 ⟨rfl, u1⟩
    go_wp2
    go_ret
    exact ⟨rfl, U.trans u1⟩
  · rw [decide_eq_false h10, Bool.false_and]
    have g : decide (xs.length ≤ m) = false := decide_eq_false h10
    have g' : ¬ (xs.length : Int) ≤ m := by omega
    clear HX
    go_enter Try.func88, Try.ntmps88
    go_wp2
    go_ret
    exact ⟨rfl, U⟩

set_option maxRecDepth 100000 in
theorem allOpen1_any (c h l u : Int) {B : Nat} {w : World} (hn : nR ≤ 9223372036854775807) (hH : -9223372036854775807 ≤ H ∧ H ≤ 9223372036854775807) (kB : mblk w B = some (.cells #[.func (.func 76) #[(CeV H (.slice aR nR cR) (.slice aO nO cO) (.slice aP nP cP) b0 b1 b2 b3 b4)] #[]] 127 (0, 0))) : Calls Try.prog 91 #[.agg #[.int .i64 c, .int .i64 h, .int .i64 l, .int .i64 u], .pointer (some ⟨B, 0, none⟩)] w fun e w' => e = .returned (.bool (!T.openOk H nR (c, h, l, u))) ∧ Up w w' := by
  have U := (Up.refl w).alloc (.cells #[.int .i64 c, .int .i64 h, .int .i64 l, .int .i64 u] 63)
  have k0 := blk_new w (.cells #[.int .i64 c, .int .i64 h, .int .i64 l, .int .i64 u] 63) w.heap.size rfl
  have k1 := blk_keep (.cells #[.int .i64 c, .int .i64 h, .int .i64 l, .int .i64 u] 63) kB
  have lB := blk_lt kB
  have f0 := cellB k0
  have f1 := cellB k1
  have HL := Lib.hid (fun w => show Calls Try.prog 76 #[(CeV H (.slice aR nR cR) (.slice aO nO cO) (.slice aP nP cP) b0 b1 b2 b3 b4), .agg #[.int .i64 c, .int .i64 h, .int .i64 l, .int .i64 u]] w fun e w' => e = .returned (.bool (T.openOk H nR (c, h, l, u))) ∧ Up w w' from isOpen_any (H := H) (aR := aR) (aO := aO) (aP := aP) (nR := nR) (cR := cR) (nO := nO) (cO := cO) (nP := nP) (cP := cP) (b0 := b0) (b1 := b1) (b2 := b2) (b3 := b3) (b4 := b4) c h l u w hn hH)
  generalize T.openOk H nR (c, h, l, u) = q at *
  go_enter Try.func91, Try.ntmps91
  go_wp2_with fail
  refine (HL.out _).mono ?_
  rintro e w1 ⟨rfl, u1⟩
  go_wp2
  go_ret
  exact ⟨rfl, U.trans u1⟩
set_option maxRecDepth 100000 in
set_option maxHeartbeats 1000000 in
theorem ifOpen_any {xs : List (Int × Int × Int × Int)} {v : Value} {w : World} (hn : nR ≤ 9223372036854775807) (hH : -9223372036854775807 ≤ H ∧ H ≤ 9223372036854775807) (I : Tab 4 T.encO (0, 0, 0, 0) w v xs) {B : Nat} (kB : mblk w B = some (.cells #[.func (.func 76) #[(CeV H (.slice aR nR cR) (.slice aO nO cO) (.slice aP nP cP) b0 b1 b2 b3 b4)] #[]] 127 (0, 0))) : Calls Try.prog 105 #[v, .func (.func 91) #[] #[.pointer (some ⟨B, 0, none⟩)]] w fun e w' => ∃ r : Int, e = .returned (.int .i64 r) ∧ decide (r ≥ 0) = !xs.all (T.openOk H nR) ∧ Up w w' := by
  obtain ⟨a0, c0, rfl, _, hl, hm⟩ := I.is
  have HI := Lib.hid I
  have HB := Lib.hid (fun w' (up : Up w w') c h l u => allOpen1_any (H := H) (aR := aR) (aO := aO) (aP := aP) (nR := nR) (cR := cR) (nO := nO) (cO := cO) (nP := nP) (cP := cP) (b0 := b0) (b1 := b1) (b2 := b2) (b3 := b3) (b4 := b4) c h l u hn hH (up.blk kB))
  clear hm I kB
  go_enter Try.func105, Try.ntmps105
  go_wp2_with fail
  go_loopw [8] (fun i wr => ∃ k : Nat, k ≤ xs.length ∧ i = .int .i64 k ∧ Hid (xs.all (T.openOk H nR) = (xs.drop k).all (T.openOk H nR)) ∧ Up w wr) (fun i _ => xs.length - (intOf i).toNat)
  case atStart => exact ⟨0, Nat.zero_le _, rfl, rfl, Up.refl _⟩
  case round =>
    obtain ⟨k, hk, rfl, hD, U⟩ := hrel
    by_cases hlt : k < xs.length
    · obtain ⟨a1, c1, e1, _, _, hm⟩ := (HI.out.up U).is
      injection e1 with e1 e2 e3
      subst e1 e3
      clear e2
      obtain ⟨g, off, rfl, gl, hc⟩ := hm (by omega)
      have x0 := hc k hlt 0 (by omega)
      have x1 := hc k hlt 1 (by omega)
      have x2 := hc k hlt 2 (by omega)
      have x3 := hc k hlt 3 (by omega)
      have st := all_drop' (d := (0, 0, 0, 0)) (p := T.openOk H nR) hlt
      generalize xs.getD k (0, 0, 0, 0) = z at *
      obtain ⟨c, h, l, u⟩ := z
      simp only [T.encO, Nat.add_zero] at x0 x1 x2 x3
      have HC := Lib.hid (HB.out wr U c h l u)
      clear hc hm
      cases hq : T.openOk H nR (c, h, l, u) with
      | true =>
        rw [hq, Bool.true_and] at st
        have h3 := Lib.hid (hD.out.trans st)
        rw [hq, Bool.not_true] at HC
        clear st hD hq
        go_wp2_with fail
        refine HC.out.mono ?_
        rintro e w1 ⟨rfl, u1⟩
        go_wp2
        go_roundw
        case rel => exact ⟨k + 1, by omega, by go_num, h3, U.trans u1⟩
        case measure => simp [intOf]; omega
      | false =>
        rw [hq, Bool.false_and] at st
        have h3 := Lib.hid (hD.out.trans st)
        rw [hq, Bool.not_false] at HC
        clear st hD hq
        go_wp2_with fail
        refine HC.out.mono ?_
        rintro e w1 ⟨rfl, u1⟩
        go_wp2
        go_ret
        exact ⟨_, rfl, (by rw [h3.out]; simp : decide ((k : Int) ≥ 0) = _), U.trans u1⟩
    · have h3 := hD.out
      rw [List.drop_eq_nil_of_le (by omega)] at h3
      have h4 := Lib.hid h3
      clear h3
      go_wp2
      go_ret
      exact ⟨-1, rfl, by rw [h4.out]; simp, U⟩
set_option maxRecDepth 100000 in
theorem cfOpen_any {xs : List (Int × Int × Int × Int)} {v : Value} {w : World} (hn : nR ≤ 9223372036854775807) (hH : -9223372036854775807 ≤ H ∧ H ≤ 9223372036854775807) (I : Tab 4 T.encO (0, 0, 0, 0) w v xs) {B : Nat} (kB : mblk w B = some (.cells #[.func (.func 76) #[(CeV H (.slice aR nR cR) (.slice aO nO cO) (.slice aP nP cP) b0 b1 b2 b3 b4)] #[]] 127 (0, 0))) : Calls Try.prog 90 #[v, .func (.func 91) #[] #[.pointer (some ⟨B, 0, none⟩)]] w fun e w' => e = .returned (.bool (!xs.all (T.openOk H nR))) ∧ Up w w' := by
  have HX := Lib.hid (ifOpen_any hn hH I kB)
  generalize (!xs.all (T.openOk H nR)) = q at *
  clear I kB
  go_enter Try.func90, Try.ntmps90
  go_wp2_with fail
  refine HX.out.mono ?_
  rintro e w1 ⟨r, rfl, hr, u1⟩
  go_wp2
  go_ret
  exact ⟨rfl, u1⟩
set_option maxRecDepth 100000 in
theorem allOpen_any {xs : List (Int × Int × Int × Int)} {v : Value} {w : World} (hn : nR ≤ 9223372036854775807) (hH : -9223372036854775807 ≤ H ∧ H ≤ 9223372036854775807) (I : Tab 4 T.encO (0, 0, 0, 0) w v xs) (m : Nat) : Calls Try.prog 75 #[v, .int .i64 m, .func (.func 76) #[(CeV H (.slice aR nR cR) (.slice aO nO cO) (.slice aP nP cP) b0 b1 b2 b3 b4)] #[]] w fun e w' => e = .returned (.bool (decide (xs.length ≤ m) && xs.all (T.openOk H nR))) ∧ Up w w' := by
  have U := (Up.refl w).alloc (.cells #[.func (.func 76) #[(CeV H (.slice aR nR cR) (.slice aO nO cO) (.slice aP nP cP) b0 b1 b2 b3 b4)] #[]] 127)
  have HX := Lib.hid (cfOpen_any hn hH (I.up U) (blk_new w (.cells #[.func (.func 76) #[(CeV H (.slice aR nR cR) (.slice aO nO cO) (.slice aP nP cP) b0 b1 b2 b3 b4)] #[]] 127) _ rfl))
  obtain ⟨a0, c0, rfl, _, hl, _⟩ := I.is
  clear I
  by_cases h10 : xs.length ≤ m
  · rw [decide_eq_true h10, Bool.true_and]
    generalize xs.all (T.openOk H nR) = q at *
    have g : decide (xs.length ≤ m) = true := decide_eq_true h10
    have g' : (xs.length : Int) ≤ m := by omega
    go_enter Try.func75, Try.ntmps75
    go_wp2_with fail
    refine HX.out.mono ?_
    rintro e w1 ⟨rfl, u1⟩
    go_wp2
    go_ret
    exact ⟨rfl, U.trans u1⟩
  · rw [decide_eq_false h10, Bool.false_and]
    have g : decide (xs.length ≤ m) = false := decide_eq_false h10
    have g' : ¬ (xs.length : Int) ≤ m := by omega
    clear HX
    go_enter Try.func75, Try.ntmps75
    go_wp2
    go_ret
    exact ⟨rfl, U⟩

set_option maxRecDepth 100000 in
theorem allPair1_any (h a b l u : Int) {B : Nat} {w : World} (hn : nR ≤ 9223372036854775807) (hH : -9223372036854775807 ≤ H ∧ H ≤ 9223372036854775807) (kB : mblk w B = some (.cells #[.func (.func 78) #[(CeV H (.slice aR nR cR) (.slice aO nO cO) (.slice aP nP cP) b0 b1 b2 b3 b4)] #[]] 129 (0, 0))) : Calls Try.prog 94 #[.agg #[.int .i64 h, .int .i64 a, .int .i64 b, .int .i64 l, .int .i64 u], .pointer (some ⟨B, 0, none⟩)] w fun e w' => e = .returned (.bool (!T.pairOk H nR (h, a, b, l, u))) ∧ Up w w' := by
  have U := (Up.refl w).alloc (.cells #[.int .i64 h, .int .i64 a, .int .i64 b, .int .i64 l, .int .i64 u] 61)
  have k0 := blk_new w (.cells #[.int .i64 h, .int .i64 a, .int .i64 b, .int .i64 l, .int .i64 u] 61) w.heap.size rfl
  have k1 := blk_keep (.cells #[.int .i64 h, .int .i64 a, .int .i64 b, .int .i64 l, .int .i64 u] 61) kB
  have lB := blk_lt kB
  have f0 := cellB k0
  have f1 := cellB k1
  have HL := Lib.hid (fun w => show Calls Try.prog 78 #[(CeV H (.slice aR nR cR) (.slice aO nO cO) (.slice aP nP cP) b0 b1 b2 b3 b4), .agg #[.int .i64 h, .int .i64 a, .int .i64 b, .int .i64 l, .int .i64 u]] w fun e w' => e = .returned (.bool (T.pairOk H nR (h, a, b, l, u))) ∧ Up w w' from isPair_any (H := H) (aR := aR) (aO := aO) (aP := aP) (nR := nR) (cR := cR) (nO := nO) (cO := cO) (nP := nP) (cP := cP) (b0 := b0) (b1 := b1) (b2 := b2) (b3 := b3) (b4 := b4) h a b l u w hn hH)
  generalize T.pairOk H nR (h, a, b, l, u) = q at *
  go_enter Try.func94, Try.ntmps94
  go_wp2_with fail
  refine (HL.out _).mono ?_
  rintro e w1 ⟨rfl, u1⟩
  go_wp2
  go_ret
  exact ⟨rfl, U.trans u1⟩
set_option maxRecDepth 100000 in
set_option maxHeartbeats 1000000 in
theorem ifPair_any {xs : List (Int × Int × Int × Int × Int)} {v : Value} {w : World} (hn : nR ≤ 9223372036854775807) (hH : -9223372036854775807 ≤ H ∧ H ≤ 9223372036854775807) (I : Tab 5 T.encP (0, 0, 0, 0, 0) w v xs) {B : Nat} (kB : mblk w B = some (.cells #[.func (.func 78) #[(CeV H (.slice aR nR cR) (.slice aO nO cO) (.slice aP nP cP) b0 b1 b2 b3 b4)] #[]] 129 (0, 0))) : Calls Try.prog 106 #[v, .func (.func 94) #[] #[.pointer (some ⟨B, 0, none⟩)]] w fun e w' => ∃ r : Int, e = .returned (.int .i64 r) ∧ decide (r ≥ 0) = !xs.all (T.pairOk H nR) ∧ Up w w' := by
  obtain ⟨a0, c0, rfl, _, hl, hm⟩ := I.is
  have HI := Lib.hid I
  have HB := Lib.hid (fun w' (up : Up w w') h a b l u => allPair1_any (H := H) (aR := aR) (aO := aO) (aP := aP) (nR := nR) (cR := cR) (nO := nO) (cO := cO) (nP := nP) (cP := cP) (b0 := b0) (b1 := b1) (b2 := b2) (b3 := b3) (b4 := b4) h a b l u hn hH (up.blk kB))
  clear hm I kB
  go_enter Try.func106, Try.ntmps106
  go_wp2_with fail
  go_loopw [8] (fun i wr => ∃ k : Nat, k ≤ xs.length ∧ i = .int .i64 k ∧ Hid (xs.all (T.pairOk H nR) = (xs.drop k).all (T.pairOk H nR)) ∧ Up w wr) (fun i _ => xs.length - (intOf i).toNat)
  case atStart => exact ⟨0, Nat.zero_le _, rfl, rfl, Up.refl _⟩
  case round =>
    obtain ⟨k, hk, rfl, hD, U⟩ := hrel
    by_cases hlt : k < xs.length
    · obtain ⟨a1, c1, e1, _, _, hm⟩ := (HI.out.up U).is
      injection e1 with e1 e2 e3
      subst e1 e3
      clear e2
      obtain ⟨g, off, rfl, gl, hc⟩ := hm (by omega)
      have x0 := hc k hlt 0 (by omega)
      have x1 := hc k hlt 1 (by omega)
      have x2 := hc k hlt 2 (by omega)
      have x3 := hc k hlt 3 (by omega)
      have x4 := hc k hlt 4 (by omega)
      have st := all_drop' (d := (0, 0, 0, 0, 0)) (p := T.pairOk H nR) hlt
      generalize xs.getD k (0, 0, 0, 0, 0) = z at *
      obtain ⟨h, a, b, l, u⟩ := z
      simp only [T.encP, Nat.add_zero] at x0 x1 x2 x3 x4
      have HC := Lib.hid (HB.out wr U h a b l u)
      clear hc hm
      cases hq : T.pairOk H nR (h, a, b, l, u) with
      | true =>
        rw [hq, Bool.true_and] at st
        have h3 := Lib.hid (hD.out.trans st)
        rw [hq, Bool.not_true] at HC
        clear st hD hq
        go_wp2_with fail
        refine HC.out.mono ?_
        rintro e w1 ⟨rfl, u1⟩
        go_wp2
        go_roundw
        case rel => exact ⟨k + 1, by omega, by go_num, h3, U.trans u1⟩
        case measure => simp [intOf]; omega
      | false =>
        rw [hq, Bool.false_and] at st
        have h3 := Lib.hid (hD.out.trans st)
        rw [hq, Bool.not_false] at HC
        clear st hD hq
        go_wp2_with fail
        refine HC.out.mono ?_
        rintro e w1 ⟨rfl, u1⟩
        go_wp2
        go_ret
        exact ⟨_, rfl, (by rw [h3.out]; simp : decide ((k : Int) ≥ 0) = _), U.trans u1⟩
    · have h3 := hD.out
      rw [List.drop_eq_nil_of_le (by omega)] at h3
      have h4 := Lib.hid h3
      clear h3
      go_wp2
      go_ret
      exact ⟨-1, rfl, by rw [h4.out]; simp, U⟩
set_option maxRecDepth 100000 in
theorem cfPair_any {xs : List (Int × Int × Int × Int × Int)} {v : Value} {w : World} (hn : nR ≤ 9223372036854775807) (hH : -9223372036854775807 ≤ H ∧ H ≤ 9223372036854775807) (I : Tab 5 T.encP (0, 0, 0, 0, 0) w v xs) {B : Nat} (kB : mblk w B = some (.cells #[.func (.func 78) #[(CeV H (.slice aR nR cR) (.slice aO nO cO) (.slice aP nP cP) b0 b1 b2 b3 b4)] #[]] 129 (0, 0))) : Calls Try.prog 93 #[v, .func (.func 94) #[] #[.pointer (some ⟨B, 0, none⟩)]] w fun e w' => e = .returned (.bool (!xs.all (T.pairOk H nR))) ∧ Up w w' := by
  have HX := Lib.hid (ifPair_any hn hH I kB)
  generalize (!xs.all (T.pairOk H nR)) = q at *
  clear I kB
  go_enter Try.func93, Try.ntmps93
  go_wp2_with fail
  refine HX.out.mono ?_
  rintro e w1 ⟨r, rfl, hr, u1⟩
  go_wp2
  go_ret
  exact ⟨rfl, u1⟩
set_option maxRecDepth 100000 in
theorem allPair_any {xs : List (Int × Int × Int × Int × Int)} {v : Value} {w : World} (hn : nR ≤ 9223372036854775807) (hH : -9223372036854775807 ≤ H ∧ H ≤ 9223372036854775807) (I : Tab 5 T.encP (0, 0, 0, 0, 0) w v xs) (m : Nat) : Calls Try.prog 77 #[v, .int .i64 m, .func (.func 78) #[(CeV H (.slice aR nR cR) (.slice aO nO cO) (.slice aP nP cP) b0 b1 b2 b3 b4)] #[]] w fun e w' => e = .returned (.bool (decide (xs.length ≤ m) && xs.all (T.pairOk H nR))) ∧ Up w w' := by
  have U := (Up.refl w).alloc (.cells #[.func (.func 78) #[(CeV H (.slice aR nR cR) (.slice aO nO cO) (.slice aP nP cP) b0 b1 b2 b3 b4)] #[]] 129)
  have HX := Lib.hid (cfPair_any hn hH (I.up U) (blk_new w (.cells #[.func (.func 78) #[(CeV H (.slice aR nR cR) (.slice aO nO cO) (.slice aP nP cP) b0 b1 b2 b3 b4)] #[]] 129) _ rfl))
  obtain ⟨a0, c0, rfl, _, hl, _⟩ := I.is
  clear I
  by_cases h10 : xs.length ≤ m
  · rw [decide_eq_true h10, Bool.true_and]
    generalize xs.all (T.pairOk H nR) = q at *
    have g : decide (xs.length ≤ m) = true := decide_eq_true h10
    have g' : (xs.length : Int) ≤ m := by omega
    go_enter Try.func77, Try.ntmps77
    go_wp2_with fail
    refine HX.out.mono ?_
    rintro e w1 ⟨rfl, u1⟩
    go_wp2
    go_ret
    exact ⟨rfl, U.trans u1⟩
  · rw [decide_eq_false h10, Bool.false_and]
    have g : decide (xs.length ≤ m) = false := decide_eq_false h10
    have g' : ¬ (xs.length : Int) ≤ m := by omega
    clear HX
    go_enter Try.func77, Try.ntmps77
    go_wp2
    go_ret
    exact ⟨rfl, U⟩

set_option maxRecDepth 100000 in
theorem allClk1_any (k : Int) {B : Nat} {w : World} (hn : nR ≤ 9223372036854775807) (kB : mblk w B = some (.cells #[.func (.func 69) #[(CeV H (.slice aR nR cR) (.slice aO nO cO) (.slice aP nP cP) b0 b1 b2 b3 b4)] #[]] 120 (0, 0))) : Calls Try.prog 86 #[.int .i64 k, .pointer (some ⟨B, 0, none⟩)] w fun e w' => e = .returned (.bool (!T.clkP nR k)) ∧ Up w w' := by
  have U := Up.refl w
  have k1 := kB
  have lB := blk_lt kB
  have f1 := cellB k1
  have HL := Lib.hid (fun w => show Calls Try.prog 69 #[(CeV H (.slice aR nR cR) (.slice aO nO cO) (.slice aP nP cP) b0 b1 b2 b3 b4), .int .i64 k] w fun e w' => e = .returned (.bool (T.clkP nR k)) ∧ Up w w' from isClock_any (H := H) (aR := aR) (aO := aO) (aP := aP) (nR := nR) (cR := cR) (nO := nO) (cO := cO) (nP := nP) (cP := cP) (b0 := b0) (b1 := b1) (b2 := b2) (b3 := b3) (b4 := b4) k w hn)
  generalize T.clkP nR k = q at *
  go_enter Try.func86, Try.ntmps86
  go_wp2_with fail
  refine (HL.out _).mono ?_
  rintro e w1 ⟨rfl, u1⟩
  go_wp2
  go_ret
  exact ⟨rfl, u1⟩
set_option maxRecDepth 100000 in
set_option maxHeartbeats 1000000 in
theorem ifClk_any {xs : List Int} {v : Value} {w : World} (hn : nR ≤ 9223372036854775807) (I : Ints w v xs) {B : Nat} (kB : mblk w B = some (.cells #[.func (.func 69) #[(CeV H (.slice aR nR cR) (.slice aO nO cO) (.slice aP nP cP) b0 b1 b2 b3 b4)] #[]] 120 (0, 0))) : Calls Try.prog 99 #[v, .func (.func 86) #[] #[.pointer (some ⟨B, 0, none⟩)]] w fun e w' => ∃ r : Int, e = .returned (.int .i64 r) ∧ decide (r ≥ 0) = !xs.all (T.clkP nR) ∧ Up w w' := by
  obtain ⟨a0, c0, rfl, _, hl, hm⟩ := I.is
  have HI := Lib.hid I
  have HB := Lib.hid (fun w' (up : Up w w') k => allClk1_any (H := H) (aR := aR) (aO := aO) (aP := aP) (nR := nR) (cR := cR) (nO := nO) (cO := cO) (nP := nP) (cP := cP) (b0 := b0) (b1 := b1) (b2 := b2) (b3 := b3) (b4 := b4) k hn (up.blk kB))
  clear hm I kB
  go_enter Try.func99, Try.ntmps99
  go_wp2_with fail
  go_loopw [8] (fun i wr => ∃ k : Nat, k ≤ xs.length ∧ i = .int .i64 k ∧ Hid (xs.all (T.clkP nR) = (xs.drop k).all (T.clkP nR)) ∧ Up w wr) (fun i _ => xs.length - (intOf i).toNat)
  case atStart => exact ⟨0, Nat.zero_le _, rfl, rfl, Up.refl _⟩
  case round =>
    obtain ⟨k, hk, rfl, hD, U⟩ := hrel
    by_cases hlt : k < xs.length
    · obtain ⟨a1, c1, e1, _, _, hm⟩ := (HI.out.up U).is
      injection e1 with e1 e2 e3
      subst e1 e3
      clear e2
      obtain ⟨g, off, rfl, gl, hc⟩ := hm (by omega)
      have x0 := hc k hlt
      have st := all_drop' (d := 0) (p := T.clkP nR) hlt
      generalize xs.getD k 0 = k' at *
      have HC := Lib.hid (HB.out wr U k')
      clear hc hm
      cases hq : T.clkP nR k' with
      | true =>
        rw [hq, Bool.true_and] at st
        have h3 := Lib.hid (hD.out.trans st)
        rw [hq, Bool.not_true] at HC
        clear st hD hq
        go_wp2_with fail
        refine HC.out.mono ?_
        rintro e w1 ⟨rfl, u1⟩
        go_wp2
        go_roundw
        case rel => exact ⟨k + 1, by omega, by go_num, h3, U.trans u1⟩
        case measure => simp [intOf]; omega
      | false =>
        rw [hq, Bool.false_and] at st
        have h3 := Lib.hid (hD.out.trans st)
        rw [hq, Bool.not_false] at HC
        clear st hD hq
        go_wp2_with fail
        refine HC.out.mono ?_
        rintro e w1 ⟨rfl, u1⟩
        go_wp2
        go_ret
        exact ⟨_, rfl, (by rw [h3.out]; simp : decide ((k : Int) ≥ 0) = _), U.trans u1⟩
    · have h3 := hD.out
      rw [List.drop_eq_nil_of_le (by omega)] at h3
      have h4 := Lib.hid h3
      clear h3
      go_wp2
      go_ret
      exact ⟨-1, rfl, by rw [h4.out]; simp, U⟩
set_option maxRecDepth 100000 in
theorem cfClk_any {xs : List Int} {v : Value} {w : World} (hn : nR ≤ 9223372036854775807) (I : Ints w v xs) {B : Nat} (kB : mblk w B = some (.cells #[.func (.func 69) #[(CeV H (.slice aR nR cR) (.slice aO nO cO) (.slice aP nP cP) b0 b1 b2 b3 b4)] #[]] 120 (0, 0))) : Calls Try.prog 85 #[v, .func (.func 86) #[] #[.pointer (some ⟨B, 0, none⟩)]] w fun e w' => e = .returned (.bool (!xs.all (T.clkP nR))) ∧ Up w w' := by
  have HX := Lib.hid (ifClk_any hn I kB)
  generalize (!xs.all (T.clkP nR)) = q at *
  clear I kB
  go_enter Try.func85, Try.ntmps85
  go_wp2_with fail
  refine HX.out.mono ?_
  rintro e w1 ⟨r, rfl, hr, u1⟩
  go_wp2
  go_ret
  exact ⟨rfl, u1⟩
set_option maxRecDepth 100000 in
theorem allClk_any {xs : List Int} {v : Value} {w : World} (hn : nR ≤ 9223372036854775807) (I : Ints w v xs) (m : Nat) : Calls Try.prog 68 #[v, .int .i64 m, .func (.func 69) #[(CeV H (.slice aR nR cR) (.slice aO nO cO) (.slice aP nP cP) b0 b1 b2 b3 b4)] #[]] w fun e w' => e = .returned (.bool (decide (xs.length ≤ m) && xs.all (T.clkP nR))) ∧ Up w w' := by
  have U := (Up.refl w).alloc (.cells #[.func (.func 69) #[(CeV H (.slice aR nR cR) (.slice aO nO cO) (.slice aP nP cP) b0 b1 b2 b3 b4)] #[]] 120)
  have HX := Lib.hid (cfClk_any hn (I.up U) (blk_new w (.cells #[.func (.func 69) #[(CeV H (.slice aR nR cR) (.slice aO nO cO) (.slice aP nP cP) b0 b1 b2 b3 b4)] #[]] 120) _ rfl))
  obtain ⟨a0, c0, rfl, _, hl, _⟩ := I.is
  clear I
  by_cases h10 : xs.length ≤ m
  · rw [decide_eq_true h10, Bool.true_and]
    generalize xs.all (T.clkP nR) = q at *
    have g : decide (xs.length ≤ m) = true := decide_eq_true h10
    have g' : (xs.length : Int) ≤ m := by omega
    go_enter Try.func68, Try.ntmps68
    go_wp2_with fail
    refine HX.out.mono ?_
    rintro e w1 ⟨rfl, u1⟩
    go_wp2
    go_ret
    exact ⟨rfl, U.trans u1⟩
  · rw [decide_eq_false h10, Bool.false_and]
    have g : decide (xs.length ≤ m) = false := decide_eq_false h10
    have g' : ¬ (xs.length : Int) ≤ m := by omega
    clear HX
    go_enter Try.func68, Try.ntmps68
    go_wp2
    go_ret
    exact ⟨rfl, U⟩

set_option maxRecDepth 100000 in
theorem allHr1_any (k : Int) {B : Nat} {w : World}  (kB : mblk w B = some (.cells #[.func (.func 70) #[(CeV H (.slice aR nR cR) (.slice aO nO cO) (.slice aP nP cP) b0 b1 b2 b3 b4)] #[]] 120 (0, 0))) : Calls Try.prog 86 #[.int .i64 k, .pointer (some ⟨B, 0, none⟩)] w fun e w' => e = .returned (.bool (!T.hrP H k)) ∧ Up w w' := by
  have U := Up.refl w
  have k1 := kB
  have lB := blk_lt kB
  have f1 := cellB k1
  have HL := Lib.hid (fun w => show Calls Try.prog 70 #[(CeV H (.slice aR nR cR) (.slice aO nO cO) (.slice aP nP cP) b0 b1 b2 b3 b4), .int .i64 k] w fun e w' => e = .returned (.bool (T.hrP H k)) ∧ Up w w' from isHour_any (H := H) (aR := aR) (aO := aO) (aP := aP) (nR := nR) (cR := cR) (nO := nO) (cO := cO) (nP := nP) (cP := cP) (b0 := b0) (b1 := b1) (b2 := b2) (b3 := b3) (b4 := b4) k w)
  generalize T.hrP H k = q at *
  go_enter Try.func86, Try.ntmps86
  go_wp2_with fail
  refine (HL.out _).mono ?_
  rintro e w1 ⟨rfl, u1⟩
  go_wp2
  go_ret
  exact ⟨rfl, u1⟩
set_option maxRecDepth 100000 in
set_option maxHeartbeats 1000000 in
theorem ifHr_any {xs : List Int} {v : Value} {w : World}  (I : Ints w v xs) {B : Nat} (kB : mblk w B = some (.cells #[.func (.func 70) #[(CeV H (.slice aR nR cR) (.slice aO nO cO) (.slice aP nP cP) b0 b1 b2 b3 b4)] #[]] 120 (0, 0))) : Calls Try.prog 99 #[v, .func (.func 86) #[] #[.pointer (some ⟨B, 0, none⟩)]] w fun e w' => ∃ r : Int, e = .returned (.int .i64 r) ∧ decide (r ≥ 0) = !xs.all (T.hrP H) ∧ Up w w' := by
  obtain ⟨a0, c0, rfl, _, hl, hm⟩ := I.is
  have HI := Lib.hid I
  have HB := Lib.hid (fun w' (up : Up w w') k => allHr1_any (H := H) (aR := aR) (aO := aO) (aP := aP) (nR := nR) (cR := cR) (nO := nO) (cO := cO) (nP := nP) (cP := cP) (b0 := b0) (b1 := b1) (b2 := b2) (b3 := b3) (b4 := b4) k  (up.blk kB))
  clear hm I kB
  go_enter Try.func99, Try.ntmps99
  go_wp2_with fail
  go_loopw [8] (fun i wr => ∃ k : Nat, k ≤ xs.length ∧ i = .int .i64 k ∧ Hid (xs.all (T.hrP H) = (xs.drop k).all (T.hrP H)) ∧ Up w wr) (fun i _ => xs.length - (intOf i).toNat)
  case atStart => exact ⟨0, Nat.zero_le _, rfl, rfl, Up.refl _⟩
  case round =>
    obtain ⟨k, hk, rfl, hD, U⟩ := hrel
    by_cases hlt : k < xs.length
    · obtain ⟨a1, c1, e1, _, _, hm⟩ := (HI.out.up U).is
      injection e1 with e1 e2 e3
      subst e1 e3
      clear e2
      obtain ⟨g, off, rfl, gl, hc⟩ := hm (by omega)
      have x0 := hc k hlt
      have st := all_drop' (d := 0) (p := T.hrP H) hlt
      generalize xs.getD k 0 = k' at *
      have HC := Lib.hid (HB.out wr U k')
      clear hc hm
      cases hq : T.hrP H k' with
      | true =>
        rw [hq, Bool.true_and] at st
        have h3 := Lib.hid (hD.out.trans st)
        rw [hq, Bool.not_true] at HC
        clear st hD hq
        go_wp2_with fail
        refine HC.out.mono ?_
        rintro e w1 ⟨rfl, u1⟩
        go_wp2
        go_roundw
        case rel => exact ⟨k + 1, by omega, by go_num, h3, U.trans u1⟩
        case measure => simp [intOf]; omega
      | false =>
        rw [hq, Bool.false_and] at st
        have h3 := Lib.hid (hD.out.trans st)
        rw [hq, Bool.not_false] at HC
        clear st hD hq
        go_wp2_with fail
        refine HC.out.mono ?_
        rintro e w1 ⟨rfl, u1⟩
        go_wp2
        go_ret
        exact ⟨_, rfl, (by rw [h3.out]; simp : decide ((k : Int) ≥ 0) = _), U.trans u1⟩
    · have h3 := hD.out
      rw [List.drop_eq_nil_of_le (by omega)] at h3
      have h4 := Lib.hid h3
      clear h3
      go_wp2
      go_ret
      exact ⟨-1, rfl, by rw [h4.out]; simp, U⟩
set_option maxRecDepth 100000 in
theorem cfHr_any {xs : List Int} {v : Value} {w : World}  (I : Ints w v xs) {B : Nat} (kB : mblk w B = some (.cells #[.func (.func 70) #[(CeV H (.slice aR nR cR) (.slice aO nO cO) (.slice aP nP cP) b0 b1 b2 b3 b4)] #[]] 120 (0, 0))) : Calls Try.prog 85 #[v, .func (.func 86) #[] #[.pointer (some ⟨B, 0, none⟩)]] w fun e w' => e = .returned (.bool (!xs.all (T.hrP H))) ∧ Up w w' := by
  have HX := Lib.hid (ifHr_any  I kB)
  generalize (!xs.all (T.hrP H)) = q at *
  clear I kB
  go_enter Try.func85, Try.ntmps85
  go_wp2_with fail
  refine HX.out.mono ?_
  rintro e w1 ⟨r, rfl, hr, u1⟩
  go_wp2
  go_ret
  exact ⟨rfl, u1⟩
set_option maxRecDepth 100000 in
theorem allHr_any {xs : List Int} {v : Value} {w : World}  (I : Ints w v xs) (m : Nat) : Calls Try.prog 68 #[v, .int .i64 m, .func (.func 70) #[(CeV H (.slice aR nR cR) (.slice aO nO cO) (.slice aP nP cP) b0 b1 b2 b3 b4)] #[]] w fun e w' => e = .returned (.bool (decide (xs.length ≤ m) && xs.all (T.hrP H))) ∧ Up w w' := by
  have U := (Up.refl w).alloc (.cells #[.func (.func 70) #[(CeV H (.slice aR nR cR) (.slice aO nO cO) (.slice aP nP cP) b0 b1 b2 b3 b4)] #[]] 120)
  have HX := Lib.hid (cfHr_any  (I.up U) (blk_new w (.cells #[.func (.func 70) #[(CeV H (.slice aR nR cR) (.slice aO nO cO) (.slice aP nP cP) b0 b1 b2 b3 b4)] #[]] 120) _ rfl))
  obtain ⟨a0, c0, rfl, _, hl, _⟩ := I.is
  clear I
  by_cases h10 : xs.length ≤ m
  · rw [decide_eq_true h10, Bool.true_and]
    generalize xs.all (T.hrP H) = q at *
    have g : decide (xs.length ≤ m) = true := decide_eq_true h10
    have g' : (xs.length : Int) ≤ m := by omega
    go_enter Try.func68, Try.ntmps68
    go_wp2_with fail
    refine HX.out.mono ?_
    rintro e w1 ⟨rfl, u1⟩
    go_wp2
    go_ret
    exact ⟨rfl, U.trans u1⟩
  · rw [decide_eq_false h10, Bool.false_and]
    have g : decide (xs.length ≤ m) = false := decide_eq_false h10
    have g' : ¬ (xs.length : Int) ≤ m := by omega
    clear HX
    go_enter Try.func68, Try.ntmps68
    go_wp2
    go_ret
    exact ⟨rfl, U⟩
end

end Go.Proofs.Ytcmdaiklkdeanaa
