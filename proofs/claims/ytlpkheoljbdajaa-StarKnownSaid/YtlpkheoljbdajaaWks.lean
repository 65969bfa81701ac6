import Derived.Test.YtlpkheoljbdajaaSam
import Derived.Test.YtlpkheoljbdajaaLsW
/- The mathematics of the laws' example. -/
namespace Go.Proofs.Ytlpkheoljbdajaa
open Go.RowKit

/-- numbers by a table -/
def T.tab (l : List Int) : Int → Int := fun i => l.getD i.toNat 0
def T.hlB (y : Int → Int) (x : T.T5) : Bool := inB (y (1 + x.1) - y (T.fst x.2.1 + x.2.2.1)) (x.2.2.2.1 - x.2.2.2.2) (x.2.2.2.1 + x.2.2.2.2)
/-- a check of a table -/
def T.tchk (N : Nat) (bl bh rl rh : Int) (ps qs : List (Int × Int)) (ls : List T.T5) (o : Nat → Bool) (y : Int → Int) : Bool :=
  inB (y 1 - y 0) bl bh && ((List.range (N - 1)).all (fun k => inB (y (1 + ((k : Int) + 1)) - y (1 + (k : Int))) rl rh) && ((List.range ps.length).all (fun k => inB (y 0 - y (9 + (k : Int))) (ps.getD k (0, 0)).1 (ps.getD k (0, 0)).2) && ((List.range qs.length).all (fun k => inB (y (13 + (k : Int)) - y 0) (qs.getD k (0, 0)).1 (qs.getD k (0, 0)).2) && (List.range ls.length).all (fun k => o k || T.hlB y (ls.getD k (0, 0, 0, 0, 0))))))
theorem T.tchk_tru {N : Nat} {bl bh rl rh : Int} {ps qs : List (Int × Int)} {ls : List T.T5} {o : Nat → Bool} {y : Int → Int} (h : T.tchk N bl bh rl rh ps qs ls o y = true) : T.Tru N bl bh rl rh ps qs ls o y := by
  unfold T.tchk at h
  simp only [Bool.and_eq_true, List.all_eq_true, List.mem_range, inB_iff] at h
  obtain ⟨h1, h2, h3, h4, h5⟩ := h
  refine ⟨h1, fun k hk => h2 k (by omega), h3, h4, fun k hk ho => ?_⟩
  have q := h5 k hk
  rw [ho, Bool.false_or] at q
  exact inB_iff.1 q
abbrev T.ps0 : List (Int × Int) := [(-50, 50), (-20, 20)]
abbrev T.qs0 : List (Int × Int) := [(30, 60)]
abbrev T.lsR (r : Int) : List T.T5 := [(0, 0, 0, 40, 5), (0, 0, 1, 60, 10), (1, 1, 0, 20, 5), (2, 0, 0, r, 5)]
abbrev T.ls0 : List T.T5 := T.lsR 70
abbrev T.ls5 : List T.T5 := [(0, 0, 0, 40, 5), (0, 0, 1, 60, 10), (1, 1, 0, 20, 5), (2, 0, 0, 70, 5), (0, 0, 1, 60, 30)]
theorem T.ok0 : T.valid 3 0 100 (-10) 20 T.ps0 T.qs0 T.ls0 = true := by kernel_rfl
theorem T.ok2 : T.valid 3 0 100 (-10) 20 T.ps0 T.qs0 (T.lsR 200) = true := by kernel_rfl
theorem T.ok5 : T.valid 3 0 100 (-10) 20 T.ps0 T.qs0 T.ls5 = true := by kernel_rfl
/-- what a truth of the example is, in numbers (the look that reads r, and those left out) -/
theorem T.ex_tru {r : Int} {o : Nat → Bool} {y : Int → Int} (h : T.Tru 3 0 100 (-10) 20 T.ps0 T.qs0 (T.lsR r) o y) : (0 ≤ y 1 - y 0 ∧ y 1 - y 0 ≤ 100) ∧ (-10 ≤ y 2 - y 1 ∧ y 2 - y 1 ≤ 20) ∧ (-10 ≤ y 3 - y 2 ∧ y 3 - y 2 ≤ 20) ∧ (-50 ≤ y 0 - y 9 ∧ y 0 - y 9 ≤ 50) ∧ (-20 ≤ y 0 - y 10 ∧ y 0 - y 10 ≤ 20) ∧ (30 ≤ y 13 - y 0 ∧ y 13 - y 0 ≤ 60) ∧
    (o 0 = false → 35 ≤ y 1 - y 9 ∧ y 1 - y 9 ≤ 45) ∧ (o 1 = false → 50 ≤ y 1 - y 10 ∧ y 1 - y 10 ≤ 70) ∧ (o 2 = false → 15 ≤ y 2 - y 13 ∧ y 2 - y 13 ≤ 25) ∧ (o 3 = false → r - 5 ≤ y 3 - y 9 ∧ y 3 - y 9 ≤ r + 5) :=
  ⟨h.beg, h.rat 0 (by decide), h.rat 1 (by decide), h.per 0 (by decide), h.per 1 (by decide), h.pth 0 (by decide), h.lok 0 (show (0 : Nat) < 4 by decide), h.lok 1 (show (1 : Nat) < 4 by decide), h.lok 2 (show (2 : Nat) < 4 by decide), h.lok 3 (show (3 : Nat) < 4 by decide)⟩
/-- and of the one with a look more -/
theorem T.ex_tru5 {o : Nat → Bool} {y : Int → Int} (h : T.Tru 3 0 100 (-10) 20 T.ps0 T.qs0 T.ls5 o y) : (0 ≤ y 1 - y 0 ∧ y 1 - y 0 ≤ 100) ∧ (-10 ≤ y 2 - y 1 ∧ y 2 - y 1 ≤ 20) ∧ (-10 ≤ y 3 - y 2 ∧ y 3 - y 2 ≤ 20) ∧ (-50 ≤ y 0 - y 9 ∧ y 0 - y 9 ≤ 50) ∧ (-20 ≤ y 0 - y 10 ∧ y 0 - y 10 ≤ 20) ∧ (30 ≤ y 13 - y 0 ∧ y 13 - y 0 ≤ 60) ∧
    (o 0 = false → 35 ≤ y 1 - y 9 ∧ y 1 - y 9 ≤ 45) ∧ (o 1 = false → 50 ≤ y 1 - y 10 ∧ y 1 - y 10 ≤ 70) ∧ (o 2 = false → 15 ≤ y 2 - y 13 ∧ y 2 - y 13 ≤ 25) ∧ (o 3 = false → 65 ≤ y 3 - y 9 ∧ y 3 - y 9 ≤ 75) :=
  ⟨h.beg, h.rat 0 (by decide), h.rat 1 (by decide), h.per 0 (by decide), h.per 1 (by decide), h.pth 0 (by decide), h.lok 0 (by decide), h.lok 1 (by decide), h.lok 2 (by decide), h.lok 3 (by decide)⟩
abbrev T.eLo : Int → Int := T.tab [0, 30, 45, 50, 0, 0, 0, 0, 0, -15, -20, 0, 0, 30, 0, 0, 0]
abbrev T.eHi : Int → Int := T.tab [0, 85, 85, 105, 0, 0, 0, 0, 0, 40, 20, 0, 0, 60, 0, 0, 0]
abbrev T.bLo : Int → Int := T.tab [-105, -40, -20, 0, 0, 0, 0, 0, 0, -75, -110, 0, 0, -45, 0, 0, 0]
abbrev T.bHi : Int → Int := T.tab [-50, -20, 0, 0, 0, 0, 0, 0, 0, -65, -70, 0, 0, -15, 0, 0, 0]
theorem T.e_lo : T.Tr 3 0 100 (-10) 20 T.ps0 T.qs0 T.ls0 T.eLo := T.tchk_tru (by kernel_rfl)
theorem T.e_hi : T.Tr 3 0 100 (-10) 20 T.ps0 T.qs0 T.ls0 T.eHi := T.tchk_tru (by kernel_rfl)
theorem T.b_lo : T.Tr 3 0 100 (-10) 20 T.ps0 T.qs0 T.ls0 T.bLo := T.tchk_tru (by kernel_rfl)
theorem T.b_hi : T.Tr 3 0 100 (-10) 20 T.ps0 T.qs0 T.ls0 T.bHi := T.tchk_tru (by kernel_rfl)
abbrev T.tr0 : (Int → Int) → Prop := T.Tr 3 0 100 (-10) 20 T.ps0 T.qs0 T.ls0
theorem T.ex_o0 : T.Tells T.tr0 0 (1 + 0) 30 85 0 := .inl ⟨rfl, fun y hy => by
    obtain ⟨a1, a2, a3, a4, a5, a6, a7, a8, a9, a0⟩ := T.ex_tru hy
    have a7 := a7 rfl
    have a8 := a8 rfl
    have a9 := a9 rfl
    have a0 := a0 rfl
    have z : y (1 + 0) = y 1 := rfl
    omega, ⟨_, T.e_lo, by kernel_rfl⟩, _, T.e_hi, by kernel_rfl⟩
theorem T.ex_o1 : T.Tells T.tr0 0 (1 + 1) 45 85 0 := .inl ⟨rfl, fun y hy => by
    obtain ⟨a1, a2, a3, a4, a5, a6, a7, a8, a9, a0⟩ := T.ex_tru hy
    have a7 := a7 rfl
    have a8 := a8 rfl
    have a9 := a9 rfl
    have a0 := a0 rfl
    have z : y (1 + 1) = y 2 := rfl
    omega, ⟨_, T.e_lo, by kernel_rfl⟩, _, T.e_hi, by kernel_rfl⟩
theorem T.ex_o2 : T.Tells T.tr0 0 (1 + 2) 50 105 0 := .inl ⟨rfl, fun y hy => by
    obtain ⟨a1, a2, a3, a4, a5, a6, a7, a8, a9, a0⟩ := T.ex_tru hy
    have a7 := a7 rfl
    have a8 := a8 rfl
    have a9 := a9 rfl
    have a0 := a0 rfl
    have z : y (1 + 2) = y 3 := rfl
    omega, ⟨_, T.e_lo, by kernel_rfl⟩, _, T.e_hi, by kernel_rfl⟩
theorem T.ex_b20 : T.Tells T.tr0 (1 + 2) (1 + 0) (-40) (-20) 0 := .inl ⟨rfl, fun y hy => by
    obtain ⟨a1, a2, a3, a4, a5, a6, a7, a8, a9, a0⟩ := T.ex_tru hy
    have a7 := a7 rfl
    have a8 := a8 rfl
    have a9 := a9 rfl
    have a0 := a0 rfl
    have z : y (1 + 0) = y 1 := rfl
    have z' : y (1 + 2) = y 3 := rfl
    omega, ⟨_, T.b_lo, by kernel_rfl⟩, _, T.b_hi, by kernel_rfl⟩
theorem T.ex_p0 : T.Tells T.tr0 (9 + 0) 0 (-40) 15 0 := .inl ⟨rfl, fun y hy => by
    obtain ⟨a1, a2, a3, a4, a5, a6, a7, a8, a9, a0⟩ := T.ex_tru hy
    have a7 := a7 rfl
    have a8 := a8 rfl
    have a9 := a9 rfl
    have a0 := a0 rfl
    have z : y (9 + 0) = y 9 := rfl
    omega, ⟨_, T.e_hi, by kernel_rfl⟩, _, T.e_lo, by kernel_rfl⟩
theorem T.ex_q0 : T.Tells T.tr0 0 (13 + 0) 30 60 0 := .inl ⟨rfl, fun y hy => by
    obtain ⟨a1, a2, a3, a4, a5, a6, a7, a8, a9, a0⟩ := T.ex_tru hy
    have a7 := a7 rfl
    have a8 := a8 rfl
    have a9 := a9 rfl
    have a0 := a0 rfl
    have z : y (13 + 0) = y 13 := rfl
    omega, ⟨_, T.e_lo, by kernel_rfl⟩, _, T.e_hi, by kernel_rfl⟩
/-- the look 3 contradicts all by itself -/
theorem T.torn_no {o : Nat → Bool} (h3 : o 3 = false) : ∀ y, ¬ T.Tru 3 0 100 (-10) 20 T.ps0 T.qs0 (T.lsR 200) o y := fun y hy => by
  obtain ⟨a1, a2, a3, a4, a5, a6, a7, a8, a9, a0⟩ := T.ex_tru hy
  have a0 := a0 h3
  omega
theorem T.torn_yes : T.Tru 3 0 100 (-10) 20 T.ps0 T.qs0 (T.lsR 200) (T.st (fun _ => false) 3 true) (T.tab [0, 30, 45, 35, 0, 0, 0, 0, 0, -15, -20, 0, 0, 30, 0, 0, 0]) := T.tchk_tru (by kernel_rfl)
theorem T.few_four {P : (Nat → Bool) → Bool} (h : P (fun _ => false) = false) (h0 : P (T.st (fun _ => false) 0 true) = false) (h1 : P (T.st (fun _ => false) 1 true) = false) (h2 : P (T.st (fun _ => false) 2 true) = false) (h3 : P (T.st (fun _ => false) 3 true) = true) : T.few P 4 0 = some (T.st (fun _ => false) 3 true) := by
  have e0 : T.ch P 4 0 0 (fun _ => false) = none := by unfold T.ch; rw [h]; rfl
  have c0 : ∀ fr t, T.ch P 4 0 fr t = if P t then some t else none := fun _ _ => by unfold T.ch; rfl
  have e1 : T.ch P 4 1 0 (fun _ => false) = some (T.st (fun _ => false) 3 true) := by
    unfold T.ch
    simp only [show List.range' 0 (4 - 0) = [0, 1, 2, 3] from rfl, List.findSome?_cons, c0, h0, h1, h2, h3, Bool.false_eq_true, if_false, if_true]
  unfold T.few
  rw [show (4 + 1 - 0) = 3 + 1 + 1 from rfl, List.range'_succ, List.findSome?_cons, e0, List.range'_succ, List.findSome?_cons, e1]
theorem T.canP_tru {N : Nat} {bl bh rl rh : Int} {ps qs : List (Int × Int)} {ls : List T.T5} {s : Nat → Bool} (hv : T.valid N bl bh rl rh ps qs ls = true) : T.canP N bl bh rl rh ps qs ls s = true ↔ ∃ y, T.Tru N bl bh rl rh ps qs ls s y := by
  rw [T.canP_iff]
  simp only [T.sat_tru (T.valid_bok hv)]
theorem T.torn_can (o : Nat → Bool) (h3 : o 3 = false) : T.canP 3 0 100 (-10) 20 T.ps0 T.qs0 (T.lsR 200) o = false := by
  rw [Bool.eq_false_iff]
  intro h
  obtain ⟨y, hy⟩ := (T.canP_tru T.ok2).1 h
  exact T.torn_no h3 y hy
theorem T.ex_wrong : T.lst (T.fewS (T.canP 3 0 100 (-10) 20 T.ps0 T.qs0 (T.lsR 200)) 4) 10 = [3] := by
  have q := T.few_four (P := T.canP 3 0 100 (-10) 20 T.ps0 T.qs0 (T.lsR 200)) (T.torn_can _ rfl) (T.torn_can _ rfl) (T.torn_can _ rfl) (T.torn_can _ rfl) ((T.canP_tru T.ok2).2 ⟨_, T.torn_yes⟩)
  unfold T.fewS
  rw [q]
  rfl
abbrev T.tr5 (o : Nat → Bool) : (Int → Int) → Prop := T.Tru 3 0 100 (-10) 20 T.ps0 T.qs0 T.ls5 o
theorem T.i_lo : T.tr5 T.o0 T.eLo := T.tchk_tru (by kernel_rfl)
abbrev T.iw0 : Int → Int := T.tab [0, 90, 85, 105, 0, 0, 0, 0, 0, 40, 20, 0, 0, 60, 0, 0, 0]
theorem T.i_w0 : T.tr5 (T.st T.o0 0 true) T.iw0 := T.tchk_tru (by kernel_rfl)
theorem T.i_v0 : T.iw0 1 - T.iw0 0 = 90 := by kernel_rfl
abbrev T.iw1 : Int → Int := T.tab [0, 25, 45, 45, 0, 0, 0, 0, 0, -20, -20, 0, 0, 30, 0, 0, 0]
theorem T.i_w1 : T.tr5 (T.st T.o0 1 true) T.iw1 := T.tchk_tru (by kernel_rfl)
theorem T.i_v1 : T.iw1 1 - T.iw1 0 = 25 := by kernel_rfl
abbrev T.iw2 : Int → Int := T.tab [0, 90, 110, 125, 0, 0, 0, 0, 0, 50, 20, 0, 0, 60, 0, 0, 0]
theorem T.i_w2 : T.tr5 (T.st T.o0 2 true) T.iw2 := T.tchk_tru (by kernel_rfl)
theorem T.i_v2 : T.iw2 1 - T.iw2 0 = 90 := by kernel_rfl
abbrev T.iw3 : Int → Int := T.tab [0, 90, 85, 105, 0, 0, 0, 0, 0, 50, 20, 0, 0, 60, 0, 0, 0]
theorem T.i_w3 : T.tr5 (T.st T.o0 3 true) T.iw3 := T.tchk_tru (by kernel_rfl)
theorem T.i_v3 : T.iw3 1 - T.iw3 0 = 90 := by kernel_rfl
theorem T.i_in {y : Int → Int} (h : T.tr5 T.o0 y) : 30 ≤ y 1 - y 0 ∧ y 1 - y 0 ≤ 85 := by
  obtain ⟨a1, a2, a3, a4, a5, a6, a7, a8, a9, a0⟩ := T.ex_tru5 h
  have a7 := a7 rfl
  have a8 := a8 rfl
  have a9 := a9 rfl
  have a0 := a0 rfl
  omega
theorem T.i_4 {y : Int → Int} (h : T.tr5 (T.st T.o0 4 true) y) : T.tr5 T.o0 y := by
  obtain ⟨a1, a2, a3, a4, a5, a6, a7, a8, a9, a0⟩ := T.ex_tru5 h
  have a8 := a8 rfl
  refine ⟨h.beg, h.rat, h.per, h.pth, fun k hk _ => ?_⟩
  have hk' : k < 5 := hk
  by_cases e : k = 4
  · subst e
    show (60 : Int) - 30 ≤ y 1 - y 10 ∧ y 1 - y 10 ≤ 60 + 30
    omega
  · exact h.lok k hk (by rw [T.st_ne _ _ e])
theorem T.ex_idle {s : Nat → Bool} (hs : ∀ j, s j = true ↔ (j < 5 ∧ T.Same (T.web 3 0 100 (-10) 20 T.ps0 T.qs0 T.ls5 T.o0) (T.web 3 0 100 (-10) 20 T.ps0 T.qs0 T.ls5 (T.st T.o0 j true)))) : T.lst s 10 = [4] := by
  have no : ∀ j, j < 4 → s j = false := fun j hj => by
    rw [Bool.eq_false_iff]
    intro h
    have q := (T.same_tells T.ok5 ⟨_, T.i_lo⟩ (fun y hy => hy.less (fun _ _ => rfl))).1 ((hs j).1 h).2 1 (show T.Alive 3 2 1 1 from .inr (.inl ⟨by decide, by decide⟩))
    have key : ∀ y, T.tr5 (T.st T.o0 j true) y → 30 ≤ y 1 - y 0 ∧ y 1 - y 0 ≤ 85 := fun y hy => by
      obtain ⟨l, h, p, q1, q2⟩ := q
      have a := (q2.yes.1) y hy
      obtain ⟨_, ⟨u, hu, e1⟩, v, hv, e2⟩ := q1.yes
      have b1 := T.i_in hu
      have b2 := T.i_in hv
      omega
    clear q h
    have hj' : j = 0 ∨ j = 1 ∨ j = 2 ∨ j = 3 := by omega
    rcases hj' with rfl | rfl | rfl | rfl
    · exact absurd (key _ T.i_w0) (by rw [T.i_v0]; decide)
    · exact absurd (key _ T.i_w1) (by rw [T.i_v1]; decide)
    · exact absurd (key _ T.i_w2) (by rw [T.i_v2]; decide)
    · exact absurd (key _ T.i_w3) (by rw [T.i_v3]; decide)
  have yes : s 4 = true := (hs 4).2 ⟨by omega, T.same_of T.ok5 (fun y => ⟨fun h => h.less (fun _ _ => rfl), T.i_4⟩)⟩
  have hi : ∀ j, 5 ≤ j → s j = false := fun j hj => by
    rw [Bool.eq_false_iff]
    intro h
    have := ((hs j).1 h).1
    omega
  have e : (List.range 10).filter s = [4] := by
    simp only [show List.range 10 = [0, 1, 2, 3, 4, 5, 6, 7, 8, 9] from rfl, List.filter_cons, no 0 (by omega), no 1 (by omega), no 2 (by omega), no 3 (by omega), yes, hi 5 (by omega), hi 6 (by omega), hi 7 (by omega), hi 8 (by omega), hi 9 (by omega), if_true, List.filter_nil, Bool.false_eq_true, if_false]
  unfold T.lst
  rw [e]
  rfl
theorem T.ex_worst {a b c : Int} (h : T.WorstIs (T.web 3 0 100 (-10) 20 T.ps0 T.qs0 T.ls0 T.o0) 3 a b c) : a = 0 ∧ b = 55 ∧ c = 0 := by
  have B := T.valid_bok T.ok0
  have told : ∀ {k : Nat} {l h : Int}, T.Told (T.web 3 0 100 (-10) 20 T.ps0 T.qs0 T.ls0 T.o0) 0 (1 + k) l h → T.Tells T.tr0 0 (1 + k) l h 0 := fun q => (T.tells_asked B).1 (.inl ⟨rfl, q⟩)
  rcases h with ⟨_, _, _, hno⟩ | ⟨lo, hi, hT, hc⟩
  · exact absurd ((T.sat_tru B).2 T.e_lo) (hno _)
  · have t0 := (told (hT 0 (by omega))).uniq T.ex_o0
    have t1 := (told (hT 1 (by omega))).uniq T.ex_o1
    have t2 := (told (hT 2 (by omega))).uniq T.ex_o2
    have e : T.wst (fun k => hi k - lo k) 3 = (0, 55) := by
      simp only [T.wst, t0.1, t0.2.1, t1.1, t1.2.1, t2.1, t2.2.1]
      decide
    rw [e] at hc
    rcases hc with ⟨h, _⟩ | ⟨_, h1, h2, h3⟩
    · exact absurd h (by decide)
    · exact ⟨h1, h2, h3⟩

end Go.Proofs.Ytlpkheoljbdajaa
