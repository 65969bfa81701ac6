import Derived.Test.YtlpkheoljbdajaaLws
import Derived.Test.YtlpkheoljbdajaaFws
import Derived.Test.YtlpkheoljbdajaaCst
import Derived.Deep.Cut
import Derived.Test.YtlpkheoljbdajaaHeQ
/- What StarKnown asks: the mathematics of its closed books, and the contracts at them. -/
namespace Go.Proofs.Ytlpkheoljbdajaa
open Go.RowKit Go.Shelf
theorem T.k_u0 : T.tr0 (T.tab [0, 30, 45, 50, 0, 0, 0, 0, 0, -15, -20, 0, 0, 30, 0, 0, 0]) := T.tchk_tru (by kernel_rfl)
theorem T.k_u1 : T.tr0 (T.tab [0, 30, 50, 70, 0, 0, 0, 0, 0, -5, -20, 0, 0, 30, 0, 0, 0]) := T.tchk_tru (by kernel_rfl)
theorem T.k_v0 : T.tr0 (T.tab [0, 45, 45, 65, 0, 0, 0, 0, 0, 0, -20, 0, 0, 30, 0, 0, 0]) := T.tchk_tru (by kernel_rfl)
theorem T.k_v1 : T.tr0 (T.tab [0, 30, 50, 50, 0, 0, 0, 0, 0, -15, -20, 0, 0, 30, 0, 0, 0]) := T.tchk_tru (by kernel_rfl)
theorem T.k_p0 : T.tr0 (T.tab [0, 70, 70, 90, 0, 0, 0, 0, 0, 25, 20, 0, 0, 45, 0, 0, 0]) := T.tchk_tru (by kernel_rfl)
theorem T.k_p1 : T.tr0 (T.tab [0, 30, 45, 50, 0, 0, 0, 0, 0, -15, -20, 0, 0, 30, 0, 0, 0]) := T.tchk_tru (by kernel_rfl)
theorem T.k_b02 : T.Tells T.tr0 (1 + 0) (1 + 2) 20 40 0 := .inl ⟨rfl, fun y hy => by
    obtain ⟨a1, a2, a3, a4, a5, a6, a7, a8, a9, a0⟩ := T.ex_tru hy
    have a7 := a7 rfl
    have a8 := a8 rfl
    have a9 := a9 rfl
    have a0 := a0 rfl
    have z0 : y (1 + 0) = y 1 := rfl
    have z1 : y (1 + 2) = y 3 := rfl
    omega, ⟨_, T.k_u0, by kernel_rfl⟩, _, T.k_u1, by kernel_rfl⟩
theorem T.k_b01 : T.Tells T.tr0 (1 + 0) (1 + 1) 0 20 0 := .inl ⟨rfl, fun y hy => by
    obtain ⟨a1, a2, a3, a4, a5, a6, a7, a8, a9, a0⟩ := T.ex_tru hy
    have a7 := a7 rfl
    have a8 := a8 rfl
    have a9 := a9 rfl
    have a0 := a0 rfl
    have z0 : y (1 + 0) = y 1 := rfl
    have z1 : y (1 + 1) = y 2 := rfl
    omega, ⟨_, T.k_v0, by kernel_rfl⟩, _, T.k_v1, by kernel_rfl⟩
theorem T.k_per : T.Tells T.tr0 (9 + 1) 0 (-20) 20 0 := .inl ⟨rfl, fun y hy => by
    obtain ⟨a1, a2, a3, a4, a5, a6, a7, a8, a9, a0⟩ := T.ex_tru hy
    have a7 := a7 rfl
    have a8 := a8 rfl
    have a9 := a9 rfl
    have a0 := a0 rfl
    have z0 : y (9 + 1) = y 10 := rfl
    omega, ⟨_, T.k_p0, by kernel_rfl⟩, _, T.k_p1, by kernel_rfl⟩
theorem T.k_ex : ∃ y, T.tr0 y := ⟨_, T.e_lo⟩
theorem T.torn_tells {m k : Int} : T.Tells (T.Tr 3 0 100 (-10) 20 T.ps0 T.qs0 (T.lsR 200)) m k 0 0 32 := .inr ⟨rfl, rfl, rfl, T.torn_no rfl⟩
theorem T.k_in {y : Int → Int} (hy : T.tr0 y) : 30 ≤ y 1 - y 0 ∧ y 1 - y 0 ≤ 85 := by
  obtain ⟨a1, a2, a3, a4, a5, a6, a7, a8, a9, a0⟩ := T.ex_tru hy
  have a7 := a7 rfl
  have a8 := a8 rfl
  have a9 := a9 rfl
  have a0 := a0 rfl
  omega
abbrev T.kr (o : Nat → Bool) : (Int → Int) → Prop := T.Tru 3 0 100 (-10) 20 T.ps0 T.qs0 T.ls0 o
abbrev T.kw0 : Int → Int := T.tab [0, 90, 80, 70, 0, 0, 0, 0, 0, -5, 20, 0, 0, 55, 0, 0, 0]
theorem T.k_w0 : T.kr (T.st T.o0 0 true) T.kw0 := T.tchk_tru (by kernel_rfl)
theorem T.k_v0' : T.kw0 1 - T.kw0 0 = 90 := by kernel_rfl
abbrev T.kw1 : Int → Int := T.tab [0, 25, 45, 45, 0, 0, 0, 0, 0, -20, -20, 0, 0, 30, 0, 0, 0]
theorem T.k_w1 : T.kr (T.st T.o0 1 true) T.kw1 := T.tchk_tru (by kernel_rfl)
theorem T.k_v1' : T.kw1 1 - T.kw1 0 = 25 := by kernel_rfl
abbrev T.kw2 : Int → Int := T.tab [0, 90, 90, 110, 0, 0, 0, 0, 0, 45, 20, 0, 0, 30, 0, 0, 0]
theorem T.k_w2 : T.kr (T.st T.o0 2 true) T.kw2 := T.tchk_tru (by kernel_rfl)
theorem T.k_v2' : T.kw2 1 - T.kw2 0 = 90 := by kernel_rfl
abbrev T.kw3 : Int → Int := T.tab [0, 90, 80, 70, 0, 0, 0, 0, 0, 45, 20, 0, 0, 55, 0, 0, 0]
theorem T.k_w3 : T.kr (T.st T.o0 3 true) T.kw3 := T.tchk_tru (by kernel_rfl)
theorem T.k_v3' : T.kw3 1 - T.kw3 0 = 90 := by kernel_rfl
theorem T.k_idle {s : Nat → Bool} (hs : ∀ j, s j = true ↔ (j < 4 ∧ T.Same (T.web 3 0 100 (-10) 20 T.ps0 T.qs0 T.ls0 T.o0) (T.web 3 0 100 (-10) 20 T.ps0 T.qs0 T.ls0 (T.st T.o0 j true)))) : T.lst s 10 = [] := by
  have no : ∀ j, j < 4 → s j = false := fun j hj => by
    rw [Bool.eq_false_iff]
    intro h
    have q := (T.same_tells T.ok0 ⟨_, T.e_lo⟩ (fun y hy => hy.less (fun _ _ => rfl))).1 ((hs j).1 h).2 1 (show T.Alive 3 2 1 1 from .inr (.inl ⟨by decide, by decide⟩))
    have key : ∀ y, T.kr (T.st T.o0 j true) y → 30 ≤ y 1 - y 0 ∧ y 1 - y 0 ≤ 85 := fun y hy => by
      obtain ⟨l, h, p, q1, q2⟩ := q
      have a := (q2.yes.1) y hy
      obtain ⟨_, ⟨u, hu, e1⟩, v, hv, e2⟩ := q1.yes
      have b1 := T.k_in hu
      have b2 := T.k_in hv
      omega
    clear q h
    have hj' : j = 0 ∨ j = 1 ∨ j = 2 ∨ j = 3 := by omega
    rcases hj' with rfl | rfl | rfl | rfl
    · exact absurd (key _ T.k_w0) (by rw [T.k_v0']; decide)
    · exact absurd (key _ T.k_w1) (by rw [T.k_v1']; decide)
    · exact absurd (key _ T.k_w2) (by rw [T.k_v2']; decide)
    · exact absurd (key _ T.k_w3) (by rw [T.k_v3']; decide)
  have hi : ∀ j, 4 ≤ j → s j = false := fun j hj => by
    rw [Bool.eq_false_iff]
    intro h
    have := ((hs j).1 h).1
    omega
  have e : (List.range 10).filter s = [] := by
    simp only [show List.range 10 = [0, 1, 2, 3, 4, 5, 6, 7, 8, 9] from rfl, List.filter_cons, no 0 (by omega), no 1 (by omega), no 2 (by omega), no 3 (by omega), hi 4 (by omega), hi 5 (by omega), hi 6 (by omega), hi 7 (by omega), hi 8 (by omega), hi 9 (by omega), List.filter_nil, Bool.false_eq_true, if_false]
  unfold T.lst
  rw [e]
  rfl
theorem T.okS : T.valid 1 7 7 0 0 [] [] [] = true := by kernel_rfl
abbrev T.trS : (Int → Int) → Prop := T.Tr 1 7 7 0 0 [] [] []
theorem T.s_tru : T.trS (T.tab [0, 7]) := T.tchk_tru (by kernel_rfl)
theorem T.s_tells : T.Tells T.trS 0 (1 + 0) 7 7 0 := .inl ⟨rfl, fun y hy => by
    have h : 7 ≤ y 1 - y 0 ∧ y 1 - y 0 ≤ 7 := hy.beg
    have z : y (1 + 0) = y 1 := rfl
    omega, ⟨_, T.s_tru, by kernel_rfl⟩, _, T.s_tru, by kernel_rfl⟩
theorem T.s_worst {a b c : Int} (h : T.WorstIs (T.web 1 7 7 0 0 [] [] [] T.o0) 1 a b c) : c = 4 := by
  have B := T.valid_bok T.okS
  have told : ∀ {k : Nat} {l h : Int}, T.Told (T.web 1 7 7 0 0 [] [] [] T.o0) 0 (1 + k) l h → T.Tells T.trS 0 (1 + k) l h 0 := fun q => (T.tells_asked B).1 (.inl ⟨rfl, q⟩)
  rcases h with ⟨_, _, _, hno⟩ | ⟨lo, hi, hT, hc⟩
  · exact absurd ((T.sat_tru B).2 T.s_tru) (hno _)
  · have t0 := (told (hT 0 (by omega))).uniq T.s_tells
    have e : (T.wst (fun k => hi k - lo k) 1).2 = 0 := by
      simp only [T.wst, t0.1, t0.2.1]
      decide
    rcases hc with ⟨_, _, _, h⟩ | ⟨h, _⟩
    · exact h
    · exact absurd e h
theorem T.torn_worst {a b c : Int} (h : T.WorstIs (T.web 3 0 100 (-10) 20 T.ps0 T.qs0 (T.lsR 200) T.o0) 3 a b c) : c = 32 := by
  have B := T.valid_bok T.ok2
  have told : ∀ {k : Nat} {l h : Int}, T.Told (T.web 3 0 100 (-10) 20 T.ps0 T.qs0 (T.lsR 200) T.o0) 0 (1 + k) l h → T.Tells (T.Tr 3 0 100 (-10) 20 T.ps0 T.qs0 (T.lsR 200)) 0 (1 + k) l h 0 := fun q => (T.tells_asked B).1 (.inl ⟨rfl, q⟩)
  rcases h with ⟨h, _⟩ | ⟨lo, hi, hT, hc⟩
  · exact h
  · obtain ⟨y, hy⟩ := (told (hT 0 (by omega))).ex0
    exact absurd hy (T.torn_no rfl y)
section
variable {w : World} {aP aQ aL : Option Addr} {cP cQ cL : Nat}
theorem kn_a1 (I : Sps w (.slice aP 2 cP) T.ps0) (J : Sps w (.slice aQ 1 cQ) T.qs0) (K : Lks w (.slice aL 4 cL) T.ls0) : Calls Try.prog 24 #[BoV 3 0 100 (-10) 20 (.slice aP 2 cP) (.slice aQ 1 cQ) (.slice aL 4 cL), .int .i64 3] w fun e w' => e = .returned (.tuple #[SpV 0 0, .int .i64 31]) ∧ Up w w' :=
  Offset_bad (eq := 31) I J K (by kernel_rfl) (by decide)
theorem kn_a2 (I : Sps w (.slice aP 2 cP) T.ps0) (J : Sps w (.slice aQ 1 cQ) T.qs0) (K : Lks w (.slice aL 4 cL) T.ls0) : Calls Try.prog 21 #[BoV 3 0 100 (-10) 20 (.slice aP 2 cP) (.slice aQ 1 cQ) (.slice aL 4 cL), .int .i64 0, .int .i64 (-1)] w fun e w' => e = .returned (.tuple #[SpV 0 0, .int .i64 31]) ∧ Up w w' :=
  Between_bad (eq := 31) I J K (by kernel_rfl) (by decide)
theorem kn_a3 (I : Sps w (.slice aP 2 cP) T.ps0) (J : Sps w (.slice aQ 1 cQ) T.qs0) (K : Lks w (.slice aL 4 cL) T.ls0) : Calls Try.prog 26 #[BoV 3 0 100 (-10) 20 (.slice aP 2 cP) (.slice aQ 1 cQ) (.slice aL 4 cL), .int .i64 2] w fun e w' => e = .returned (.tuple #[SpV 0 0, .int .i64 31]) ∧ Up w w' :=
  Person_bad (eq := 31) I J K (by kernel_rfl) (by decide)
theorem kn_a4 (I : Sps w (.slice aP 2 cP) T.ps0) (J : Sps w (.slice aQ 1 cQ) T.qs0) (K : Lks w (.slice aL 4 cL) T.ls0) : Calls Try.prog 28 #[BoV 3 0 100 (-10) 20 (.slice aP 2 cP) (.slice aQ 1 cQ) (.slice aL 4 cL), .int .i64 1] w fun e w' => e = .returned (.tuple #[SpV 0 0, .int .i64 31]) ∧ Up w w' :=
  Path_bad (eq := 31) I J K (by kernel_rfl) (by decide)
theorem kn_a5 (I : Sps w (.slice aP 2 cP) T.ps0) (J : Sps w (.slice aQ 1 cQ) T.qs0) (K : Lks w (.slice aL 4 cL) (T.lsR 200)) : Calls Try.prog 30 #[BoV 3 0 100 (-10) 20 (.slice aP 2 cP) (.slice aQ 1 cQ) (.slice aL 4 cL), .int .i64 3, .bool true] w fun e w' => e = .returned (.tuple #[.agg #[.slice none 0 0, .slice none 0 0, .slice none 0 0], .int .i64 31]) ∧ Up w w' :=
  Case_bad (eq := 31) I J K (by kernel_rfl) (by decide)
theorem kn_f1 (I : Sps w (.slice aP 2 cP) T.ps0) (J : Sps w (.slice aQ 1 cQ) T.qs0) (K : Lks w (.slice aL 4 cL) (T.lsR 200)) : Calls Try.prog 24 #[BoV 3 0 100 (-10) 20 (.slice aP 2 cP) (.slice aQ 1 cQ) (.slice aL 4 cL), .int .i64 0] w fun e w' => e = .returned (.tuple #[SpV 0 0, .int .i64 32]) ∧ Up w w' :=
  Offset_tells (N := 3) T.ok2 ⟨by omega, by decide⟩ T.torn_tells I J K
theorem kn_f2 (I : Sps w (.slice aP 2 cP) T.ps0) (J : Sps w (.slice aQ 1 cQ) T.qs0) (K : Lks w (.slice aL 4 cL) (T.lsR 200)) : Calls Try.prog 26 #[BoV 3 0 100 (-10) 20 (.slice aP 2 cP) (.slice aQ 1 cQ) (.slice aL 4 cL), .int .i64 0] w fun e w' => e = .returned (.tuple #[SpV 0 0, .int .i64 32]) ∧ Up w w' :=
  Person_tells (N := 3) T.ok2 ⟨by omega, by decide⟩ T.torn_tells I J K
theorem kn_f3 (I : Sps w (.slice aP 2 cP) T.ps0) (J : Sps w (.slice aQ 1 cQ) T.qs0) (K : Lks w (.slice aL 4 cL) (T.lsR 200)) : Calls Try.prog 30 #[BoV 3 0 100 (-10) 20 (.slice aP 2 cP) (.slice aQ 1 cQ) (.slice aL 4 cL), .int .i64 0, .bool false] w fun e w' => e = .returned (.tuple #[.agg #[.slice none 0 0, .slice none 0 0, .slice none 0 0], .int .i64 32]) ∧ Up w w' :=
  Case_no (N := 3) T.ok2 ⟨by omega, by decide⟩ false (T.torn_no rfl) I J K
theorem kn_f4 (I : Sps w (.slice aP 2 cP) T.ps0) (J : Sps w (.slice aQ 1 cQ) T.qs0) (K : Lks w (.slice aL 4 cL) (T.lsR 200)) : Calls Try.prog 34 #[BoV 3 0 100 (-10) 20 (.slice aP 2 cP) (.slice aQ 1 cQ) (.slice aL 4 cL)] w fun e w' => e = .returned (.tuple #[.slice none 0 0, .int .i64 32]) ∧ Up w w' :=
  (Idle_ok (N := 3) I J K T.ok2).mono fun e w' ⟨h, u⟩ => ⟨by
    rcases h with ⟨h, _⟩ | ⟨⟨y, hy⟩, _⟩
    · exact h
    · exact absurd ((T.sat_tru (T.valid_bok T.ok2)).1 hy) (T.torn_no rfl y), u⟩
theorem kn_f5 (I : Sps w (.slice aP 2 cP) T.ps0) (J : Sps w (.slice aQ 1 cQ) T.qs0) (K : Lks w (.slice aL 4 cL) (T.lsR 200)) : Calls Try.prog 36 #[BoV 3 0 100 (-10) 20 (.slice aP 2 cP) (.slice aQ 1 cQ) (.slice aL 4 cL)] w fun e w' => (∃ a b, e = .returned (.tuple #[.int .i64 a, .int .i64 b, .int .i64 32])) ∧ Up w w' :=
  (Worst_ok (N := 3) I J K T.ok2).mono fun e w' ⟨⟨a, b, c, h1, h2⟩, u⟩ => by
    obtain rfl := T.torn_worst h2
    exact ⟨⟨a, b, h1⟩, u⟩
theorem kn_t1 (I : Sps w (.slice aP 2 cP) T.ps0) (J : Sps w (.slice aQ 1 cQ) T.qs0) (K : Lks w (.slice aL 4 cL) T.ls0) : Calls Try.prog 24 #[BoV 3 0 100 (-10) 20 (.slice aP 2 cP) (.slice aQ 1 cQ) (.slice aL 4 cL), .int .i64 0] w fun e w' => e = .returned (.tuple #[SpV 30 85, .int .i64 0]) ∧ Up w w' :=
  Offset_tells (N := 3) T.ok0 ⟨by omega, by decide⟩ T.ex_o0 I J K
theorem kn_t2 (I : Sps w (.slice aP 2 cP) T.ps0) (J : Sps w (.slice aQ 1 cQ) T.qs0) (K : Lks w (.slice aL 4 cL) T.ls0) : Calls Try.prog 24 #[BoV 3 0 100 (-10) 20 (.slice aP 2 cP) (.slice aQ 1 cQ) (.slice aL 4 cL), .int .i64 1] w fun e w' => e = .returned (.tuple #[SpV 45 85, .int .i64 0]) ∧ Up w w' :=
  Offset_tells (N := 3) T.ok0 ⟨by omega, by decide⟩ T.ex_o1 I J K
theorem kn_t3 (I : Sps w (.slice aP 2 cP) T.ps0) (J : Sps w (.slice aQ 1 cQ) T.qs0) (K : Lks w (.slice aL 4 cL) T.ls0) : Calls Try.prog 21 #[BoV 3 0 100 (-10) 20 (.slice aP 2 cP) (.slice aQ 1 cQ) (.slice aL 4 cL), .int .i64 0, .int .i64 2] w fun e w' => e = .returned (.tuple #[SpV 20 40, .int .i64 0]) ∧ Up w w' :=
  Between_tells (N := 3) T.ok0 ⟨by omega, by decide⟩ ⟨by omega, by decide⟩ T.k_b02 I J K
theorem kn_t4 (I : Sps w (.slice aP 2 cP) T.ps0) (J : Sps w (.slice aQ 1 cQ) T.qs0) (K : Lks w (.slice aL 4 cL) T.ls0) : Calls Try.prog 21 #[BoV 3 0 100 (-10) 20 (.slice aP 2 cP) (.slice aQ 1 cQ) (.slice aL 4 cL), .int .i64 0, .int .i64 1] w fun e w' => e = .returned (.tuple #[SpV 0 20, .int .i64 0]) ∧ Up w w' :=
  Between_tells (N := 3) T.ok0 ⟨by omega, by decide⟩ ⟨by omega, by decide⟩ T.k_b01 I J K
theorem kn_t5 (I : Sps w (.slice aP 2 cP) T.ps0) (J : Sps w (.slice aQ 1 cQ) T.qs0) (K : Lks w (.slice aL 4 cL) T.ls0) : Calls Try.prog 26 #[BoV 3 0 100 (-10) 20 (.slice aP 2 cP) (.slice aQ 1 cQ) (.slice aL 4 cL), .int .i64 1] w fun e w' => e = .returned (.tuple #[SpV (-20) 20, .int .i64 0]) ∧ Up w w' :=
  Person_tells (N := 3) T.ok0 ⟨by omega, by decide⟩ T.k_per I J K
theorem kn_t6 (I : Sps w (.slice aP 2 cP) T.ps0) (J : Sps w (.slice aQ 1 cQ) T.qs0) (K : Lks w (.slice aL 4 cL) T.ls0) : Calls Try.prog 31 #[BoV 3 0 100 (-10) 20 (.slice aP 2 cP) (.slice aQ 1 cQ) (.slice aL 4 cL)] w fun e w' => (∃ a c, e = .returned (.tuple #[.slice a 0 c, .int .i64 0])) ∧ Up w w' :=
  by
  obtain ⟨_, q, _⟩ := T.left T.ok0 rfl (t := fun _ => false) (fun _ _ => rfl)
  have h0 := q.2 T.k_ex
  refine (Wrong_ok (N := 3) I J K T.ok0).mono ?_
  rintro e w' ⟨⟨v, rfl, IW⟩, u⟩
  obtain ⟨a, c, rfl, _⟩ := IW.is
  rw [h0]
  exact ⟨⟨a, c, rfl⟩, u⟩
theorem kn_t7 (I : Sps w (.slice aP 2 cP) T.ps0) (J : Sps w (.slice aQ 1 cQ) T.qs0) (K : Lks w (.slice aL 4 cL) T.ls0) : Calls Try.prog 34 #[BoV 3 0 100 (-10) 20 (.slice aP 2 cP) (.slice aQ 1 cQ) (.slice aL 4 cL)] w fun e w' => (∃ a c, e = .returned (.tuple #[.slice a 0 c, .int .i64 0])) ∧ Up w w' :=
  (Idle_ok (N := 3) I J K T.ok0).mono fun e w' ⟨h, u⟩ => ⟨by
    rcases h with ⟨_, hno⟩ | ⟨_, v, s, h1, h2, h3⟩
    · exact absurd ((T.sat_tru (T.valid_bok T.ok0)).2 T.e_lo) (hno _)
    · have q := T.k_idle (s := s) h3
      rw [q] at h2
      obtain ⟨a, c, rfl, _⟩ := h2.is
      exact ⟨a, c, h1⟩, u⟩
/-- the truths that are none -/
theorem kn_it {aO aE aA : Option Addr} {nO cO nE cE nA cA : Nat} {os pe pa : List Int} (I : Sps w (.slice aP 2 cP) T.ps0) (J : Sps w (.slice aQ 1 cQ) T.qs0) (K : Lks w (.slice aL 4 cL) T.ls0) (IO : Ints w (.slice aO nO cO) os) (IE : Ints w (.slice aE nE cE) pe) (IA : Ints w (.slice aA nA cA) pa) (bo : ∀ x ∈ os, D.in64 x) (ba : ∀ x ∈ pa, D.in64 x)
    (hno : ¬ (T.fit (3 : Nat) 2 1 os pe pa = true ∧ T.tr0 (T.nto os pe pa 3))) : Calls Try.prog 17 #[BoV 3 0 100 (-10) 20 (.slice aP 2 cP) (.slice aQ 1 cQ) (.slice aL 4 cL), .agg #[.slice aO nO cO, .slice aE nE cE, .slice aA nA cA]] w fun e w' => e = .returned (.tuple #[.bool false, .int .i64 0]) ∧ Up w w' := by
  obtain rfl := IO.len
  obtain rfl := IE.len
  obtain rfl := IA.len
  refine (IsTruth_ok (N := 3) I J K IO IE IA bo ba T.ok0).mono ?_
  rintro e w' ⟨⟨r, h1, h2⟩, u⟩
  have : r = false := by
    rw [Bool.eq_false_iff]
    intro h
    obtain ⟨f, q⟩ := h2.1 h
    exact hno ⟨f, (T.sat_tru (T.valid_bok T.ok0)).1 q⟩
  subst this
  exact ⟨h1, u⟩
end
theorem kn_s1 {w : World} : Calls Try.prog 36 #[BoV 1 7 7 0 0 (.slice none 0 0) (.slice none 0 0) (.slice none 0 0)] w fun e w' => (∃ a b, e = .returned (.tuple #[.int .i64 a, .int .i64 b, .int .i64 4])) ∧ Up w w' :=
  (Worst_ok (N := 1) (Tab.nil w) (Tab.nil w) (Tab.nil w) T.okS).mono fun e w' ⟨⟨a, b, c, h1, h2⟩, u⟩ => by
    obtain rfl := T.s_worst h2
    exact ⟨⟨a, b, h1⟩, u⟩
theorem kn_s2 {w : World} : Calls Try.prog 30 #[BoV 1 7 7 0 0 (.slice none 0 0) (.slice none 0 0) (.slice none 0 0), .int .i64 0, .bool false] w fun e w' => (∃ aO cO aE cE aA cA, e = .returned (.tuple #[.agg #[.slice aO 1 cO, .slice aE 0 cE, .slice aA 0 cA], .int .i64 0]) ∧ Ints w' (.slice aO 1 cO) [7]) ∧ Up w w' :=
  (Case_tells (N := 1) T.okS ⟨by omega, by decide⟩ false T.s_tells (Tab.nil w) (Tab.nil w) (Tab.nil w)).mono fun e w' ⟨⟨y, aO, cO, aE, cE, aA, cA, h1, h2, _, _, _, y0, y1⟩, u⟩ => by
    have q : T.out false y 1 1 = [7] := by
      have h : y (1 + 0) = 7 := by rw [y1]; rfl
      show [y (1 + 0)] = [7]
      rw [h]
    rw [q] at h2
    exact ⟨⟨aO, cO, aE, cE, aA, cA, h1, h2⟩, u⟩
section
variable {w : World} {M bl bh rl rh : Int} {aP aQ aL : Option Addr} {nP cP nQ cQ nL cL : Nat} {ps qs : List (Int × Int)} {ls : List T.T5} (I : Sps w (.slice aP nP cP) ps) (J : Sps w (.slice aQ nQ cQ) qs) (K : Lks w (.slice aL nL cL) ls) (h : T.valid M bl bh rl rh ps qs ls = false)
include I J K h
theorem kn_nI {v1 v2 v3 : Value} : Calls Try.prog 17 #[BoV M bl bh rl rh (.slice aP nP cP) (.slice aQ nQ cQ) (.slice aL nL cL), .agg #[v1, v2, v3]] w fun e w' => e = .returned (.tuple #[.bool false, .int .i64 30]) ∧ Up w w' :=
  IsTruth_bad I J K h
theorem kn_nO : Calls Try.prog 24 #[BoV M bl bh rl rh (.slice aP nP cP) (.slice aQ nQ cQ) (.slice aL nL cL), .int .i64 (-1)] w fun e w' => e = .returned (.tuple #[SpV 0 0, .int .i64 30]) ∧ Up w w' :=
  Offset_bad (eq := 30) I J K (by unfold T.qErr; rw [h]; rfl) (by decide)
theorem kn_nB : Calls Try.prog 21 #[BoV M bl bh rl rh (.slice aP nP cP) (.slice aQ nQ cQ) (.slice aL nL cL), .int .i64 (-1), .int .i64 0] w fun e w' => e = .returned (.tuple #[SpV 0 0, .int .i64 30]) ∧ Up w w' :=
  Between_bad (eq := 30) I J K (by unfold T.qErr; rw [h]; rfl) (by decide)
theorem kn_nE : Calls Try.prog 26 #[BoV M bl bh rl rh (.slice aP nP cP) (.slice aQ nQ cQ) (.slice aL nL cL), .int .i64 (-1)] w fun e w' => e = .returned (.tuple #[SpV 0 0, .int .i64 30]) ∧ Up w w' :=
  Person_bad (eq := 30) I J K (by unfold T.qErr; rw [h]; rfl) (by decide)
theorem kn_nA : Calls Try.prog 28 #[BoV M bl bh rl rh (.slice aP nP cP) (.slice aQ nQ cQ) (.slice aL nL cL), .int .i64 (-1)] w fun e w' => e = .returned (.tuple #[SpV 0 0, .int .i64 30]) ∧ Up w w' :=
  Path_bad (eq := 30) I J K (by unfold T.qErr; rw [h]; rfl) (by decide)
theorem kn_nC : Calls Try.prog 30 #[BoV M bl bh rl rh (.slice aP nP cP) (.slice aQ nQ cQ) (.slice aL nL cL), .int .i64 (-1), .bool true] w fun e w' => e = .returned (.tuple #[.agg #[.slice none 0 0, .slice none 0 0, .slice none 0 0], .int .i64 30]) ∧ Up w w' :=
  Case_bad (eq := 30) I J K (by unfold T.qErr; rw [h]; rfl) (by decide)
theorem kn_nW : Calls Try.prog 31 #[BoV M bl bh rl rh (.slice aP nP cP) (.slice aQ nQ cQ) (.slice aL nL cL)] w fun e w' => e = .returned (.tuple #[.slice none 0 0, .int .i64 30]) ∧ Up w w' :=
  Wrong_bad I J K h
theorem kn_nD : Calls Try.prog 34 #[BoV M bl bh rl rh (.slice aP nP cP) (.slice aQ nQ cQ) (.slice aL nL cL)] w fun e w' => e = .returned (.tuple #[.slice none 0 0, .int .i64 30]) ∧ Up w w' :=
  Idle_bad I J K h
theorem kn_nX : Calls Try.prog 36 #[BoV M bl bh rl rh (.slice aP nP cP) (.slice aQ nQ cQ) (.slice aL nL cL)] w fun e w' => e = .returned (.tuple #[.int .i64 0, .int .i64 0, .int .i64 30]) ∧ Up w w' :=
  Worst_bad I J K h
theorem kn_nK : Calls Try.prog 19 #[BoV M bl bh rl rh (.slice aP nP cP) (.slice aQ nQ cQ) (.slice aL nL cL)] w fun e w' => e = .returned (.int .i64 30) ∧ Up w w' :=
  (Check_any I J K).mono fun e w' ⟨he, u⟩ => by
    rw [h] at he
    exact ⟨he, u⟩
end

end Go.Proofs.Ytlpkheoljbdajaa

/- The law StarKnown: its code's pieces, and what lies in memory. -/
namespace Go.Proofs.Ytlpkheoljbdajaa
open Go.RowKit Go.Shelf
attribute [local go_sem] Oper.semAt_some
noncomputable def Kn.body : Code := (Try.f16.body).getD .skip
def Kn.rt : Nat → Code → Code
  | 0, c => c
  | n + 1, .seq _ b => Kn.rt n b
  | _, c => c
/-- two operations behind the number may come up -/
theorem lastG2 {F : Fence} {n : Nat} {P : Program} {ops : Array Oper} {Q : Exit → Act → World → Prop} {md : Region.Mode} {S : World → Prop} {i j : Nat} {o o' : Oper} {fuel m : Nat} {listed : Array Bool} {a : Act} {w : World} (hr : Region.ready md ops listed = [i, j]) (ho : ops[i]? = some o) (ho' : ops[j]? = some o') (hw : Region.wanted o (yielded ops a.tmps) = true) (hw' : Region.wanted o' (yielded ops a.tmps) = true) (him : m ≤ i) (hjm : m ≤ j)
    (h : ∀ K : Act → World → Prop, Hid (∀ a w, wpAnyG F n P md ops Q S m fuel (listed.setIfInBounds i true) a w → K a w) → Oper.wpIn F n P o a w K Q)
    (h' : ∀ K : Act → World → Prop, Hid (∀ a w, wpAnyG F n P md ops Q S m fuel (listed.setIfInBounds j true) a w → K a w) → Oper.wpIn F n P o' a w K Q) : wpAnyG F n P md ops Q S m (fuel + 1) listed a w := by
  refine ⟨fun h0 => (by rw [hr] at h0; cases h0), fun k hk => ?_⟩
  rw [hr, List.mem_cons, List.mem_singleton] at hk
  rcases hk with e | e
  · subst e
    refine wpOpIn_step ho fun K' hK => ?_
    rw [if_pos hw]
    exact h K' (Lib.hid fun a w hk => hK a w ⟨fun h => absurd h (by omega), hk⟩)
  · subst e
    refine wpOpIn_step ho' fun K' hK => ?_
    rw [if_pos hw']
    exact h' K' (Lib.hid fun a w hk => hK a w ⟨fun h => absurd h (by omega), hk⟩)
theorem kn_sp1 {w : World} {g : Nat} {a b : Int} (k : mblk w g = some (.cells #[.int .i64 a, .int .i64 b] 23 (0, 0))) : Sps w (.slice (some ⟨g, 0, none⟩) 1 1) [(a, b)] :=
  Tab.new (cap := 1) (xs := [(a, b)]) k (Nat.le_refl _) (by simp) (fun j hj i hi => by
    obtain rfl : j = 0 := by simpa using hj
    match i, hi with
    | 0, _ => rfl
    | 1, _ => rfl)
theorem kn_sp2 {w : World} {g : Nat} {a b c d : Int} (k : mblk w g = some (.cells #[.int .i64 a, .int .i64 b, .int .i64 c, .int .i64 d] 23 (0, 0))) : Sps w (.slice (some ⟨g, 0, none⟩) 2 2) [(a, b), (c, d)] :=
  Tab.new (cap := 2) (xs := [(a, b), (c, d)]) k (Nat.le_refl _) (by simp) (fun j hj i hi => by
    have p : j = 0 ∨ j = 1 := by have : j < 2 := hj; omega
    have q : i = 0 ∨ i = 1 := by omega
    rcases p with rfl | rfl <;> rcases q with rfl | rfl <;> rfl)
theorem kn_lk1 {w : World} {g : Nat} {a b c d e : Int} (k : mblk w g = some (.cells #[.int .i64 a, .int .i64 b, .int .i64 c, .int .i64 d, .int .i64 e] 63 (0, 0))) : Lks w (.slice (some ⟨g, 0, none⟩) 1 1) [(a, b, c, d, e)] :=
  Tab.new (cap := 1) (xs := [(a, b, c, d, e)]) k (Nat.le_refl _) (by simp) (fun j hj i hi => by
    obtain rfl : j = 0 := by simpa using hj
    match i, hi with
    | 0, _ => rfl
    | 1, _ => rfl
    | 2, _ => rfl
    | 3, _ => rfl
    | 4, _ => rfl)
theorem kn_lk0 {w : World} {g : Nat} (k : mblk w g = some (.cells (Array.replicate 55 (.int .i64 0)) 63 (0, 0))) : Lks w (.slice (some ⟨g, 0, none⟩) 11 11) (List.replicate 11 (0, 0, 0, 0, 0)) :=
  Tab.new (cap := 11) (xs := List.replicate 11 (0, 0, 0, 0, 0)) k (by simp) (by simp) (fun j hj i hi => by
    rw [List.length_replicate] at hj
    rw [Array.getElem?_replicate, if_pos (by omega), List.getD_eq_getElem?_getD, List.getElem?_replicate, if_pos hj]
    match i, hi with
    | 0, _ => rfl
    | 1, _ => rfl
    | 2, _ => rfl
    | 3, _ => rfl
    | 4, _ => rfl)
def Kn.Bad (w : World) (q i : Nat) : Prop := ∃ (M bl bh rl rh : Int) (aP : Option Addr) (nP cP : Nat) (aQ : Option Addr) (nQ cQ : Nat) (aL : Option Addr) (nL cL : Nat) (ps qs : List (Int × Int)) (ls : List T.T5), (w.cell? ⟨q, i * 8, none⟩ = some (.int .i64 M) ∧ w.cell? ⟨q, i * 8 + 1, none⟩ = some (.int .i64 bl) ∧ w.cell? ⟨q, i * 8 + 2, none⟩ = some (.int .i64 bh) ∧ w.cell? ⟨q, i * 8 + 3, none⟩ = some (.int .i64 rl) ∧ w.cell? ⟨q, i * 8 + 4, none⟩ = some (.int .i64 rh) ∧ w.cell? ⟨q, i * 8 + 5, none⟩ = some (.slice aP nP cP) ∧ w.cell? ⟨q, i * 8 + 6, none⟩ = some (.slice aQ nQ cQ) ∧ w.cell? ⟨q, i * 8 + 7, none⟩ = some (.slice aL nL cL)) ∧ Sps w (.slice aP nP cP) ps ∧ Sps w (.slice aQ nQ cQ) qs ∧ Lks w (.slice aL nL cL) ls ∧ T.valid M bl bh rl rh ps qs ls = false
def Kn.No (w : World) (q i : Nat) : Prop := ∃ (aO : Option Addr) (nO cO : Nat) (aE : Option Addr) (nE cE : Nat) (aA : Option Addr) (nA cA : Nat) (os pe pa : List Int), (w.cell? ⟨q, i * 3, none⟩ = some (.slice aO nO cO) ∧ w.cell? ⟨q, i * 3 + 1, none⟩ = some (.slice aE nE cE) ∧ w.cell? ⟨q, i * 3 + 2, none⟩ = some (.slice aA nA cA)) ∧ Ints w (.slice aO nO cO) os ∧ Ints w (.slice aE nE cE) pe ∧ Ints w (.slice aA nA cA) pa ∧ (∀ x ∈ os, D.in64 x) ∧ (∀ x ∈ pa, D.in64 x) ∧ ¬ (T.fit (3 : Nat) 2 1 os pe pa = true ∧ T.tr0 (T.nto os pe pa 3))
/-- blocks laid one behind the other -/
def Kn.lay (w : World) : List Obj → World
  | [] => w
  | x :: l => Kn.lay (w.alloc x) l
theorem Kn.lay_up : ∀ (l : List Obj) (w : World), Up w (Kn.lay w l)
  | [], w => Up.refl w
  | x :: l, w => ((Up.refl w).alloc x).trans (Kn.lay_up l _)
theorem Kn.lay_at : ∀ (l : List Obj) (w : World) (j : Nat) (x : Obj), l[j]? = some x → mblk (Kn.lay w l) (w.heap.size + j) = some x
  | [], w, j, x, h => by simp at h
  | y :: l, w, 0, x, h => by
    have e : y = x := by simpa using h
    subst e
    exact (Kn.lay_up l _).blk (blk_new w y _ rfl)
  | y :: l, w, j + 1, x, h => by
    have q := Kn.lay_at l (w.alloc y) j x (by simpa using h)
    have s : (w.alloc y).heap.size = w.heap.size + 1 := by rw [sz1]
    rw [s] at q
    rw [show w.heap.size + (j + 1) = w.heap.size + 1 + j by omega]
    exact q
def Kn.nos (a : Nat) : List Obj := [(.cells #[.int .i64 50, .int .i64 60] 3), (.cells #[.int .i64 (-5), .int .i64 10] 3), (.cells #[.int .i64 40] 3), (.cells #[.int .i64 50, .int .i64 60, .int .i64 75] 3), (.cells #[.int .i64 (-5)] 3), (.cells #[.int .i64 40] 3), (.cells #[.int .i64 50, .int .i64 60, .int .i64 75] 3), (.cells #[.int .i64 (-5), .int .i64 10] 3), (.cells #[.int .i64 50, .int .i64 60, .int .i64 81] 3), (.cells #[.int .i64 (-5), .int .i64 10] 3), (.cells #[.int .i64 40] 3), (.cells #[.int .i64 50, .int .i64 60, .int .i64 75] 3), (.cells #[.int .i64 (-5), .int .i64 21] 3), (.cells #[.int .i64 40] 3), (.cells #[.int .i64 50, .int .i64 60, .int .i64 75] 3), (.cells #[.int .i64 (-5), .int .i64 10] 3), (.cells #[.int .i64 61] 3), (.cells #[.int .i64 50, .int .i64 60, .int .i64 75] 3), (.cells #[.int .i64 1, .int .i64 10] 3), (.cells #[.int .i64 40] 3), (.cells #[.int .i64 50, .int .i64 60, .int .i64 75] 3), (.cells #[.int .i64 (-5), .int .i64 10] 3), (.cells #[.int .i64 34] 3), (.cells #[.slice none 0 0, .slice none 0 0, .slice none 0 0, .slice (some ⟨a, 0, none⟩) 2 2, .slice (some ⟨a + 1, 0, none⟩) 2 2, .slice (some ⟨a + 1 + 1, 0, none⟩) 1 1, .slice (some ⟨a + 1 + 1 + 1, 0, none⟩) 3 3, .slice (some ⟨a + 1 + 1 + 1 + 1, 0, none⟩) 1 1, .slice (some ⟨a + 1 + 1 + 1 + 1 + 1, 0, none⟩) 1 1, .slice (some ⟨a + 1 + 1 + 1 + 1 + 1 + 1, 0, none⟩) 3 3, .slice (some ⟨a + 1 + 1 + 1 + 1 + 1 + 1 + 1, 0, none⟩) 2 2, .slice none 0 0, .slice (some ⟨a + 1 + 1 + 1 + 1 + 1 + 1 + 1 + 1, 0, none⟩) 3 3, .slice (some ⟨a + 1 + 1 + 1 + 1 + 1 + 1 + 1 + 1 + 1, 0, none⟩) 2 2, .slice (some ⟨a + 1 + 1 + 1 + 1 + 1 + 1 + 1 + 1 + 1 + 1, 0, none⟩) 1 1, .slice (some ⟨a + 1 + 1 + 1 + 1 + 1 + 1 + 1 + 1 + 1 + 1 + 1, 0, none⟩) 3 3, .slice (some ⟨a + 1 + 1 + 1 + 1 + 1 + 1 + 1 + 1 + 1 + 1 + 1 + 1, 0, none⟩) 2 2, .slice (some ⟨a + 1 + 1 + 1 + 1 + 1 + 1 + 1 + 1 + 1 + 1 + 1 + 1 + 1, 0, none⟩) 1 1, .slice (some ⟨a + 1 + 1 + 1 + 1 + 1 + 1 + 1 + 1 + 1 + 1 + 1 + 1 + 1 + 1, 0, none⟩) 3 3, .slice (some ⟨a + 1 + 1 + 1 + 1 + 1 + 1 + 1 + 1 + 1 + 1 + 1 + 1 + 1 + 1 + 1, 0, none⟩) 2 2, .slice (some ⟨a + 1 + 1 + 1 + 1 + 1 + 1 + 1 + 1 + 1 + 1 + 1 + 1 + 1 + 1 + 1 + 1, 0, none⟩) 1 1, .slice (some ⟨a + 1 + 1 + 1 + 1 + 1 + 1 + 1 + 1 + 1 + 1 + 1 + 1 + 1 + 1 + 1 + 1 + 1, 0, none⟩) 3 3, .slice (some ⟨a + 1 + 1 + 1 + 1 + 1 + 1 + 1 + 1 + 1 + 1 + 1 + 1 + 1 + 1 + 1 + 1 + 1 + 1, 0, none⟩) 2 2, .slice (some ⟨a + 1 + 1 + 1 + 1 + 1 + 1 + 1 + 1 + 1 + 1 + 1 + 1 + 1 + 1 + 1 + 1 + 1 + 1 + 1, 0, none⟩) 1 1, .slice (some ⟨a + 1 + 1 + 1 + 1 + 1 + 1 + 1 + 1 + 1 + 1 + 1 + 1 + 1 + 1 + 1 + 1 + 1 + 1 + 1 + 1, 0, none⟩) 3 3, .slice (some ⟨a + 1 + 1 + 1 + 1 + 1 + 1 + 1 + 1 + 1 + 1 + 1 + 1 + 1 + 1 + 1 + 1 + 1 + 1 + 1 + 1 + 1, 0, none⟩) 2 2, .slice (some ⟨a + 1 + 1 + 1 + 1 + 1 + 1 + 1 + 1 + 1 + 1 + 1 + 1 + 1 + 1 + 1 + 1 + 1 + 1 + 1 + 1 + 1 + 1, 0, none⟩) 1 1] 30)]
theorem kn_nos {w : World} {a : Nat} (h : ∀ j x, (Kn.nos a)[j]? = some x → mblk w (a + j) = some x) : ∀ i, i < 9 → Kn.No w (a + 23) i := fun i hi => by
  have kq := h 23 _ rfl
  have : i = 0 ∨ i = 1 ∨ i = 2 ∨ i = 3 ∨ i = 4 ∨ i = 5 ∨ i = 6 ∨ i = 7 ∨ i = 8 := by omega
  rcases this with rfl | rfl | rfl | rfl | rfl | rfl | rfl | rfl | rfl
  · exact ⟨none, 0, 0, none, 0, 0, none, 0, 0, [], [], [], ⟨by rw [cellB kq]; rfl, by rw [cellB kq]; rfl, by rw [cellB kq]; rfl⟩, Ints.nil w, Ints.nil w, Ints.nil w, (by intro x hx; cases hx), (by intro x hx; cases hx), fun p => absurd p.1 (by decide)⟩
  · exact ⟨_, 2, 2, _, 2, 2, _, 1, 1, [50, 60], [-5, 10], [40], ⟨by rw [cellB kq]; rfl, by rw [cellB kq]; rfl, by rw [cellB kq]; rfl⟩, Ints.new (xs := [50, 60]) (cap := 2) (h 0 _ rfl) (by decide) (by decide) (by intro j hj; have p : j = 0 ∨ j = 1 := (by have z : j < 2 := hj; omega); rcases p with rfl | rfl <;> rfl), Ints.new (xs := [-5, 10]) (cap := 2) (h 1 _ rfl) (by decide) (by decide) (by intro j hj; have p : j = 0 ∨ j = 1 := (by have z : j < 2 := hj; omega); rcases p with rfl | rfl <;> rfl), Ints.new (xs := [40]) (cap := 1) (h 2 _ rfl) (by decide) (by decide) (by intro j hj; have p : j = 0 := (by have z : j < 1 := hj; omega); rcases p with rfl <;> rfl), (by intro x hx; simp only [List.mem_cons, List.not_mem_nil, or_false] at hx; unfold D.in64; omega), (by intro x hx; simp only [List.mem_cons, List.not_mem_nil, or_false] at hx; unfold D.in64; omega), fun p => absurd p.1 (by decide)⟩
  · exact ⟨_, 3, 3, _, 1, 1, _, 1, 1, [50, 60, 75], [-5], [40], ⟨by rw [cellB kq]; rfl, by rw [cellB kq]; rfl, by rw [cellB kq]; rfl⟩, Ints.new (xs := [50, 60, 75]) (cap := 3) (h 3 _ rfl) (by decide) (by decide) (by intro j hj; have p : j = 0 ∨ j = 1 ∨ j = 2 := (by have z : j < 3 := hj; omega); rcases p with rfl | rfl | rfl <;> rfl), Ints.new (xs := [-5]) (cap := 1) (h 4 _ rfl) (by decide) (by decide) (by intro j hj; have p : j = 0 := (by have z : j < 1 := hj; omega); rcases p with rfl <;> rfl), Ints.new (xs := [40]) (cap := 1) (h 5 _ rfl) (by decide) (by decide) (by intro j hj; have p : j = 0 := (by have z : j < 1 := hj; omega); rcases p with rfl <;> rfl), (by intro x hx; simp only [List.mem_cons, List.not_mem_nil, or_false] at hx; unfold D.in64; omega), (by intro x hx; simp only [List.mem_cons, List.not_mem_nil, or_false] at hx; unfold D.in64; omega), fun p => absurd p.1 (by decide)⟩
  · exact ⟨_, 3, 3, _, 2, 2, none, 0, 0, [50, 60, 75], [-5, 10], [], ⟨by rw [cellB kq]; rfl, by rw [cellB kq]; rfl, by rw [cellB kq]; rfl⟩, Ints.new (xs := [50, 60, 75]) (cap := 3) (h 6 _ rfl) (by decide) (by decide) (by intro j hj; have p : j = 0 ∨ j = 1 ∨ j = 2 := (by have z : j < 3 := hj; omega); rcases p with rfl | rfl | rfl <;> rfl), Ints.new (xs := [-5, 10]) (cap := 2) (h 7 _ rfl) (by decide) (by decide) (by intro j hj; have p : j = 0 ∨ j = 1 := (by have z : j < 2 := hj; omega); rcases p with rfl | rfl <;> rfl), Ints.nil w, (by intro x hx; simp only [List.mem_cons, List.not_mem_nil, or_false] at hx; unfold D.in64; omega), (by intro x hx; cases hx), fun p => absurd p.1 (by decide)⟩
  · exact ⟨_, 3, 3, _, 2, 2, _, 1, 1, [50, 60, 81], [-5, 10], [40], ⟨by rw [cellB kq]; rfl, by rw [cellB kq]; rfl, by rw [cellB kq]; rfl⟩, Ints.new (xs := [50, 60, 81]) (cap := 3) (h 8 _ rfl) (by decide) (by decide) (by intro j hj; have p : j = 0 ∨ j = 1 ∨ j = 2 := (by have z : j < 3 := hj; omega); rcases p with rfl | rfl | rfl <;> rfl), Ints.new (xs := [-5, 10]) (cap := 2) (h 9 _ rfl) (by decide) (by decide) (by intro j hj; have p : j = 0 ∨ j = 1 := (by have z : j < 2 := hj; omega); rcases p with rfl | rfl <;> rfl), Ints.new (xs := [40]) (cap := 1) (h 10 _ rfl) (by decide) (by decide) (by intro j hj; have p : j = 0 := (by have z : j < 1 := hj; omega); rcases p with rfl <;> rfl), (by intro x hx; simp only [List.mem_cons, List.not_mem_nil, or_false] at hx; unfold D.in64; omega), (by intro x hx; simp only [List.mem_cons, List.not_mem_nil, or_false] at hx; unfold D.in64; omega), fun ⟨_, hy⟩ => by
      obtain ⟨a1, a2, a3, a4, a5, a6, a7, a8, a9, a0⟩ := T.ex_tru hy
      have a7 := a7 rfl
      have a8 := a8 rfl
      have a9 := a9 rfl
      have a0 := a0 rfl
      have e0 : T.nto [50, 60, 81] [-5, 10] [40] 3 0 = 0 := by kernel_rfl
      have e1 : T.nto [50, 60, 81] [-5, 10] [40] 3 1 = 50 := by kernel_rfl
      have e2 : T.nto [50, 60, 81] [-5, 10] [40] 3 2 = 60 := by kernel_rfl
      have e3 : T.nto [50, 60, 81] [-5, 10] [40] 3 3 = 81 := by kernel_rfl
      have e9 : T.nto [50, 60, 81] [-5, 10] [40] 3 9 = 5 := by kernel_rfl
      have e10 : T.nto [50, 60, 81] [-5, 10] [40] 3 10 = (-10) := by kernel_rfl
      have e13 : T.nto [50, 60, 81] [-5, 10] [40] 3 13 = 40 := by kernel_rfl
      simp only [e0, e1, e2, e3, e9, e10, e13] at *
      omega⟩
  · exact ⟨_, 3, 3, _, 2, 2, _, 1, 1, [50, 60, 75], [-5, 21], [40], ⟨by rw [cellB kq]; rfl, by rw [cellB kq]; rfl, by rw [cellB kq]; rfl⟩, Ints.new (xs := [50, 60, 75]) (cap := 3) (h 11 _ rfl) (by decide) (by decide) (by intro j hj; have p : j = 0 ∨ j = 1 ∨ j = 2 := (by have z : j < 3 := hj; omega); rcases p with rfl | rfl | rfl <;> rfl), Ints.new (xs := [-5, 21]) (cap := 2) (h 12 _ rfl) (by decide) (by decide) (by intro j hj; have p : j = 0 ∨ j = 1 := (by have z : j < 2 := hj; omega); rcases p with rfl | rfl <;> rfl), Ints.new (xs := [40]) (cap := 1) (h 13 _ rfl) (by decide) (by decide) (by intro j hj; have p : j = 0 := (by have z : j < 1 := hj; omega); rcases p with rfl <;> rfl), (by intro x hx; simp only [List.mem_cons, List.not_mem_nil, or_false] at hx; unfold D.in64; omega), (by intro x hx; simp only [List.mem_cons, List.not_mem_nil, or_false] at hx; unfold D.in64; omega), fun ⟨_, hy⟩ => by
      obtain ⟨a1, a2, a3, a4, a5, a6, a7, a8, a9, a0⟩ := T.ex_tru hy
      have a7 := a7 rfl
      have a8 := a8 rfl
      have a9 := a9 rfl
      have a0 := a0 rfl
      have e0 : T.nto [50, 60, 75] [-5, 21] [40] 3 0 = 0 := by kernel_rfl
      have e1 : T.nto [50, 60, 75] [-5, 21] [40] 3 1 = 50 := by kernel_rfl
      have e2 : T.nto [50, 60, 75] [-5, 21] [40] 3 2 = 60 := by kernel_rfl
      have e3 : T.nto [50, 60, 75] [-5, 21] [40] 3 3 = 75 := by kernel_rfl
      have e9 : T.nto [50, 60, 75] [-5, 21] [40] 3 9 = 5 := by kernel_rfl
      have e10 : T.nto [50, 60, 75] [-5, 21] [40] 3 10 = (-21) := by kernel_rfl
      have e13 : T.nto [50, 60, 75] [-5, 21] [40] 3 13 = 40 := by kernel_rfl
      simp only [e0, e1, e2, e3, e9, e10, e13] at *
      omega⟩
  · exact ⟨_, 3, 3, _, 2, 2, _, 1, 1, [50, 60, 75], [-5, 10], [61], ⟨by rw [cellB kq]; rfl, by rw [cellB kq]; rfl, by rw [cellB kq]; rfl⟩, Ints.new (xs := [50, 60, 75]) (cap := 3) (h 14 _ rfl) (by decide) (by decide) (by intro j hj; have p : j = 0 ∨ j = 1 ∨ j = 2 := (by have z : j < 3 := hj; omega); rcases p with rfl | rfl | rfl <;> rfl), Ints.new (xs := [-5, 10]) (cap := 2) (h 15 _ rfl) (by decide) (by decide) (by intro j hj; have p : j = 0 ∨ j = 1 := (by have z : j < 2 := hj; omega); rcases p with rfl | rfl <;> rfl), Ints.new (xs := [61]) (cap := 1) (h 16 _ rfl) (by decide) (by decide) (by intro j hj; have p : j = 0 := (by have z : j < 1 := hj; omega); rcases p with rfl <;> rfl), (by intro x hx; simp only [List.mem_cons, List.not_mem_nil, or_false] at hx; unfold D.in64; omega), (by intro x hx; simp only [List.mem_cons, List.not_mem_nil, or_false] at hx; unfold D.in64; omega), fun ⟨_, hy⟩ => by
      obtain ⟨a1, a2, a3, a4, a5, a6, a7, a8, a9, a0⟩ := T.ex_tru hy
      have a7 := a7 rfl
      have a8 := a8 rfl
      have a9 := a9 rfl
      have a0 := a0 rfl
      have e0 : T.nto [50, 60, 75] [-5, 10] [61] 3 0 = 0 := by kernel_rfl
      have e1 : T.nto [50, 60, 75] [-5, 10] [61] 3 1 = 50 := by kernel_rfl
      have e2 : T.nto [50, 60, 75] [-5, 10] [61] 3 2 = 60 := by kernel_rfl
      have e3 : T.nto [50, 60, 75] [-5, 10] [61] 3 3 = 75 := by kernel_rfl
      have e9 : T.nto [50, 60, 75] [-5, 10] [61] 3 9 = 5 := by kernel_rfl
      have e10 : T.nto [50, 60, 75] [-5, 10] [61] 3 10 = (-10) := by kernel_rfl
      have e13 : T.nto [50, 60, 75] [-5, 10] [61] 3 13 = 61 := by kernel_rfl
      simp only [e0, e1, e2, e3, e9, e10, e13] at *
      omega⟩
  · exact ⟨_, 3, 3, _, 2, 2, _, 1, 1, [50, 60, 75], [1, 10], [40], ⟨by rw [cellB kq]; rfl, by rw [cellB kq]; rfl, by rw [cellB kq]; rfl⟩, Ints.new (xs := [50, 60, 75]) (cap := 3) (h 17 _ rfl) (by decide) (by decide) (by intro j hj; have p : j = 0 ∨ j = 1 ∨ j = 2 := (by have z : j < 3 := hj; omega); rcases p with rfl | rfl | rfl <;> rfl), Ints.new (xs := [1, 10]) (cap := 2) (h 18 _ rfl) (by decide) (by decide) (by intro j hj; have p : j = 0 ∨ j = 1 := (by have z : j < 2 := hj; omega); rcases p with rfl | rfl <;> rfl), Ints.new (xs := [40]) (cap := 1) (h 19 _ rfl) (by decide) (by decide) (by intro j hj; have p : j = 0 := (by have z : j < 1 := hj; omega); rcases p with rfl <;> rfl), (by intro x hx; simp only [List.mem_cons, List.not_mem_nil, or_false] at hx; unfold D.in64; omega), (by intro x hx; simp only [List.mem_cons, List.not_mem_nil, or_false] at hx; unfold D.in64; omega), fun ⟨_, hy⟩ => by
      obtain ⟨a1, a2, a3, a4, a5, a6, a7, a8, a9, a0⟩ := T.ex_tru hy
      have a7 := a7 rfl
      have a8 := a8 rfl
      have a9 := a9 rfl
      have a0 := a0 rfl
      have e0 : T.nto [50, 60, 75] [1, 10] [40] 3 0 = 0 := by kernel_rfl
      have e1 : T.nto [50, 60, 75] [1, 10] [40] 3 1 = 50 := by kernel_rfl
      have e2 : T.nto [50, 60, 75] [1, 10] [40] 3 2 = 60 := by kernel_rfl
      have e3 : T.nto [50, 60, 75] [1, 10] [40] 3 3 = 75 := by kernel_rfl
      have e9 : T.nto [50, 60, 75] [1, 10] [40] 3 9 = (-1) := by kernel_rfl
      have e10 : T.nto [50, 60, 75] [1, 10] [40] 3 10 = (-10) := by kernel_rfl
      have e13 : T.nto [50, 60, 75] [1, 10] [40] 3 13 = 40 := by kernel_rfl
      simp only [e0, e1, e2, e3, e9, e10, e13] at *
      omega⟩
  · exact ⟨_, 3, 3, _, 2, 2, _, 1, 1, [50, 60, 75], [-5, 10], [34], ⟨by rw [cellB kq]; rfl, by rw [cellB kq]; rfl, by rw [cellB kq]; rfl⟩, Ints.new (xs := [50, 60, 75]) (cap := 3) (h 20 _ rfl) (by decide) (by decide) (by intro j hj; have p : j = 0 ∨ j = 1 ∨ j = 2 := (by have z : j < 3 := hj; omega); rcases p with rfl | rfl | rfl <;> rfl), Ints.new (xs := [-5, 10]) (cap := 2) (h 21 _ rfl) (by decide) (by decide) (by intro j hj; have p : j = 0 ∨ j = 1 := (by have z : j < 2 := hj; omega); rcases p with rfl | rfl <;> rfl), Ints.new (xs := [34]) (cap := 1) (h 22 _ rfl) (by decide) (by decide) (by intro j hj; have p : j = 0 := (by have z : j < 1 := hj; omega); rcases p with rfl <;> rfl), (by intro x hx; simp only [List.mem_cons, List.not_mem_nil, or_false] at hx; unfold D.in64; omega), (by intro x hx; simp only [List.mem_cons, List.not_mem_nil, or_false] at hx; unfold D.in64; omega), fun ⟨_, hy⟩ => by
      obtain ⟨a1, a2, a3, a4, a5, a6, a7, a8, a9, a0⟩ := T.ex_tru hy
      have a7 := a7 rfl
      have a8 := a8 rfl
      have a9 := a9 rfl
      have a0 := a0 rfl
      have e0 : T.nto [50, 60, 75] [-5, 10] [34] 3 0 = 0 := by kernel_rfl
      have e1 : T.nto [50, 60, 75] [-5, 10] [34] 3 1 = 50 := by kernel_rfl
      have e2 : T.nto [50, 60, 75] [-5, 10] [34] 3 2 = 60 := by kernel_rfl
      have e3 : T.nto [50, 60, 75] [-5, 10] [34] 3 3 = 75 := by kernel_rfl
      have e9 : T.nto [50, 60, 75] [-5, 10] [34] 3 9 = 5 := by kernel_rfl
      have e10 : T.nto [50, 60, 75] [-5, 10] [34] 3 10 = (-10) := by kernel_rfl
      have e13 : T.nto [50, 60, 75] [-5, 10] [34] 3 13 = 34 := by kernel_rfl
      simp only [e0, e1, e2, e3, e9, e10, e13] at *
      omega⟩
theorem kn_bad {w : World} {q p5 p6 p8 p9 p10 p11 : Nat} {aP aQ aL : Option Addr} {cP cQ cL : Nat} (I : Sps w (.slice aP 2 cP) T.ps0) (J : Sps w (.slice aQ 1 cQ) T.qs0) (K : Lks w (.slice aL 4 cL) T.ls0) (kq : mblk w q = some (.cells #[.int .i64 0, .int .i64 0, .int .i64 0, .int .i64 0, .int .i64 0, .slice none 0 0, .slice none 0 0, .slice none 0 0, .int .i64 9, .int .i64 0, .int .i64 100, .int .i64 (-10), .int .i64 20, .slice aP 2 cP, .slice aQ 1 cQ, .slice aL 4 cL, .int .i64 3, .int .i64 1, .int .i64 0, .int .i64 (-10), .int .i64 20, .slice aP 2 cP, .slice aQ 1 cQ, .slice aL 4 cL, .int .i64 3, .int .i64 0, .int .i64 20001, .int .i64 (-10), .int .i64 20, .slice aP 2 cP, .slice aQ 1 cQ, .slice aL 4 cL, .int .i64 3, .int .i64 0, .int .i64 100, .int .i64 (-1001), .int .i64 0, .slice aP 2 cP, .slice aQ 1 cQ, .slice aL 4 cL, .int .i64 3, .int .i64 0, .int .i64 100, .int .i64 (-10), .int .i64 20, .slice (some ⟨p5, 0, none⟩) 2 2, .slice aQ 1 cQ, .slice aL 4 cL, .int .i64 3, .int .i64 0, .int .i64 100, .int .i64 (-10), .int .i64 20, .slice aP 2 cP, .slice (some ⟨p6, 0, none⟩) 1 1, .slice aL 4 cL, .int .i64 3, .int .i64 0, .int .i64 100, .int .i64 (-10), .int .i64 20, .slice aP 2 cP, .slice none 0 0, .slice aL 4 cL, .int .i64 3, .int .i64 0, .int .i64 100, .int .i64 (-10), .int .i64 20, .slice aP 2 cP, .slice aQ 1 cQ, .slice (some ⟨p8, 0, none⟩) 11 11, .int .i64 3, .int .i64 0, .int .i64 100, .int .i64 (-10), .int .i64 20, .slice aP 2 cP, .slice aQ 1 cQ, .slice (some ⟨p9, 0, none⟩) 1 1, .int .i64 3, .int .i64 0, .int .i64 100, .int .i64 (-10), .int .i64 20, .slice aP 2 cP, .slice aQ 1 cQ, .slice (some ⟨p10, 0, none⟩) 1 1, .int .i64 3, .int .i64 0, .int .i64 100, .int .i64 (-10), .int .i64 20, .slice aP 2 cP, .slice aQ 1 cQ, .slice (some ⟨p11, 0, none⟩) 1 1] 27 (0, 0))) (k5 : mblk w p5 = some (.cells #[.int .i64 (-2001), .int .i64 0, .int .i64 0, .int .i64 0] 23 (0, 0))) (k6 : mblk w p6 = some (.cells #[.int .i64 (-1), .int .i64 0] 23 (0, 0))) (k8 : mblk w p8 = some (.cells (Array.replicate 55 (.int .i64 0)) 63 (0, 0))) (k9 : mblk w p9 = some (.cells (LkC 3 0 0 0 0) 63 (0, 0))) (k10 : mblk w p10 = some (.cells (LkC 0 2 0 0 0) 63 (0, 0))) (k11 : mblk w p11 = some (.cells (LkC 0 0 0 30001 0) 63 (0, 0))) : ∀ i, i < 12 → Kn.Bad w q i := fun i hi => by
  have : i = 0 ∨ i = 1 ∨ i = 2 ∨ i = 3 ∨ i = 4 ∨ i = 5 ∨ i = 6 ∨ i = 7 ∨ i = 8 ∨ i = 9 ∨ i = 10 ∨ i = 11 := by omega
  rcases this with rfl | rfl | rfl | rfl | rfl | rfl | rfl | rfl | rfl | rfl | rfl | rfl
  · exact ⟨0, 0, 0, 0, 0, none, 0, 0, none, 0, 0, none, 0, 0, _, _, _, ⟨by rw [cellB kq]; rfl, by rw [cellB kq]; rfl, by rw [cellB kq]; rfl, by rw [cellB kq]; rfl, by rw [cellB kq]; rfl, by rw [cellB kq]; rfl, by rw [cellB kq]; rfl, by rw [cellB kq]; rfl⟩, Tab.nil w, Tab.nil w, Tab.nil w, by kernel_rfl⟩
  · exact ⟨9, 0, 100, -10, 20, aP, 2, cP, aQ, 1, cQ, aL, 4, cL, _, _, _, ⟨by rw [cellB kq]; rfl, by rw [cellB kq]; rfl, by rw [cellB kq]; rfl, by rw [cellB kq]; rfl, by rw [cellB kq]; rfl, by rw [cellB kq]; rfl, by rw [cellB kq]; rfl, by rw [cellB kq]; rfl⟩, I, J, K, by kernel_rfl⟩
  · exact ⟨3, 1, 0, -10, 20, aP, 2, cP, aQ, 1, cQ, aL, 4, cL, _, _, _, ⟨by rw [cellB kq]; rfl, by rw [cellB kq]; rfl, by rw [cellB kq]; rfl, by rw [cellB kq]; rfl, by rw [cellB kq]; rfl, by rw [cellB kq]; rfl, by rw [cellB kq]; rfl, by rw [cellB kq]; rfl⟩, I, J, K, by kernel_rfl⟩
  · exact ⟨3, 0, 20001, -10, 20, aP, 2, cP, aQ, 1, cQ, aL, 4, cL, _, _, _, ⟨by rw [cellB kq]; rfl, by rw [cellB kq]; rfl, by rw [cellB kq]; rfl, by rw [cellB kq]; rfl, by rw [cellB kq]; rfl, by rw [cellB kq]; rfl, by rw [cellB kq]; rfl, by rw [cellB kq]; rfl⟩, I, J, K, by kernel_rfl⟩
  · exact ⟨3, 0, 100, -1001, 0, aP, 2, cP, aQ, 1, cQ, aL, 4, cL, _, _, _, ⟨by rw [cellB kq]; rfl, by rw [cellB kq]; rfl, by rw [cellB kq]; rfl, by rw [cellB kq]; rfl, by rw [cellB kq]; rfl, by rw [cellB kq]; rfl, by rw [cellB kq]; rfl, by rw [cellB kq]; rfl⟩, I, J, K, by kernel_rfl⟩
  · exact ⟨3, 0, 100, -10, 20, _, 2, 2, aQ, 1, cQ, aL, 4, cL, _, _, _, ⟨by rw [cellB kq]; rfl, by rw [cellB kq]; rfl, by rw [cellB kq]; rfl, by rw [cellB kq]; rfl, by rw [cellB kq]; rfl, by rw [cellB kq]; rfl, by rw [cellB kq]; rfl, by rw [cellB kq]; rfl⟩, kn_sp2 k5, J, K, by kernel_rfl⟩
  · exact ⟨3, 0, 100, -10, 20, aP, 2, cP, _, 1, 1, aL, 4, cL, _, _, _, ⟨by rw [cellB kq]; rfl, by rw [cellB kq]; rfl, by rw [cellB kq]; rfl, by rw [cellB kq]; rfl, by rw [cellB kq]; rfl, by rw [cellB kq]; rfl, by rw [cellB kq]; rfl, by rw [cellB kq]; rfl⟩, I, kn_sp1 k6, K, by kernel_rfl⟩
  · exact ⟨3, 0, 100, -10, 20, aP, 2, cP, none, 0, 0, aL, 4, cL, _, _, _, ⟨by rw [cellB kq]; rfl, by rw [cellB kq]; rfl, by rw [cellB kq]; rfl, by rw [cellB kq]; rfl, by rw [cellB kq]; rfl, by rw [cellB kq]; rfl, by rw [cellB kq]; rfl, by rw [cellB kq]; rfl⟩, I, Tab.nil w, K, by kernel_rfl⟩
  · exact ⟨3, 0, 100, -10, 20, aP, 2, cP, aQ, 1, cQ, _, 11, 11, _, _, _, ⟨by rw [cellB kq]; rfl, by rw [cellB kq]; rfl, by rw [cellB kq]; rfl, by rw [cellB kq]; rfl, by rw [cellB kq]; rfl, by rw [cellB kq]; rfl, by rw [cellB kq]; rfl, by rw [cellB kq]; rfl⟩, I, J, kn_lk0 k8, by kernel_rfl⟩
  · exact ⟨3, 0, 100, -10, 20, aP, 2, cP, aQ, 1, cQ, _, 1, 1, _, _, _, ⟨by rw [cellB kq]; rfl, by rw [cellB kq]; rfl, by rw [cellB kq]; rfl, by rw [cellB kq]; rfl, by rw [cellB kq]; rfl, by rw [cellB kq]; rfl, by rw [cellB kq]; rfl, by rw [cellB kq]; rfl⟩, I, J, kn_lk1 k9, by kernel_rfl⟩
  · exact ⟨3, 0, 100, -10, 20, aP, 2, cP, aQ, 1, cQ, _, 1, 1, _, _, _, ⟨by rw [cellB kq]; rfl, by rw [cellB kq]; rfl, by rw [cellB kq]; rfl, by rw [cellB kq]; rfl, by rw [cellB kq]; rfl, by rw [cellB kq]; rfl, by rw [cellB kq]; rfl, by rw [cellB kq]; rfl⟩, I, J, kn_lk1 k10, by kernel_rfl⟩
  · exact ⟨3, 0, 100, -10, 20, aP, 2, cP, aQ, 1, cQ, _, 1, 1, _, _, _, ⟨by rw [cellB kq]; rfl, by rw [cellB kq]; rfl, by rw [cellB kq]; rfl, by rw [cellB kq]; rfl, by rw [cellB kq]; rfl, by rw [cellB kq]; rfl, by rw [cellB kq]; rfl, by rw [cellB kq]; rfl⟩, I, J, kn_lk1 k11, by kernel_rfl⟩

end Go.Proofs.Ytlpkheoljbdajaa
