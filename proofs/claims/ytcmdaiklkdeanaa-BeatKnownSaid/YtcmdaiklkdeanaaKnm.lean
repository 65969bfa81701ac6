import Derived.Test.YtcmdaiklkdeanaaExa
import Derived.Test.YtcmdaiklkdeanaaTeR
import Derived.Test.YtcmdaiklkdeanaaFwS
/- What the law BeatKnown asks of its closed cellars: the mathematics, and the contracts at them. -/
namespace Go.Proofs.Ytcmdaiklkdeanaa

def T.osF : T.LO := [(0, 0, 100000, 100000), (0, 0, 100000, 100000)]
def T.osG : T.LO := T.osF ++ [(0, 0, 1, 1)]
def T.rsF : T.LR := [(0, 0)]
theorem T.goodF : T.Good 1 T.rsF T.osF [] := T.valid_good.1 (by kernel_rfl)
theorem T.goodG : T.Good 1 T.rsF T.osG [] := T.valid_good.1 (by kernel_rfl)
/-- steps that go farther than a clock can be off: no truth, whoever is left out -/
theorem T.far_no {b0 b1 b2 b3 b4 : Bool} (y : Int × Int → Int) : ¬ T.Tru 1 T.rsF T.osG [] b0 b1 b2 b3 b4 y := by
  intro t
  have g : T.In (200001, 200001) (y (0, 1) - y (0, 0)) := t.grow 0 0 (by omega) (by decide) (by omega) (by omega)
  have a := t.lim 0 0 (by omega) (by decide) (by omega) (by omega)
  have b := t.lim 0 1 (by omega) (by decide) (by omega) (by omega)
  unfold T.In at g a b
  simp only at g a b
  omega
theorem T.far_few : T.few (T.canP 1 1 T.rsF T.osG []) 1 0 = none := by
  cases hf : T.few (T.canP 1 1 T.rsF T.osG []) 1 0 with
  | none => rfl
  | some s =>
    obtain ⟨y, hy⟩ := T.canP_iff.1 ((T.few_is (P := T.canP 1 1 T.rsF T.osG []) (many := 1)).2 s hf).2.1
    exact absurd ((T.sat_tru T.goodG).1 hy) (T.far_no y)
theorem T.far_off : T.Tells 1 T.rsF T.osF [] (0, 1) (-1, 0) 100000 100000 0 := by
  have w : T.Tr 1 T.rsF T.osF [] (T.tab [[-100000, 100000]]) := T.chk_tru (by kernel_rfl)
  refine .inl ⟨rfl, fun y t => ?_, ⟨_, w, by kernel_rfl⟩, ⟨_, w, by kernel_rfl⟩⟩
  have g : T.In (200000, 200000) (y (0, 1) - y (0, 0)) := t.grow 0 0 (by omega) (by decide) (by omega) (by omega)
  have a := t.lim 0 0 (by omega) (by decide) (by omega) (by omega)
  have b := t.lim 0 1 (by omega) (by decide) (by omega) (by omega)
  unfold T.In at g a b
  simp only at g a b
  omega
/-- the torn cellar has no truth -/
theorem T.torn_no (y : Int × Int → Int) : ¬ T.Tr 3 T.rs0 T.os0 T.ps1 y := by
  intro t
  have g10 : T.In (0, 1) (y (1, 2) - y (1, 1)) := t.grow 1 1 (by omega) (by decide) (by omega) (by omega)
  have g11 : T.In (0, 1) (y (1, 3) - y (1, 2)) := t.grow 1 2 (by omega) (by decide) (by omega) (by omega)
  have a2 : T.In (60, 61) (y (1, 3) - y (-1, 0)) := t.cmp (3, 1, -1, 60, 61) (by decide) rfl rfl
  have a4 : T.In (80, 90) (y (1, 1) - y (-1, 0)) := t.cmp (1, 1, -1, 80, 90) (by decide) rfl rfl
  unfold T.In at g10 g11 a2 a4
  simp only at g10 g11 a2 a4
  omega
theorem T.torn_tells (m1 m2 : Int × Int) : T.Tells 3 T.rs0 T.os0 T.ps1 m1 m2 0 0 22 := .inr ⟨rfl, rfl, rfl, T.torn_no⟩
def T.k_rows : List (List Int) := [[100, 98, 98, 98], [57, 58, 59, 60], [65, 65, 65, 65]]
theorem T.k_tru : T.Tr 3 T.rs0 T.os0 T.ps0 (T.tab T.k_rows) := T.chk_tru (by kernel_rfl)
theorem T.k_off : T.Tells 3 T.rs0 T.os0 T.ps0 (2, 1) (-1, 0) (-5) 136 0 := (T.tells_asked T.good0).1 (.inl ⟨rfl, T.ex_case⟩)
theorem T.k_apart : T.Tells 3 T.rs0 T.os0 T.ps0 (1, 2) (1, 2) 0 0 0 := .inl ⟨rfl, fun y _ => by omega, ⟨_, T.k_tru, by omega⟩, ⟨_, T.k_tru, by omega⟩⟩
theorem T.k_drift : T.Tells 3 T.rs0 T.os0 T.ps0 (1, 0) (1, 3) (-3) 0 0 := by
  have w : T.Tr 3 T.rs0 T.os0 T.ps0 (T.tab [[104, 104, 107, 110], [60, 60, 60, 60], [125, 115, 55, 65]]) := T.chk_tru (by kernel_rfl)
  refine .inl ⟨rfl, fun y t => ?_, ⟨_, T.k_tru, by kernel_rfl⟩, ⟨_, w, by kernel_rfl⟩⟩
  have g10 : T.In (0, 1) (y (1, 1) - y (1, 0)) := t.grow 1 0 (by omega) (by decide) (by omega) (by omega)
  have g11 : T.In (0, 1) (y (1, 2) - y (1, 1)) := t.grow 1 1 (by omega) (by decide) (by omega) (by omega)
  have g12 : T.In (0, 1) (y (1, 3) - y (1, 2)) := t.grow 1 2 (by omega) (by decide) (by omega) (by omega)
  unfold T.In at g10 g11 g12
  simp only at g10 g11 g12
  omega
/-- the bad cellars: hours, rates, openings, comparisons -/
def T.kbad : Nat → Int × T.LR × T.LO × T.LP
  | 0 => (0, [], [], [])
  | 1 => (13, T.rs0, T.os0, T.ps0)
  | 2 => (3, [(0, 1001), (0, 1), (-10, 10)], T.os0, T.ps0)
  | 3 => (3, T.rs0, [(3, 1, -50, 50)], T.ps0)
  | 4 => (3, T.rs0, [(2, 3, -50, 50)], T.ps0)
  | 5 => (3, T.rs0, [(2, 1, 1, 0)], T.ps0)
  | 6 => (3, T.rs0, T.os0, [(4, 0, -1, 100, 104), (1, 0, 1, 40, 44), (3, 1, -1, 60, 61), (3, 2, 1, 5, 5)])
  | 7 => (3, T.rs0, T.os0, [(0, 0, -1, 100, 104), (1, 0, 0, 40, 44), (3, 1, -1, 60, 61), (3, 2, 1, 5, 5)])
  | 8 => (3, T.rs0, T.os0, [(0, 0, -1, 100, 104), (1, -1, 1, 40, 44), (3, 1, -1, 60, 61), (3, 2, 1, 5, 5)])
  | _ => (3, T.rs0, T.os0, [(0, 0, -1, 100, 104), (1, 0, 1, 40, 44), (3, 1, -1, 0, 200001), (3, 2, 1, 5, 5)])
theorem T.kbad_at {c : Int × T.LR × T.LO × T.LP} (h : T.valid c.1 c.2.1 c.2.2.1 c.2.2.2 = false) : T.valid c.1 c.2.1 c.2.2.1 c.2.2.2 = false := h
theorem T.kbad_no {k : Nat} (h : k < 10) : T.valid (T.kbad k).1 (T.kbad k).2.1 (T.kbad k).2.2.1 (T.kbad k).2.2.2 = false := by
  have : k = 0 ∨ k = 1 ∨ k = 2 ∨ k = 3 ∨ k = 4 ∨ k = 5 ∨ k = 6 ∨ k = 7 ∨ k = 8 ∨ k = 9 := by omega
  rcases this with rfl | rfl | rfl | rfl | rfl | rfl | rfl | rfl | rfl | rfl <;> exact T.kbad_at (by kernel_rfl)

section
variable {w : World} {aR aO aP : Option Addr} {nR nO nP cR cO cP : Nat}
theorem kn_far_wrong (I : Sps w (.slice aR 1 cR) T.rsF) (IO : Ops w (.slice aO nO cO) T.osG) (IP : Prs w (.slice aP nP cP) []) :
    Calls Try.prog 27 #[ClV 1 (.slice aR 1 cR) (.slice aO nO cO) (.slice aP nP cP)] w fun e w' => e = .returned (.tuple #[.slice none 0 0, .int .i64 22]) ∧ Up w w' := by
  refine (Wrong_ok (H := 1) I IO IP (fun s => T.web_ok T.goodG) (T.valid_good.2 T.goodG)).mono ?_
  rintro e x ⟨⟨v, n, rfl, ⟨s, a, _⟩ | ⟨_, rfl, rfl⟩⟩, u⟩
  · have := T.far_few
    rw [this] at a
    cases a
  · exact ⟨rfl, u⟩
theorem kn_far_off (I : Sps w (.slice aR 1 cR) T.rsF) (IO : Ops w (.slice aO nO cO) T.osF) (IP : Prs w (.slice aP nP cP) []) :
    Calls Try.prog 19 #[ClV 1 (.slice aR 1 cR) (.slice aO nO cO) (.slice aP nP cP), .int .i64 0, .int .i64 1] w fun e w' => e = .returned (.tuple #[SpV 100000 100000, .int .i64 0]) ∧ Up w w' :=
  Offset_tells (H := 1) T.goodF ⟨by omega, by decide⟩ ⟨by omega, by decide⟩ T.far_off I IO IP
theorem kn_best (I : Sps w (.slice aR 3 cR) T.rs0) (IO : Ops w (.slice aO nO cO) T.os0) (IP : Prs w (.slice aP nP cP) T.ps0) :
    Calls Try.prog 30 #[ClV 3 (.slice aR 3 cR) (.slice aO nO cO) (.slice aP nP cP), .int .i64 0] w fun e w' => e = .returned (.tuple #[.int .i64 0, .int .i64 4, .int .i64 0]) ∧ Up w w' := by
  have b0 : T.Tells 3 T.rs0 T.os0 T.ps0 (0, 0) (-1, 0) 100 104 0 := by
    refine .inl ⟨rfl, fun y t => ?_, ⟨_, T.k_tru, by kernel_rfl⟩, ⟨_, (T.chk_tru (show T.chk 3 T.rs0 T.os0 T.ps0 false false false false false (T.tab [[104, 104, 107, 110], [60, 60, 60, 60], [125, 115, 55, 65]]) = true by kernel_rfl)), by kernel_rfl⟩⟩
    have a0 : T.In (100, 104) (y (0, 0) - y (-1, 0)) := t.cmp (0, 0, -1, 100, 104) (by decide) rfl rfl
    exact a0
  obtain ⟨b, lo, hi, hb, q, hm, hc⟩ := Best_tells (aR := aR) (nR := 3) (cR := cR) (aO := aO) (nO := nO) (cO := cO) (aP := aP) (nP := nP) (cP := cP) (h := 0) T.good0 ⟨by omega, by decide⟩ ⟨_, T.k_tru⟩
  have c0 := hm 0 100 104 (by decide) b0
  have d1 : ¬ b = 1 := fun e => by
    subst e
    obtain ⟨p, _, _⟩ := q.yes
    have := c0.2 (by omega)
    obtain ⟨_, ⟨y1, t1, e1⟩, y2, t2, e2⟩ := q.yes
    have w1 : T.Tr 3 T.rs0 T.os0 T.ps0 T.w_off_hi := T.chk_tru (by kernel_rfl)
    have r1 := p _ T.k_tru
    have r2 := p _ w1
    have v1 : T.tab T.k_rows ((1 : Nat), 0) - T.tab T.k_rows (-1, 0) = 57 := by kernel_rfl
    have v2 : T.w_off_hi ((1 : Nat), 0) - T.w_off_hi (-1, 0) = 61 := by kernel_rfl
    omega
  have d2 : ¬ b = 2 := fun e => by
    subst e
    obtain ⟨p, _, _⟩ := q.yes
    have := c0.2 (by omega)
    have w1 : T.Tr 3 T.rs0 T.os0 T.ps0 T.w_off_hi := T.chk_tru (by kernel_rfl)
    have r1 := p _ T.k_tru
    have r2 := p _ w1
    have v1 : T.tab T.k_rows ((2 : Nat), 0) - T.tab T.k_rows (-1, 0) = 65 := by kernel_rfl
    have v2 : T.w_off_hi ((2 : Nat), 0) - T.w_off_hi (-1, 0) = 146 := by kernel_rfl
    omega
  have h3 : b < 3 := hb
  obtain rfl : b = 0 := by omega
  obtain ⟨rfl, rfl, _⟩ := q.congr (fun y => Iff.rfl) b0
  exact hc w I IO IP
end

end Go.Proofs.Ytcmdaiklkdeanaa
