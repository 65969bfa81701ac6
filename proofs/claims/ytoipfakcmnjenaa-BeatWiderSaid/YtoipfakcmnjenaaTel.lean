import Derived.Test.YtoipfakcmnjenaaIst
import Derived.Test.YtoipfakcmnjenaaExp
/- What Offset, Apart and Drift tell, in the words of the chapter: over all truths. -/
namespace Go.Proofs.Ytoipfakcmnjenaa
open Go.RowKit

abbrev T.LR := List (Int × Int)
abbrev T.LO := List (Int × Int × Int × Int)
abbrev T.LP := List (Int × Int × Int × Int × Int)
/-- a truth of a cellar, no clock left out -/
abbrev T.Tr (H : Nat) (rs : T.LR) (os : T.LO) (ps : T.LP) (y : Int × Int → Int) : Prop := T.Tru H rs os ps false false false false false y
/-- between what it lies how far one moment is above another one, in all truths; or that there is none -/
def T.Tells (H : Nat) (rs : T.LR) (os : T.LO) (ps : T.LP) (m1 m2 : Int × Int) (l h e : Int) : Prop :=
  (e = 0 ∧ (∀ y, T.Tr H rs os ps y → l ≤ y m1 - y m2 ∧ y m1 - y m2 ≤ h) ∧ (∃ y, T.Tr H rs os ps y ∧ y m1 - y m2 = l) ∧ ∃ y, T.Tr H rs os ps y ∧ y m1 - y m2 = h) ∨ (e = 22 ∧ l = 0 ∧ h = 0 ∧ ∀ y, ¬ T.Tr H rs os ps y)

section
variable {H H' : Nat} {rs rs' : T.LR} {os os' : T.LO} {ps ps' : T.LP} {m1 m2 m3 m4 : Int × Int} {l h e l' h' e' a b c d e1 e2 : Int}
theorem T.tells_asked (G : T.Good H rs os ps) : T.Asked (T.web rs.length H rs os ps false false false false false) m1 m2 l h e ↔ T.Tells H rs os ps m1 m2 l h e := by
  unfold T.Tells T.Asked T.Told
  simp only [T.sat_tru G]
theorem T.Tells.ex (G : T.Good H rs os ps) (h1 : m1 ∈ T.moms rs.length H) (h2 : m2 ∈ T.moms rs.length H) : ∃ l h e, T.Tells H rs os ps m1 m2 l h e := by
  obtain ⟨l, h, e, q⟩ := T.asked_ex (T.web_ok (b0 := false) (b1 := false) (b2 := false) (b3 := false) (b4 := false) G) G.h2 G.r2 h1 h2
  exact ⟨l, h, e, (T.tells_asked G).1 q⟩
theorem T.Tells.err (T1 : T.Tells H rs os ps m1 m2 l h e) : e = 0 ∨ (e = 22 ∧ l = 0 ∧ h = 0) := by
  rcases T1 with ⟨a, _⟩ | ⟨a, b, c, _⟩
  · exact .inl a
  · exact .inr ⟨a, b, c⟩
theorem T.Tells.same (T1 : T.Tells H rs os ps m1 m2 l h e) (T2 : T.Tells H rs os ps m3 m4 l' h' e') : e = e' := by
  rcases T1 with ⟨rfl, _, ⟨y, hy, _⟩, _⟩ | ⟨rfl, _, _, hn⟩
  · rcases T2 with ⟨rfl, _⟩ | ⟨_, _, _, hn⟩
    · rfl
    · exact absurd hy (hn y)
  · rcases T2 with ⟨_, _, ⟨y, hy, _⟩, _⟩ | ⟨rfl, _⟩
    · exact absurd hy (hn y)
    · rfl
theorem T.Tells.yes (T1 : T.Tells H rs os ps m1 m2 l h 0) : (∀ y, T.Tr H rs os ps y → l ≤ y m1 - y m2 ∧ y m1 - y m2 ≤ h) ∧ (∃ y, T.Tr H rs os ps y ∧ y m1 - y m2 = l) ∧ ∃ y, T.Tr H rs os ps y ∧ y m1 - y m2 = h := by
  rcases T1 with ⟨_, a⟩ | ⟨a, _⟩
  · exact a
  · exact absurd a (by omega)
theorem T.Tells.no (T1 : T.Tells H rs os ps m1 m2 l h e) (he : e ≠ 0) : e = 22 ∧ l = 0 ∧ h = 0 ∧ ∀ y, ¬ T.Tr H rs os ps y := by
  rcases T1 with ⟨a, _⟩ | a
  · exact absurd a he
  · exact a
theorem T.Tells.bd (G : T.Good H rs os ps) (h1 : m1 ∈ T.moms rs.length H) (h2 : m2 ∈ T.moms rs.length H) (T1 : T.Tells H rs os ps m1 m2 l h e) : -200000 ≤ l ∧ l ≤ h ∧ h ≤ 200000 := by
  rcases T1 with ⟨_, p, ⟨y, hy, r⟩, z, hz, s⟩ | ⟨_, rfl, rfl, _⟩
  · have W := T.web_ok (b0 := false) (b1 := false) (b2 := false) (b3 := false) (b4 := false) G
    have q1 := W.far y ((T.sat_tru G).2 hy) m2 h2 m1 h1
    have q2 := W.far z ((T.sat_tru G).2 hz) m1 h1 m2 h2
    have q3 := p y hy
    omega
  · omega
theorem T.Tells.flip (T1 : T.Tells H rs os ps m1 m2 l h 0) (T2 : T.Tells H rs os ps m2 m1 l' h' e') : e' = 0 ∧ l' = -h ∧ h' = -l := by
  obtain rfl := T1.same T2
  obtain ⟨p, ⟨y, hy, r⟩, z, hz, s⟩ := T1.yes
  obtain ⟨p', ⟨y', hy', r'⟩, z', hz', s'⟩ := T2.yes
  have a1 := p y' hy'
  have a2 := p z' hz'
  have a3 := p' y hy
  have a4 := p' z hz
  refine ⟨rfl, ?_, ?_⟩ <;> omega
theorem T.Tells.tri (T1 : T.Tells H rs os ps m1 m2 l h 0) (T2 : T.Tells H rs os ps m1 m3 a b e1) (T3 : T.Tells H rs os ps m3 m2 c d e2) : e1 = 0 ∧ e2 = 0 ∧ a + c ≤ l ∧ h ≤ b + d := by
  obtain rfl := T1.same T2
  obtain rfl := T1.same T3
  obtain ⟨p, ⟨y, hy, r⟩, z, hz, s⟩ := T1.yes
  have p2 := T2.yes.1
  have p3 := T3.yes.1
  have a1 := p2 y hy
  have a2 := p2 z hz
  have a3 := p3 y hy
  have a4 := p3 z hz
  refine ⟨rfl, rfl, ?_, ?_⟩ <;> omega
theorem T.Tells.dif (T1 : T.Tells H rs os ps m1 m2 l h 0) (T2 : T.Tells H rs os ps m1 m3 a b e1) (T3 : T.Tells H rs os ps m2 m3 c d e2) : e1 = 0 ∧ e2 = 0 ∧ a - d ≤ l ∧ h ≤ b - c := by
  obtain rfl := T1.same T2
  obtain rfl := T1.same T3
  obtain ⟨p, ⟨y, hy, r⟩, z, hz, s⟩ := T1.yes
  have p2 := T2.yes.1
  have p3 := T3.yes.1
  have a1 := p2 y hy
  have a2 := p2 z hz
  have a3 := p3 y hy
  have a4 := p3 z hz
  refine ⟨rfl, rfl, ?_, ?_⟩ <;> omega
theorem T.Tells.self (T1 : T.Tells H rs os ps m1 m1 l h 0) : l = 0 ∧ h = 0 := by
  obtain ⟨p, ⟨y, hy, r⟩, z, hz, s⟩ := T1.yes
  constructor <;> omega
theorem T.Tells.wider (hm : ∀ y, T.Tr H rs os ps y → T.Tr H' rs' os' ps' y) (T1 : T.Tells H rs os ps m1 m2 l h e) (T2 : T.Tells H' rs' os' ps' m1 m2 l' h' e') : (e = 22 ∧ l = 0 ∧ h = 0) ∨ (e = 0 ∧ e' = 0 ∧ l' ≤ l ∧ h ≤ h') := by
  rcases T1 with ⟨rfl, p, ⟨y, hy, r⟩, z, hz, s⟩ | ⟨a, b, c, _⟩
  · rcases T2 with ⟨rfl, p', _⟩ | ⟨_, _, _, hn⟩
    · have a1 := p' y (hm y hy)
      have a2 := p' z (hm z hz)
      exact .inr ⟨rfl, rfl, by omega, by omega⟩
    · exact absurd (hm y hy) (hn y)
  · exact .inl ⟨a, b, c⟩
theorem T.Tells.congr (hm : ∀ y, T.Tr H rs os ps y ↔ T.Tr H' rs' os' ps' y) (T1 : T.Tells H rs os ps m1 m2 l h e) (T2 : T.Tells H' rs' os' ps' m1 m2 l' h' e') : l = l' ∧ h = h' ∧ e = e' := by
  rcases T1.wider (fun y => (hm y).1) T2 with ⟨rfl, rfl, rfl⟩ | ⟨rfl, rfl, p, q⟩
  · rcases T2.wider (fun y => (hm y).2) T1 with ⟨rfl, rfl, rfl⟩ | ⟨_, x, _⟩
    · exact ⟨rfl, rfl, rfl⟩
    · exact absurd x (by omega)
  · rcases T2.wider (fun y => (hm y).2) T1 with ⟨x, _⟩ | ⟨_, _, p', q'⟩
    · exact absurd x (by omega)
    · exact ⟨by omega, by omega, rfl⟩
theorem T.mom_in {n H : Nat} {k h : Int} (hk : 0 ≤ k ∧ k < n) (hh : 0 ≤ h ∧ h ≤ H) : (k, h) ∈ T.moms n H := T.mem_moms.2 (.inr ⟨hk, hh⟩)
theorem T.mom_0 {n H : Nat} : ((-1 : Int), (0 : Int)) ∈ T.moms n H := T.mem_moms.2 (.inl ⟨rfl, rfl⟩)
theorem T.ask0 (G : T.Good H rs os ps) {cl hr : List Int} (hc : ∀ k ∈ cl, 0 ≤ k ∧ k < rs.length) (hh : ∀ k ∈ hr, 0 ≤ k ∧ k ≤ H) : T.askErr H rs os ps cl hr = 0 := by
  unfold T.askErr
  rw [if_neg (by rw [T.valid_good.2 G]; decide), if_neg ?_]
  have e1 : cl.all (T.clkP rs.length) = true := List.all_eq_true.2 fun k hk => inB_yes (hc k hk).1 (by have := (hc k hk).2; omega)
  have e2 : hr.all (T.hrP H) = true := List.all_eq_true.2 fun k hk => inB_yes (hh k hk).1 (hh k hk).2
  rw [e1, e2]
  decide
end
section
variable {H : Nat} {rs : T.LR} {os : T.LO} {ps : T.LP} {aR aO aP : Option Addr} {nR cR nO cO nP cP : Nat} {lo hi eE : Int} {w : World}
theorem Offset_tells {k h : Int} (G : T.Good H rs os ps) (hk : 0 ≤ k ∧ k < rs.length) (hh : 0 ≤ h ∧ h ≤ H) (q : T.Tells H rs os ps (k, h) (-1, 0) lo hi eE) (I : Sps w (.slice aR nR cR) rs) (IO : Ops w (.slice aO nO cO) os) (IP : Prs w (.slice aP nP cP) ps) :
    Calls Try.prog 19 #[ClV H (.slice aR nR cR) (.slice aO nO cO) (.slice aP nP cP), .int .i64 k, .int .i64 h] w fun e w' => e = .returned (.tuple #[SpV lo hi, .int .i64 eE]) ∧ Up w w' := by
  have hn := I.len
  subst hn
  exact Offset_ok I IO IP (T.web_ok G) (T.ask0 G (by simpa using hk) (by simpa using hh)) ((T.tells_asked G).2 q)
theorem Apart_tells {k i h : Int} (G : T.Good H rs os ps) (hk : 0 ≤ k ∧ k < rs.length) (hi' : 0 ≤ i ∧ i < rs.length) (hh : 0 ≤ h ∧ h ≤ H) (q : T.Tells H rs os ps (k, h) (i, h) lo hi eE) (I : Sps w (.slice aR nR cR) rs) (IO : Ops w (.slice aO nO cO) os) (IP : Prs w (.slice aP nP cP) ps) :
    Calls Try.prog 22 #[ClV H (.slice aR nR cR) (.slice aO nO cO) (.slice aP nP cP), .int .i64 k, .int .i64 i, .int .i64 h] w fun e w' => e = .returned (.tuple #[SpV lo hi, .int .i64 eE]) ∧ Up w w' := by
  have hn := I.len
  subst hn
  exact Apart_ok I IO IP (T.web_ok G) (T.ask0 G (by simpa using ⟨hk, hi'⟩) (by simpa using hh)) ((T.tells_asked G).2 q)
theorem Drift_tells {k f u : Int} (G : T.Good H rs os ps) (hk : 0 ≤ k ∧ k < rs.length) (hf : 0 ≤ f ∧ f ≤ H) (hu : 0 ≤ u ∧ u ≤ H) (q : T.Tells H rs os ps (k, u) (k, f) lo hi eE) (I : Sps w (.slice aR nR cR) rs) (IO : Ops w (.slice aO nO cO) os) (IP : Prs w (.slice aP nP cP) ps) :
    Calls Try.prog 24 #[ClV H (.slice aR nR cR) (.slice aO nO cO) (.slice aP nP cP), .int .i64 k, .int .i64 f, .int .i64 u] w fun e w' => e = .returned (.tuple #[SpV lo hi, .int .i64 eE]) ∧ Up w w' := by
  have hn := I.len
  subst hn
  exact Drift_ok I IO IP (T.web_ok G) (T.ask0 G (by simpa using hk) (by simpa using ⟨hf, hu⟩)) ((T.tells_asked G).2 q)
end

end Go.Proofs.Ytoipfakcmnjenaa
