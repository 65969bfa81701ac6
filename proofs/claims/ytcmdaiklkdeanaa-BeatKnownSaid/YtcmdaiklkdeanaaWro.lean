import Derived.Test.YtcmdaiklkdeanaaLst
import Derived.Test.YtcmdaiklkdeanaaExq
/- The contract of Wrong. -/
namespace Go.Proofs.Ytcmdaiklkdeanaa
open Go.RowKit Go.Shelf
attribute [local go_sem] Oper.semAt_some

section
variable {H : Nat} {aR aO aP aT aV : Option Addr} {nR cR nO cO nP cP nT cT nV cV : Nat} {rs : List (Int × Int)} {os : List (Int × Int × Int × Int)} {ps : List (Int × Int × Int × Int × Int)}
/-- whether a cellar can be true without the comparisons of a set of clocks -/
noncomputable def T.canP (nR H : Nat) (rs : List (Int × Int)) (os : List (Int × Int × Int × Int)) (ps : List (Int × Int × Int × Int × Int)) (s : Nat → Bool) : Bool :=
  @decide (∃ y, T.Sat T.sHi (T.web nR H rs os ps (s 0) (s 1) (s 2) (s 3) (s 4)) y) (Classical.propDecidable _)
theorem T.canP_iff {nR : Nat} {s : Nat → Bool} : T.canP nR H rs os ps s = true ↔ ∃ y, T.Sat T.sHi (T.web nR H rs os ps (s 0) (s 1) (s 2) (s 3) (s 4)) y := by
  unfold T.canP
  exact @decide_eq_true_iff _ (Classical.propDecidable _)
set_option maxRecDepth 100000 in
set_option maxHeartbeats 2000000 in
theorem Wrong_bad {w : World} {Hi : Int} (I : Sps w (.slice aR nR cR) rs) (IO : Ops w (.slice aO nO cO) os) (IP : Prs w (.slice aP nP cP) ps) (hv : T.valid Hi rs os ps = false) :
    Calls Try.prog 27 #[ClV Hi (.slice aR nR cR) (.slice aO nO cO) (.slice aP nP cP)] w fun e w' => e = .returned (.tuple #[.slice none 0 0, .int .i64 20]) ∧ Up w w' := by
  have HN := Lib.hid (fun w' (u : Up w w') => newCellar_no (I.up u) (IO.up u) (IP.up u) hv)
  clear I IO IP hv
  go_enter Try.func27, Try.ntmps27
  go_wp2_with fail
  refine (HN.out _ ((Up.refl w).alloc _)).mono ?_
  rintro e W1 ⟨rfl, u1⟩
  have UW := (((Up.refl w).alloc (.cells #[.int .i64 Hi, .slice aR nR cR, .slice aO nO cO, .slice aP nP cP] 26)).trans u1).alloc (.cells (CeC 0 (.slice none 0 0) (.slice none 0 0) (.slice none 0 0) false false false false false) 79)
  clear HN u1
  go_wp2
  go_ret2
  exact ⟨rfl, UW⟩
set_option maxRecDepth 100000 in
set_option maxHeartbeats 2000000 in
theorem Wrong_ok {w : World} (I : Sps w (.slice aR nR cR) rs) (IO : Ops w (.slice aO nO cO) os) (IP : Prs w (.slice aP nP cP) ps) (W : ∀ s : Nat → Bool, T.WebOk nR H (T.web nR H rs os ps (s 0) (s 1) (s 2) (s 3) (s 4))) (hv : T.valid H rs os ps = true) :
    Calls Try.prog 27 #[ClV H (.slice aR nR cR) (.slice aO nO cO) (.slice aP nP cP)] w fun e w' => (∃ (v : Value) (n : Int), e = .returned (.tuple #[v, .int .i64 n]) ∧ ((∃ s, T.few (T.canP nR H rs os ps) nR 0 = some s ∧ Ints w' v (T.lst s 5) ∧ n = 0) ∨ (T.few (T.canP nR H rs os ps) nR 0 = none ∧ v = .slice none 0 0 ∧ n = 22))) ∧ Up w w' := by
  have hn := I.len
  have G := T.valid_good.1 hv
  have g2 := G.h2
  have g5 : nR ≤ 5 := by rw [hn]; exact G.r2
  have HN := Lib.hid (fun w' (u : Up w w') => newCellar_yes (I.up u) (IO.up u) (IP.up u) hv)
  have HP : ∀ w', Up w w' → ∀ s : Nat → Bool, Calls Try.prog 59 #[CeV H (.slice aR nR cR) (.slice aO nO cO) (.slice aP nP cP) false false false false false, ClkV (s 0) (s 1) (s 2) (s 3) (s 4)] w' fun e w'' => e = .returned (.bool (T.canP nR H rs os ps s)) ∧ Up w' w'' := fun w' u s => by
    refine (canBe_any (a0 := false) (a1 := false) (a2 := false) (a3 := false) (a4 := false) (b0 := s 0) (b1 := s 1) (b2 := s 2) (b3 := s 3) (b4 := s 4) g2 g5 (I.up u) (IO.up u) (IP.up u) (fun x hx => (G.rsB x hx).1) (fun x hx => ?_) G.o6 (fun x hx => ?_) G.p14 (W s)).mono ?_
    · have h := G.osB x hx
      rw [hn]
      exact ⟨h.1, h.2.1, h.2.2.1⟩
    · have h := G.psB x hx
      rw [hn]
      exact ⟨h.2.1, h.2.2.1, h.2.2.2.2.1⟩
    · rintro e w'' ⟨⟨r, rfl, hr⟩, u'⟩
      refine ⟨?_, u'⟩
      have : r = T.canP nR H rs os ps s := by rw [Bool.eq_iff_iff, T.canP_iff]; exact hr
      rw [this]
  have HF := Lib.hid (fun w1 (u : Up w w1) => fewest_any (w0 := w1) g5 (fun w' u' => HP w' (u.trans u')))
  clear I IO IP W hv hn G HP
  go_enter Try.func27, Try.ntmps27
  go_wp2_with fail
  refine (HN.out _ ((Up.refl w).alloc _)).mono ?_
  rintro e W1 ⟨rfl, u1⟩
  have UW := (((Up.refl w).alloc (.cells #[.int .i64 H, .slice aR nR cR, .slice aO nO cO, .slice aP nP cP] 26)).trans u1).alloc (.cells (CeC H (.slice aR nR cR) (.slice aO nO cO) (.slice aP nP cP) false false false false false) 79)
  clear HN u1
  go_wp2_with fail
  obtain ⟨W2, hW2⟩ : ∃ z, W1.alloc (.cells (CeC H (.slice aR nR cR) (.slice aO nO cO) (.slice aP nP cP) false false false false false) 79) = z := ⟨_, rfl⟩
  rw [hW2] at UW ⊢
  clear hW2
  refine (HF.out W2 UW).mono ?_
  rintro e W3 ⟨⟨r, s, rfl, hr⟩, u3⟩
  replace UW := UW.trans u3
  have HL := Lib.hid (fun w' => list_any s w')
  have HR := Lib.hid hr
  obtain ⟨x0, hx0⟩ : ∃ x, s 0 = x := ⟨_, rfl⟩
  obtain ⟨x1, hx1⟩ : ∃ x, s 1 = x := ⟨_, rfl⟩
  obtain ⟨x2, hx2⟩ : ∃ x, s 2 = x := ⟨_, rfl⟩
  obtain ⟨x3, hx3⟩ : ∃ x, s 3 = x := ⟨_, rfl⟩
  obtain ⟨x4, hx4⟩ : ∃ x, s 4 = x := ⟨_, rfl⟩
  rw [hx0, hx1, hx2, hx3, hx4] at HL ⊢
  replace UW := UW.alloc (.cells (ClkC x0 x1 x2 x3 x4) 77)
  clear HF hr u3 hx0 hx1 hx2 hx3 hx4
  cases r with
  | false =>
    go_wp2
    go_ret2
    rcases HR.out with ⟨h, _⟩ | ⟨_, h⟩
    · cases h
    · exact ⟨⟨_, _, rfl, .inr ⟨h, rfl, rfl⟩⟩, UW⟩
  | true =>
    go_wp2_with fail
    refine (HL.out _).mono ?_
    rintro e W4 ⟨⟨v, rfl, hi⟩, u4⟩
    have HI := Lib.hid hi
    clear HL hi
    go_wp2
    go_ret2
    rcases HR.out with ⟨_, h⟩ | ⟨h, _⟩
    · exact ⟨⟨_, _, rfl, .inl ⟨s, h, HI.out, rfl⟩⟩, UW.trans u4⟩
    · cases h
end

end Go.Proofs.Ytcmdaiklkdeanaa
