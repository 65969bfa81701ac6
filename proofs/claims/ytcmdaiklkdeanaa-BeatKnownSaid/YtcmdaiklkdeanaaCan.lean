import Derived.Test.YtcmdaiklkdeanaaAsk
import Derived.Test.YtcmdaiklkdeanaaNwb
/- The contract of canBeTrueWithout. -/
namespace Go.Proofs.Ytcmdaiklkdeanaa
open Go.RowKit Go.Shelf
attribute [local go_sem] Oper.semAt_some

/-- a set of clocks -/
abbrev ClkC (b0 b1 b2 b3 b4 : Bool) : Array Value := #[.bool b0, .bool b1, .bool b2, .bool b3, .bool b4]
abbrev ClkV (b0 b1 b2 b3 b4 : Bool) : Value := .agg (ClkC b0 b1 b2 b3 b4)
section
variable {H : Nat} {aR aO aP : Option Addr} {nR cR nO cO nP cP : Nat} {a0 a1 a2 a3 a4 b0 b1 b2 b3 b4 : Bool} {rs : List (Int × Int)} {os : List (Int × Int × Int × Int)} {ps : List (Int × Int × Int × Int × Int)}
set_option maxRecDepth 100000 in
set_option maxHeartbeats 2000000 in
theorem canBe_any {w : World} (hH : H ≤ 12) (hR : nR ≤ 5) (I : Sps w (.slice aR nR cR) rs) (IO : Ops w (.slice aO nO cO) os) (IP : Prs w (.slice aP nP cP) ps)
    (hrs : ∀ s ∈ rs, T.Bs 1000 s) (hos : ∀ x ∈ os, (0 ≤ x.1 ∧ x.1 < nR) ∧ (0 ≤ x.2.1 ∧ x.2.1 < H) ∧ T.Bs 100000 x.2.2) (ho6 : os.length ≤ 6) (hps : ∀ x ∈ ps, (0 ≤ x.2.1 ∧ x.2.1 < nR) ∧ (-1 ≤ x.2.2.1 ∧ x.2.2.1 < nR) ∧ T.Bs 200000 x.2.2.2) (hp14 : ps.length ≤ 14)
    (W : T.WebOk nR H (T.web nR H rs os ps b0 b1 b2 b3 b4)) :
    Calls Try.prog 59 #[CeV H (.slice aR nR cR) (.slice aO nO cO) (.slice aP nP cP) a0 a1 a2 a3 a4, ClkV b0 b1 b2 b3 b4] w fun e w' => (∃ r, e = .returned (.bool r) ∧ (r = true ↔ ∃ y, T.Sat T.sHi (T.web nR H rs os ps b0 b1 b2 b3 b4) y)) ∧ Up w w' := by
  have HN := Lib.hid (fun w' (u : Up w w') => newWeb_any (b0 := b0) (b1 := b1) (b2 := b2) (b3 := b3) (b4 := b4) hH hR (I.up u) (IO.up u) (IP.up u) hrs hos ho6 hps hp14)
  have m0 : ((-1 : Int), (0 : Int)) ∈ T.moms nR H := T.mem_moms.2 (.inl ⟨rfl, rfl⟩)
  have HF := Lib.hid (fun aT nT cT w' (IT : Tis w' (.slice aT nT cT) _) => farthest_ah (b0 := b0) (b1 := b1) (b2 := b2) (b3 := b3) (b4 := b4) (aR := aR) (aO := aO) (aP := aP) (nO := nO) (nP := nP) (cR := cR) (cO := cO) (cP := cP) (m0 := (-1, 0)) hH hR IT W.tok W.len (T.moms_in hR hH m0))
  have HY := Lib.hid (fun cs r h => W.yes hH hR m0 (cs := cs) (r := r) h)
  clear I IO IP hrs hos ho6 hps hp14 W m0
  go_enter Try.func59, Try.ntmps59
  have UW := ((Up.refl w).alloc (.cells (CeC H (.slice aR nR cR) (.slice aO nO cO) (.slice aP nP cP) b0 b1 b2 b3 b4) 79)).alloc (.cells (ClkC b0 b1 b2 b3 b4) 77)
  have hoz := Lib.hid OZ_size
  go_wp2_with fail
  refine (HN.out _ UW).mono ?_
  rintro e W1 ⟨⟨aT, nT, cT, rfl, hT⟩, u1⟩
  replace UW := UW.trans u1
  clear HN u1
  go_wp2_with fail
  refine (at_true 0 W1).mono ?_
  rintro e W2 ⟨rfl, u2⟩
  replace UW := UW.trans u2
  replace hT := hT.up u2
  clear u2
  go_wp2_with fail
  refine (ahead_any W2).mono ?_
  rintro e W3 ⟨rfl, u3⟩
  replace UW := UW.trans u3
  replace hT := hT.up u3
  clear u3
  go_wp2_with fail
  refine (HF.out _ _ _ W3 hT).mono ?_
  rintro e W4 ⟨⟨cs, r, rfl, hF⟩, u4⟩
  replace UW := UW.trans u4
  have hok : Ok78 cs := hF.one
  have UZ := UW.alloc (.cells cs 87)
  have hr : r = true ↔ ∃ y, T.Sat T.sHi (T.web nR H rs os ps b0 b1 b2 b3 b4) y := by
    rcases HY.out cs r hF with ⟨rfl, d, hd, _⟩ | ⟨rfl, _, hno⟩
    · exact ⟨fun _ => ⟨d, hd⟩, fun _ => rfl⟩
    · exact ⟨fun e => (by cases e), fun ⟨y, hy⟩ => absurd hy (hno y)⟩
  clear HF HY hT hF u4
  go_wp2
  go_ret
  exact ⟨⟨r, rfl, hr⟩, UZ⟩
end

end Go.Proofs.Ytcmdaiklkdeanaa
