import Derived.Test.YtlpkheoljbdajaaIst
/- The contract of canBeTrueWithout. -/
namespace Go.Proofs.Ytlpkheoljbdajaa
open Go.RowKit Go.Shelf
attribute [local go_sem] Oper.semAt_some

/-- a set of looks -/
abbrev LoC (s : Nat → Bool) : Array Value := #[.bool (s 0), .bool (s 1), .bool (s 2), .bool (s 3), .bool (s 4), .bool (s 5), .bool (s 6), .bool (s 7), .bool (s 8), .bool (s 9)]
abbrev LoV (s : Nat → Bool) : Value := .agg (LoC s)
section
variable {N : Nat} {bl bh rl rh : Int} {aP aQ aL : Option Addr} {nP cP nQ cQ nL cL : Nat} {ps qs : List (Int × Int)} {ls : List T.T5} {o s : Nat → Bool}
set_option maxRecDepth 100000 in
set_option maxHeartbeats 2000000 in
theorem canBe_any {w : World} (I : Sps w (.slice aP nP cP) ps) (J : Sps w (.slice aQ nQ cQ) qs) (K : Lks w (.slice aL nL cL) ls) (h : T.valid N bl bh rl rh ps qs ls = true) :
    Calls Try.prog 74 #[BkV (N : Int) bl bh rl rh (.slice aP nP cP) (.slice aQ nQ cQ) (.slice aL nL cL) o, LoV s] w fun e w' => (∃ r, e = .returned (.bool r) ∧ (r = true ↔ ∃ y, T.Sat true (T.web N bl bh rl rh ps qs ls s) y)) ∧ Up w w' := by
  have W := T.valid_web h s
  have G := T.valid_bok h
  have HN := Lib.hid (fun w' (u : Up w w') => newWeb_any (o := s) G (I.up u) (J.up u) (K.up u))
  have HF := Lib.hid (fun aT nT cT w0 w' (IT : Tis w0 (.slice aT nT cT) _) (u : Up w0 w') => farthest_up (N := (N : Int)) (bl := bl) (bh := bh) (rl := rl) (rh := rh) (aP := aP) (nP := nP) (cP := cP) (aQ := aQ) (nQ := nQ) (cQ := cQ) (aL := aL) (nL := nL) (cL := cL) (o := s) IT u W.tin W.len (m := 0) (by omega))
  have HY := Lib.hid (fun cs r (h : T.FarIs true (T.web N bl bh rl rh ps qs ls s) 0 cs r) => h.yes (by omega) W.tin (fun t ht => W.con 0 _ (.inl rfl) (W.ali t ht).2))
  have HC := Lib.hid (fun cs r (h : T.FarIs true (T.web N bl bh rl rh ps qs ls s) 0 cs r) => h.oc W.tin W.len)
  clear I J K h W G
  have UW := ((Up.refl w).alloc (.cells (BkC (N : Int) bl bh rl rh (.slice aP nP cP) (.slice aQ nQ cQ) (.slice aL nL cL) s) 81)).alloc (.cells (LoC s) 79)
  go_enter Try.func74, Try.ntmps74
  have hoz := Lib.hid NZ_size
  go_wp2_with fail
  refine (HN.out _ UW).mono ?_
  rintro e W1 ⟨⟨aT, nT, cT, rfl, hT, _⟩, u1⟩
  replace UW := UW.trans u1
  clear HN u1
  go_wp2_with fail
  refine (upwards_any W1).mono ?_
  rintro e W2 ⟨rfl, u2⟩
  replace UW := UW.trans u2
  have HT := Lib.hid hT
  have HU2 := Lib.hid u2
  clear u2 hT
  go_wp2_with fail
  refine (HF.out _ _ _ _ W2 HT.out HU2.out).mono ?_
  rintro e W3 ⟨⟨cs, r, rfl, hF⟩, u3⟩
  replace UW := UW.trans u3
  have hok : Ok17 cs := by
    obtain ⟨_, hO, _⟩ := HC.out cs r hF
    exact hO.one
  have UZ := UW.alloc (.cells cs 85)
  have hr : r = true ↔ ∃ y, T.Sat true (T.web N bl bh rl rh ps qs ls s) y := by
    rcases HY.out cs r hF with ⟨rfl, d, _, _, hd, _⟩ | ⟨rfl, _, hno⟩
    · exact ⟨fun _ => ⟨d, hd⟩, fun _ => rfl⟩
    · exact ⟨fun e => (by cases e), fun ⟨y, hy⟩ => absurd hy (hno y)⟩
  have HR := Lib.hid hr
  clear HF HY HC hF u3 hr
  go_wp2
  go_ret
  exact ⟨⟨r, rfl, HR.out⟩, UZ⟩
end

end Go.Proofs.Ytlpkheoljbdajaa
