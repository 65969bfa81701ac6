import Derived.Test.YtonklhfpjooheaaRas
/- What the program and the reference both return. -/
namespace Go.Proofs.Ytonklhfpjooheaa
open Go.RowKit

section
variable {Hi : Int} {aR aO aP : Option Addr} {nR cR nO cO nP cP : Nat} {rs : T.LR} {os : T.LO} {ps : T.LP}
theorem T.askErr_no {cl hr : List Int} (hv : T.valid Hi rs os ps = false) : T.askErr Hi rs os ps cl hr = 20 := by
  unfold T.askErr
  rw [if_pos hv]
theorem T.refErr_no {a b c d : Int} (hv : T.valid Hi rs os ps = false) : T.refErr Hi rs os ps a b c d = 20 := by
  unfold T.refErr
  rw [if_pos hv]
theorem T.both_Offset {w : World} (I : Sps w (.slice aR nR cR) rs) (IO : Ops w (.slice aO nO cO) os) (IP : Prs w (.slice aP nP cP) ps) (k t : Int) :
    ∃ l h e : Int, ∀ w', Up w w' → (Calls Try.prog 19 #[ClV Hi (.slice aR nR cR) (.slice aO nO cO) (.slice aP nP cP), .int .i64 k, .int .i64 t] w' fun e' w'' => e' = .returned (.tuple #[SpV l h, .int .i64 e]) ∧ Up w' w'') ∧
      (Calls Try.prog 20 #[ClV Hi (.slice aR nR cR) (.slice aO nO cO) (.slice aP nP cP), .int .i64 k, .int .i64 t] w' fun e' w'' => e' = .returned (.tuple #[SpV l h, .int .i64 e]) ∧ Up w' w'') ∧ ((T.valid Hi rs os ps = true ∧ inB k 0 ((rs.length : Int) - 1) = true ∧ inB t 0 Hi = true ∧ ∃ H : Nat, Hi = H ∧ T.Tells H rs os ps (k, t) (-1, 0) l h e) ∨ (e ≠ 0 ∧ l = 0 ∧ h = 0 ∧ T.askErr Hi rs os ps [k] [t] = e)) := by
  cases hv : T.valid Hi rs os ps with
  | false =>
    refine ⟨0, 0, 20, fun w' u => ⟨Offset_bad (I.up u) (IO.up u) (IP.up u) (T.askErr_no hv) (by decide), r_Offset_any (I.up u) (IO.up u) (IP.up u) (.inl ⟨by rw [T.refErr_no hv]; decide, (T.refErr_no hv).symm, rfl, rfl⟩), .inr ⟨by decide, rfl, rfl, T.askErr_no hv⟩⟩⟩
  | true =>
    obtain ⟨H, rfl⟩ := T.valid_nat hv
    have G := T.valid_good.1 hv
    have r1 := G.r1
    have e1 : T.askErr (H : Int) rs os ps [k] [t] = if (inB k 0 ((rs.length : Int) - 1) && inB t 0 (H : Int)) = false then 21 else 0 := by
      unfold T.askErr
      rw [if_neg (by rw [hv]; decide)]
      simp [T.clkP, T.hrP]
    have e2 : T.refErr (H : Int) rs os ps k t (-1) 0 = if (inB k 0 ((rs.length : Int) - 1) && inB t 0 (H : Int)) = false then 21 else 0 := by
      unfold T.refErr
      rw [if_neg (by rw [hv]; decide), inB_yes (show (-1 : Int) ≤ -1 by omega) (by omega), inB_yes (show (0 : Int) ≤ 0 by omega) (by omega), Bool.true_and, Bool.and_true]
    cases hb : (inB k 0 ((rs.length : Int) - 1) && inB t 0 (H : Int)) with
    | false =>
      rw [hb, if_pos rfl] at e1 e2
      exact ⟨0, 0, 21, fun w' u => ⟨Offset_bad (I.up u) (IO.up u) (IP.up u) e1 (by decide), r_Offset_any (I.up u) (IO.up u) (IP.up u) (.inl ⟨by rw [e2]; decide, e2.symm, rfl, rfl⟩), .inr ⟨by decide, rfl, rfl, e1⟩⟩⟩
    | true =>
      rw [hb, if_neg (by decide)] at e2
      rw [Bool.and_eq_true] at hb
      have i1 := inB_iff.1 hb.1
      have i2 := inB_iff.1 hb.2
      obtain ⟨l, h, e, q⟩ := T.Tells.ex (m1 := (k, t)) (m2 := (-1, 0)) G (T.mom_in ⟨i1.1, by omega⟩ i2) T.mom_0
      exact ⟨l, h, e, fun w' u => ⟨Offset_tells G ⟨i1.1, by omega⟩ i2 q (I.up u) (IO.up u) (IP.up u), r_Offset_any (I.up u) (IO.up u) (IP.up u) (.inr ⟨e2, H, rfl, q⟩), .inl ⟨rfl, hb.1, hb.2, H, rfl, q⟩⟩⟩
theorem T.both_Apart {w : World} (I : Sps w (.slice aR nR cR) rs) (IO : Ops w (.slice aO nO cO) os) (IP : Prs w (.slice aP nP cP) ps) (k i t : Int) :
    ∃ l h e : Int, ∀ w', Up w w' → (Calls Try.prog 22 #[ClV Hi (.slice aR nR cR) (.slice aO nO cO) (.slice aP nP cP), .int .i64 k, .int .i64 i, .int .i64 t] w' fun e' w'' => e' = .returned (.tuple #[SpV l h, .int .i64 e]) ∧ Up w' w'') ∧
      (Calls Try.prog 23 #[ClV Hi (.slice aR nR cR) (.slice aO nO cO) (.slice aP nP cP), .int .i64 k, .int .i64 i, .int .i64 t] w' fun e' w'' => e' = .returned (.tuple #[SpV l h, .int .i64 e]) ∧ Up w' w'') := by
  cases hv : T.valid Hi rs os ps with
  | false =>
    refine ⟨0, 0, 20, fun w' u => ⟨Apart_bad (I.up u) (IO.up u) (IP.up u) (T.askErr_no hv) (by decide), r_Apart_any (I.up u) (IO.up u) (IP.up u) (.inl ⟨by rw [T.refErr_no hv]; decide, (T.refErr_no hv).symm, rfl, rfl⟩) (fun h => by rw [hv] at h; cases h)⟩⟩
  | true =>
    obtain ⟨H, rfl⟩ := T.valid_nat hv
    have G := T.valid_good.1 hv
    have e1 : T.askErr (H : Int) rs os ps [k, i] [t] = if (inB k 0 ((rs.length : Int) - 1) && (inB i 0 ((rs.length : Int) - 1) && inB t 0 (H : Int))) = false then 21 else 0 := by
      unfold T.askErr
      rw [if_neg (by rw [hv]; decide)]
      simp [T.clkP, T.hrP, Bool.and_assoc]
    by_cases hi : i < 0
    · have e0 : inB i 0 ((rs.length : Int) - 1) = false := by
        rw [← Bool.not_eq_true]
        intro q
        have := inB_iff.1 q
        omega
      rw [e0, Bool.false_and, Bool.and_false, if_pos rfl] at e1
      exact ⟨0, 0, 21, fun w' u => ⟨Apart_bad (I.up u) (IO.up u) (IP.up u) e1 (by decide), r_Apart_low (I.up u) (IO.up u) (IP.up u) hv hi⟩⟩
    · have ei : inB i (-1) ((rs.length : Int) - 1) = inB i 0 ((rs.length : Int) - 1) := by
        rw [Bool.eq_iff_iff, inB_iff, inB_iff]
        omega
      have e2 : T.refErr (H : Int) rs os ps k t i t = if (inB k 0 ((rs.length : Int) - 1) && (inB i 0 ((rs.length : Int) - 1) && inB t 0 (H : Int))) = false then 21 else 0 := by
        unfold T.refErr
        rw [if_neg (by rw [hv]; decide), ei, Bool.and_self]
      cases hb : (inB k 0 ((rs.length : Int) - 1) && (inB i 0 ((rs.length : Int) - 1) && inB t 0 (H : Int))) with
      | false =>
        rw [hb, if_pos rfl] at e1 e2
        exact ⟨0, 0, 21, fun w' u => ⟨Apart_bad (I.up u) (IO.up u) (IP.up u) e1 (by decide), r_Apart_any (I.up u) (IO.up u) (IP.up u) (.inl ⟨by rw [e2]; decide, e2.symm, rfl, rfl⟩) (fun _ => by omega)⟩⟩
      | true =>
        rw [hb, if_neg (by decide)] at e2
        rw [Bool.and_eq_true, Bool.and_eq_true] at hb
        have i1 := inB_iff.1 hb.1
        have i2 := inB_iff.1 hb.2.1
        have i3 := inB_iff.1 hb.2.2
        obtain ⟨l, h, e, q⟩ := T.Tells.ex (m1 := (k, t)) (m2 := (i, t)) G (T.mom_in ⟨i1.1, by omega⟩ i3) (T.mom_in ⟨i2.1, by omega⟩ i3)
        have em : T.mmt i t = (i, t) := if_neg hi
        exact ⟨l, h, e, fun w' u => ⟨Apart_tells G ⟨i1.1, by omega⟩ ⟨i2.1, by omega⟩ i3 q (I.up u) (IO.up u) (IP.up u), r_Apart_any (I.up u) (IO.up u) (IP.up u) (.inr ⟨e2, H, rfl, by rw [em]; exact q⟩) (fun _ => by omega)⟩⟩
theorem T.both_Drift {w : World} (I : Sps w (.slice aR nR cR) rs) (IO : Ops w (.slice aO nO cO) os) (IP : Prs w (.slice aP nP cP) ps) (k f t : Int) :
    ∃ l h e : Int, ∀ w', Up w w' → (Calls Try.prog 24 #[ClV Hi (.slice aR nR cR) (.slice aO nO cO) (.slice aP nP cP), .int .i64 k, .int .i64 f, .int .i64 t] w' fun e' w'' => e' = .returned (.tuple #[SpV l h, .int .i64 e]) ∧ Up w' w'') ∧
      (Calls Try.prog 25 #[ClV Hi (.slice aR nR cR) (.slice aO nO cO) (.slice aP nP cP), .int .i64 k, .int .i64 f, .int .i64 t] w' fun e' w'' => e' = .returned (.tuple #[SpV l h, .int .i64 e]) ∧ Up w' w'') := by
  cases hv : T.valid Hi rs os ps with
  | false =>
    refine ⟨0, 0, 20, fun w' u => ⟨Drift_bad (I.up u) (IO.up u) (IP.up u) (T.askErr_no hv) (by decide), r_Drift_any (I.up u) (IO.up u) (IP.up u) (.inl ⟨by rw [T.refErr_no hv]; decide, (T.refErr_no hv).symm, rfl, rfl⟩) (fun h => by rw [hv] at h; cases h)⟩⟩
  | true =>
    obtain ⟨H, rfl⟩ := T.valid_nat hv
    have G := T.valid_good.1 hv
    have e1 : T.askErr (H : Int) rs os ps [k] [f, t] = if (inB k 0 ((rs.length : Int) - 1) && (inB f 0 (H : Int) && inB t 0 (H : Int))) = false then 21 else 0 := by
      unfold T.askErr
      rw [if_neg (by rw [hv]; decide)]
      simp [T.clkP, T.hrP]
    by_cases hk : k < 0
    · have e0 : inB k 0 ((rs.length : Int) - 1) = false := by
        rw [← Bool.not_eq_true]
        intro q
        have := inB_iff.1 q
        omega
      rw [e0, Bool.false_and, if_pos rfl] at e1
      exact ⟨0, 0, 21, fun w' u => ⟨Drift_bad (I.up u) (IO.up u) (IP.up u) e1 (by decide), r_Drift_low (I.up u) (IO.up u) (IP.up u) hv hk⟩⟩
    · have ei : inB k (-1) ((rs.length : Int) - 1) = inB k 0 ((rs.length : Int) - 1) := by
        rw [Bool.eq_iff_iff, inB_iff, inB_iff]
        omega
      have e2 : T.refErr (H : Int) rs os ps k t k f = if (inB k 0 ((rs.length : Int) - 1) && (inB f 0 (H : Int) && inB t 0 (H : Int))) = false then 21 else 0 := by
        unfold T.refErr
        rw [if_neg (by rw [hv]; decide), ei, ← Bool.and_assoc, Bool.and_self, Bool.and_comm (inB t 0 (H : Int))]
      cases hb : (inB k 0 ((rs.length : Int) - 1) && (inB f 0 (H : Int) && inB t 0 (H : Int))) with
      | false =>
        rw [hb, if_pos rfl] at e1 e2
        exact ⟨0, 0, 21, fun w' u => ⟨Drift_bad (I.up u) (IO.up u) (IP.up u) e1 (by decide), r_Drift_any (I.up u) (IO.up u) (IP.up u) (.inl ⟨by rw [e2]; decide, e2.symm, rfl, rfl⟩) (fun _ => by omega)⟩⟩
      | true =>
        rw [hb, if_neg (by decide)] at e2
        rw [Bool.and_eq_true, Bool.and_eq_true] at hb
        have i1 := inB_iff.1 hb.1
        have i2 := inB_iff.1 hb.2.1
        have i3 := inB_iff.1 hb.2.2
        obtain ⟨l, h, e, q⟩ := T.Tells.ex (m1 := (k, t)) (m2 := (k, f)) G (T.mom_in ⟨i1.1, by omega⟩ i3) (T.mom_in ⟨i1.1, by omega⟩ i2)
        have em : T.mmt k f = (k, f) := if_neg hk
        exact ⟨l, h, e, fun w' u => ⟨Drift_tells G ⟨i1.1, by omega⟩ i2 i3 q (I.up u) (IO.up u) (IP.up u), r_Drift_any (I.up u) (IO.up u) (IP.up u) (.inr ⟨e2, H, rfl, by rw [em]; exact q⟩) (fun _ => by omega)⟩⟩
end

end Go.Proofs.Ytonklhfpjooheaa
