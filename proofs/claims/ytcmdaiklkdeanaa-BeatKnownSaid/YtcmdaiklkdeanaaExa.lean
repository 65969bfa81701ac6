import Derived.Test.YtcmdaiklkdeanaaWks
import Derived.Test.YtcmdaiklkdeanaaCas
/- The program's answers at the laws' example. -/
namespace Go.Proofs.Ytcmdaiklkdeanaa
open Go.RowKit

section
variable {aR aO aP : Option Addr} {cR cO cP : Nat} {w : World}
theorem ex_Offset (I : Sps w (.slice aR 3 cR) T.rs0) (IO : Ops w (.slice aO 1 cO) T.os0) (IP : Prs w (.slice aP 4 cP) T.ps0) : Calls Try.prog 19 #[ClV 3 (.slice aR 3 cR) (.slice aO 1 cO) (.slice aP 4 cP), .int .i64 0, .int .i64 1] w fun e w' => e = .returned (.tuple #[SpV 98 105, .int .i64 0]) ∧ Up w w' :=
  Offset_ok (H := 3) I IO IP T.ok0 (by kernel_rfl) (.inl ⟨rfl, T.ex_off⟩)
theorem ex_Apart (I : Sps w (.slice aR 3 cR) T.rs0) (IO : Ops w (.slice aO 1 cO) T.os0) (IP : Prs w (.slice aP 4 cP) T.ps0) : Calls Try.prog 22 #[ClV 3 (.slice aR 3 cR) (.slice aO 1 cO) (.slice aP 4 cP), .int .i64 0, .int .i64 1, .int .i64 3] w fun e w' => e = .returned (.tuple #[SpV 34 50, .int .i64 0]) ∧ Up w w' :=
  Apart_ok (H := 3) I IO IP T.ok0 (by kernel_rfl) (.inl ⟨rfl, T.ex_apart⟩)
theorem ex_Drift (I : Sps w (.slice aR 3 cR) T.rs0) (IO : Ops w (.slice aO 1 cO) T.os0) (IP : Prs w (.slice aP 4 cP) T.ps0) : Calls Try.prog 24 #[ClV 3 (.slice aR 3 cR) (.slice aO 1 cO) (.slice aP 4 cP), .int .i64 2, .int .i64 1, .int .i64 2] w fun e w' => e = .returned (.tuple #[SpV (-60) 60, .int .i64 0]) ∧ Up w w' :=
  Drift_ok (H := 3) I IO IP T.ok0 (by kernel_rfl) (.inl ⟨rfl, T.ex_drift⟩)
theorem ex_Best (I : Sps w (.slice aR 3 cR) T.rs0) (IO : Ops w (.slice aO 1 cO) T.os0) (IP : Prs w (.slice aP 4 cP) T.ps0) : Calls Try.prog 30 #[ClV 3 (.slice aR 3 cR) (.slice aO 1 cO) (.slice aP 4 cP), .int .i64 3] w fun e w' => e = .returned (.tuple #[.int .i64 1, .int .i64 1, .int .i64 0]) ∧ Up w w' :=
  Best_ok (H := 3) I IO IP T.ok0 (by kernel_rfl) (Lo := fun k => if k = 0 then 94 else if k = 1 then 60 else 65) (Hi := fun k => if k = 0 then 111 else if k = 1 then 61 else 66) fun k hk => by
    have : k = 0 ∨ k = 1 ∨ k = 2 := by omega
    rcases this with rfl | rfl | rfl
    · exact T.ex_b0
    · exact T.ex_b1
    · exact T.ex_b2
theorem ex_Wrong (I : Sps w (.slice aR 3 cR) T.rs0) (IO : Ops w (.slice aO 1 cO) T.os0) (IP : Prs w (.slice aP 5 cP) T.ps1) : Calls Try.prog 27 #[ClV 3 (.slice aR 3 cR) (.slice aO 1 cO) (.slice aP 5 cP)] w fun e w' => (∃ v, e = .returned (.tuple #[v, .int .i64 0]) ∧ Ints w' v [1]) ∧ Up w w' := by
  refine (Wrong_ok (H := 3) I IO IP (fun s => T.web_ok T.good1) (by kernel_rfl)).mono ?_
  rintro e w' ⟨⟨v, n, rfl, ⟨s, hs, hI, rfl⟩ | ⟨hs, _⟩⟩, u⟩
  · have e := T.ex_wrong.symm.trans hs
    have e2 := Option.some.inj e
    subst e2
    exact ⟨⟨v, rfl, hI⟩, u⟩
  · rw [T.ex_wrong] at hs
    cases hs
end
/-- rows of a table -/
theorem T.rws_at {o : Int × Int → Int} {sg : Int} {n H k h : Nat} (hk : k < n) (hh : h ≤ H) : ((T.rws o sg n H).getD k []).getD h 0 = IntKind.i64.wrap (o ((k : Int), (h : Int)) * sg) := by
  have e1 : (T.rws o sg n H).getD k [] = (List.range (H + 1)).map fun (j : Nat) => IntKind.i64.wrap (o ((k : Int), (j : Int)) * sg) := by
    unfold T.rws
    rw [List.getD_eq_getElem?_getD, List.getElem?_map, List.getElem?_range hk]
    rfl
  rw [e1, List.getD_eq_getElem?_getD, List.getElem?_map, List.getElem?_range (by omega)]
  rfl
theorem T.rws_len {o : Int × Int → Int} {sg : Int} {n H : Nat} : (T.rws o sg n H).length = n ∧ ∀ x ∈ T.rws o sg n H, x.length = H + 1 := by
  unfold T.rws
  refine ⟨by rw [List.length_map, List.length_range], fun x hx => ?_⟩
  obtain ⟨k, _, rfl⟩ := List.mem_map.1 hx
  rw [List.length_map, List.length_range]
theorem T.Tru.congr {H : Nat} {rs : List (Int × Int)} {os : List (Int × Int × Int × Int)} {ps : List (Int × Int × Int × Int × Int)} {b0 b1 b2 b3 b4 : Bool} (G : T.Good H rs os ps) {y z : Int × Int → Int} (h : T.Tru H rs os ps b0 b1 b2 b3 b4 y) (h0 : z (-1, 0) = y (-1, 0)) (e : ∀ k h : Int, 0 ≤ k → k < rs.length → 0 ≤ h → h ≤ H → z (k, h) = y (k, h)) : T.Tru H rs os ps b0 b1 b2 b3 b4 z := by
  refine ⟨fun k j a b c d => ?_, fun k j a b c d => ?_, fun x hx e1 e2 => ?_⟩
  · rw [h0, e k j a b c d]; exact h.lim k j a b c d
  · rw [e k j a b c (by omega), e k (j + 1) a b (by omega) (by omega)]; exact h.grow k j a b c d
  · have g := G.psB x hx
    have q := h.cmp x hx e1 e2
    rw [e x.2.1 x.1 g.2.1.1 g.2.1.2 g.1.1 g.1.2]
    by_cases c : x.2.2.1 = -1
    · rw [if_pos c, c] at q ⊢
      rw [h0]; exact q
    · rw [if_neg c] at q ⊢
      rw [e x.2.2.1 x.1 (by omega) g.2.2.1.2 g.1.1 g.1.2]; exact q
section
variable {aR aO aP : Option Addr} {cR cO cP : Nat} {w : World}
/-- the case that is told: a truth, and at one place the least -/
theorem ex_Case (I : Sps w (.slice aR 3 cR) T.rs0) (IO : Ops w (.slice aO 1 cO) T.os0) (IP : Prs w (.slice aP 4 cP) T.ps0) : Calls Try.prog 26 #[ClV 3 (.slice aR 3 cR) (.slice aO 1 cO) (.slice aP 4 cP), .int .i64 2, .int .i64 1, .bool false] w fun e w' => (∃ v rows, e = .returned (.tuple #[v, .int .i64 0]) ∧ T.Rows w' v rows ∧ (rows.length = 3 ∧ ∀ x ∈ rows, x.length = 4) ∧ T.web0.all (T.keep (T.offs rows)) = true ∧ (rows.getD 2 []).getD 1 0 = -5) ∧ Up w w' := by
  refine (Case_lo (H := 3) I IO IP T.ok0 (by kernel_rfl)).mono ?_
  rintro e w' ⟨⟨v, n, cs, r, rfl, hF, hc⟩, u⟩
  have m0 : ((-1 : Int), (0 : Int)) ∈ T.moms 3 3 := T.mem_moms.2 (.inl ⟨rfl, rfl⟩)
  have m1 : ((2 : Int), (1 : Int)) ∈ T.moms 3 3 := T.mem_moms.2 (.inr ⟨⟨by omega, by omega⟩, by omega, by omega⟩)
  rcases T.ok0.yes' (by omega) (by omega) m0 hF with ⟨hr, d, d1, d2, d3, d4⟩ | ⟨_, _, hno⟩
  · rcases hc with ⟨_, rfl, hR⟩ | ⟨hr', _⟩
    · have R := hR d d3
      have T1 := (T.sat_tru T.good0).1 d1
      have L : ∀ k h : Int, 0 ≤ k → k < 3 → 0 ≤ h → h ≤ 3 → -100000 ≤ d (k, h) ∧ d (k, h) ≤ 100000 := fun k h a b c e => by
        have q := T1.lim k h a b c e
        unfold T.In at q
        simp only [d2] at q
        omega
      have at_ : ∀ k h : Nat, k < 3 → h ≤ 3 → ((T.rws d (-1) 3 3).getD k []).getD h 0 = -d ((k : Int), (h : Int)) := fun k h hk hh => by
        rw [T.rws_at hk hh]
        have q := L k h (by omega) (by omega) (by omega) (by omega)
        rw [show d ((k : Int), (h : Int)) * -1 = -d ((k : Int), (h : Int)) by omega]
        exact IntWalk.i64_in _ (by omega)
      have hl := T.rws_len (o := d) (sg := -1) (n := 3) (H := 3)
      have of_ : ∀ k h : Int, 0 ≤ k → k < 3 → 0 ≤ h → h ≤ 3 → T.offs (T.rws d (-1) 3 3) (k, h) = -d (k, h) := fun k h a b c e => by
        unfold T.offs T.offsTo
        rw [hl.1]
        simp only
        rw [if_neg (by omega), if_pos (by omega), at_ k.toNat h.toNat (by omega) (by omega), Int.toNat_of_nonneg a, Int.toNat_of_nonneg c]
      have o0 : T.offs (T.rws d (-1) 3 3) (-1, 0) = 0 := by
        unfold T.offs T.offsTo
        rw [if_pos (by decide)]
      refine ⟨⟨v, T.rws d (-1) 3 3, rfl, R, hl, ?_, ?_⟩, u⟩
      · refine (T.keep_tru T.good0 o0 ?_).2 (T1.congr T.good0 (by rw [o0, d2]; rfl) of_)
        rintro ⟨c, j⟩ hm
        rcases T.mem_moms.1 hm with ⟨rfl, rfl⟩ | ⟨⟨a, b⟩, c', d'⟩
        · rw [o0]; exact ⟨by omega, by omega⟩
        · rw [of_ c j a b c' d']
          have q := L c j a b c' d'
          exact ⟨by omega, by omega⟩
      · rw [at_ 2 1 (by omega) (by omega)]
        have a := (T.ex_case.1 _ d1).1
        simp only [d2] at a
        have b := d4 _ T.s_dr_hi _ m1
        have e1 : T.w_dr_hi (-1, 0) = 0 := by kernel_rfl
        have e2 : T.w_dr_hi (2, 1) = -5 := by kernel_rfl
        rw [e1, e2] at b
        have a' : -5 ≤ -d (2, 1) - -0 := a
        show -d (2, 1) = -5
        omega
    · rw [hr] at hr'
      cases hr'
  · exact absurd T.s_low (hno _)
theorem ex_IsTruth {aV : Option Addr} {nV cV : Nat} {rows : List (List Int)} (I : Sps w (.slice aR 3 cR) T.rs0) (IO : Ops w (.slice aO 1 cO) T.os0) (IP : Prs w (.slice aP 4 cP) T.ps0) (IR : T.Rows w (.slice aV nV cV) rows) (hl : rows.length = 3 ∧ ∀ x ∈ rows, x.length = 4) (hk : T.web0.all (T.keep (T.offs rows)) = true) : Calls Try.prog 15 #[ClV 3 (.slice aR 3 cR) (.slice aO 1 cO) (.slice aP 4 cP), .slice aV nV cV] w fun e w' => e = .returned (.tuple #[.bool true, .int .i64 0]) ∧ Up w w' := by
  refine (IsTruth_ok (H := 3) I IO IP IR T.ok0 (by kernel_rfl)).mono ?_
  rintro e w' ⟨⟨r, rfl, hr⟩, u⟩
  have : r = true := hr.2 ⟨hl, hk⟩
  subst this
  exact ⟨rfl, u⟩
end
end Go.Proofs.Ytcmdaiklkdeanaa
