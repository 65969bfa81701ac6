import Derived.Test.YtcmdaiklkdeanaaKnm
/- What BeatKnown asks: the contracts at its cellars. -/
namespace Go.Proofs.Ytcmdaiklkdeanaa
open Go.RowKit Go.Shelf
section
variable {aR aO aP : Option Addr} {nR cR nO cO nP cP : Nat} {rs : T.LR} {os : T.LO} {ps : T.LP}
theorem kn_Case_none {H : Nat} {w : World} {k h : Int} {most : Bool} (G : T.Good H rs os ps) (hk : 0 ≤ k ∧ k < rs.length) (hh : 0 ≤ h ∧ h ≤ H) (hno : ∀ y, ¬ T.Tr H rs os ps y) (I : Sps w (.slice aR nR cR) rs) (IO : Ops w (.slice aO nO cO) os) (IP : Prs w (.slice aP nP cP) ps) :
    Calls Try.prog 26 #[ClV H (.slice aR nR cR) (.slice aO nO cO) (.slice aP nP cP), .int .i64 k, .int .i64 h, .bool most] w fun e w' => e = .returned (.tuple #[.slice none 0 0, .int .i64 22]) ∧ Up w w' := by
  have hn := I.len
  subst hn
  have W := T.web_ok (b0 := false) (b1 := false) (b2 := false) (b3 := false) (b4 := false) G
  have hq := T.ask0 G (cl := [k]) (hr := [h]) (by simpa using hk) (by simpa using hh)
  have m0 := T.mom_0 (n := rs.length) (H := H)
  cases most with
  | true =>
    refine (Case_hi I IO IP W hq).mono ?_
    rintro e w' ⟨⟨v, n, cs, r, rfl, hF, hc⟩, u⟩
    rcases W.yes G.h2 G.r2 m0 hF with ⟨_, d, d1, _⟩ | ⟨hr, _, _⟩
    · exact absurd ((T.sat_tru G).1 d1) (hno _)
    · rcases hc with ⟨hr', _⟩ | ⟨_, rfl, rfl⟩
      · rw [hr] at hr'; cases hr'
      · exact ⟨rfl, u⟩
  | false =>
    refine (Case_lo I IO IP W hq).mono ?_
    rintro e w' ⟨⟨v, n, cs, r, rfl, hF, hc⟩, u⟩
    rcases W.yes' G.h2 G.r2 m0 hF with ⟨_, d, d1, _⟩ | ⟨hr, _, _⟩
    · exact absurd ((T.sat_tru G).1 d1) (hno _)
    · rcases hc with ⟨hr', _⟩ | ⟨_, rfl, rfl⟩
      · rw [hr] at hr'; cases hr'
      · exact ⟨rfl, u⟩
theorem kn_Wrong_none {H : Nat} {w : World} (G : T.Good H rs os ps) (hy : ∃ y, T.Tr H rs os ps y) (I : Sps w (.slice aR nR cR) rs) (IO : Ops w (.slice aO nO cO) os) (IP : Prs w (.slice aP nP cP) ps) :
    Calls Try.prog 27 #[ClV H (.slice aR nR cR) (.slice aO nO cO) (.slice aP nP cP)] w fun e w' => (∃ a c, e = .returned (.tuple #[.slice a 0 c, .int .i64 0])) ∧ Up w w' := by
  have hn := I.len
  subst hn
  refine (Wrong_ok I IO IP (fun s => T.web_ok G) (T.valid_good.2 G)).mono ?_
  rintro e w' ⟨⟨v, n, rfl, hc⟩, u⟩
  rcases hc with ⟨s, hs, IW, rfl⟩ | ⟨hs, _, _⟩
  · obtain ⟨p0, _, p2, _⟩ := T.left_some G hs (t := fun _ => false) (fun _ _ => rfl)
    rw [p0] at IW
    obtain ⟨a, c, rfl, _⟩ := IW.is
    rw [p2.2 hy]
    exact ⟨⟨a, c, rfl⟩, u⟩
  · obtain ⟨y, hy⟩ := hy
    exact absurd hy ((T.left_none G hs).1 y)
end
section
variable {w : World} {aR aO aP : Option Addr} {nR nO nP cR cO cP : Nat}
theorem kn_a1 (I : Sps w (.slice aR 3 cR) T.rs0) (IO : Ops w (.slice aO 1 cO) T.os0) (IP : Prs w (.slice aP 5 cP) T.ps1) : Calls Try.prog 19 #[ClV 3 (.slice aR 3 cR) (.slice aO 1 cO) (.slice aP 5 cP), .int .i64 3, .int .i64 0] w fun e w' => e = .returned (.tuple #[SpV 0 0, .int .i64 21]) ∧ Up w w' :=
  Offset_bad (eq := 21) I IO IP (by kernel_rfl) (by decide)
theorem kn_a2 (I : Sps w (.slice aR 3 cR) T.rs0) (IO : Ops w (.slice aO 1 cO) T.os0) (IP : Prs w (.slice aP 4 cP) T.ps0) : Calls Try.prog 19 #[ClV 3 (.slice aR 3 cR) (.slice aO 1 cO) (.slice aP 4 cP), .int .i64 0, .int .i64 4] w fun e w' => e = .returned (.tuple #[SpV 0 0, .int .i64 21]) ∧ Up w w' :=
  Offset_bad (eq := 21) I IO IP (by kernel_rfl) (by decide)
theorem kn_a3 (I : Sps w (.slice aR 3 cR) T.rs0) (IO : Ops w (.slice aO 1 cO) T.os0) (IP : Prs w (.slice aP 4 cP) T.ps0) : Calls Try.prog 22 #[ClV 3 (.slice aR 3 cR) (.slice aO 1 cO) (.slice aP 4 cP), .int .i64 0, .int .i64 (-1), .int .i64 0] w fun e w' => e = .returned (.tuple #[SpV 0 0, .int .i64 21]) ∧ Up w w' :=
  Apart_bad (eq := 21) I IO IP (by kernel_rfl) (by decide)
theorem kn_a4 (I : Sps w (.slice aR 3 cR) T.rs0) (IO : Ops w (.slice aO 1 cO) T.os0) (IP : Prs w (.slice aP 4 cP) T.ps0) : Calls Try.prog 24 #[ClV 3 (.slice aR 3 cR) (.slice aO 1 cO) (.slice aP 4 cP), .int .i64 0, .int .i64 0, .int .i64 4] w fun e w' => e = .returned (.tuple #[SpV 0 0, .int .i64 21]) ∧ Up w w' :=
  Drift_bad (eq := 21) I IO IP (by kernel_rfl) (by decide)
theorem kn_a5 (I : Sps w (.slice aR 3 cR) T.rs0) (IO : Ops w (.slice aO 1 cO) T.os0) (IP : Prs w (.slice aP 4 cP) T.ps0) : Calls Try.prog 26 #[ClV 3 (.slice aR 3 cR) (.slice aO 1 cO) (.slice aP 4 cP), .int .i64 (-1), .int .i64 0, .bool true] w fun e w' => e = .returned (.tuple #[.slice none 0 0, .int .i64 21]) ∧ Up w w' :=
  Case_bad (eq := 21) I IO IP (by kernel_rfl) (by decide)
theorem kn_a6 (I : Sps w (.slice aR 3 cR) T.rs0) (IO : Ops w (.slice aO 1 cO) T.os0) (IP : Prs w (.slice aP 5 cP) T.ps1) : Calls Try.prog 30 #[ClV 3 (.slice aR 3 cR) (.slice aO 1 cO) (.slice aP 5 cP), .int .i64 (-1)] w fun e w' => e = .returned (.tuple #[.int .i64 0, .int .i64 0, .int .i64 21]) ∧ Up w w' :=
  Best_bad (eq := 21) I IO IP (by kernel_rfl) (by decide)
theorem kn_f1 (I : Sps w (.slice aR 3 cR) T.rs0) (IO : Ops w (.slice aO 1 cO) T.os0) (IP : Prs w (.slice aP 5 cP) T.ps1) : Calls Try.prog 19 #[ClV 3 (.slice aR 3 cR) (.slice aO 1 cO) (.slice aP 5 cP), .int .i64 0, .int .i64 0] w fun e w' => e = .returned (.tuple #[SpV 0 0, .int .i64 22]) ∧ Up w w' :=
  Offset_tells (H := 3) T.good1 ⟨by omega, by decide⟩ ⟨by omega, by decide⟩ (T.torn_tells _ _) I IO IP
theorem kn_f2 (I : Sps w (.slice aR 3 cR) T.rs0) (IO : Ops w (.slice aO 1 cO) T.os0) (IP : Prs w (.slice aP 5 cP) T.ps1) : Calls Try.prog 22 #[ClV 3 (.slice aR 3 cR) (.slice aO 1 cO) (.slice aP 5 cP), .int .i64 0, .int .i64 0, .int .i64 0] w fun e w' => e = .returned (.tuple #[SpV 0 0, .int .i64 22]) ∧ Up w w' :=
  Apart_tells (H := 3) T.good1 ⟨by omega, by decide⟩ ⟨by omega, by decide⟩ ⟨by omega, by decide⟩ (T.torn_tells _ _) I IO IP
theorem kn_f3 (I : Sps w (.slice aR 3 cR) T.rs0) (IO : Ops w (.slice aO 1 cO) T.os0) (IP : Prs w (.slice aP 5 cP) T.ps1) : Calls Try.prog 24 #[ClV 3 (.slice aR 3 cR) (.slice aO 1 cO) (.slice aP 5 cP), .int .i64 0, .int .i64 0, .int .i64 0] w fun e w' => e = .returned (.tuple #[SpV 0 0, .int .i64 22]) ∧ Up w w' :=
  Drift_tells (H := 3) T.good1 ⟨by omega, by decide⟩ ⟨by omega, by decide⟩ ⟨by omega, by decide⟩ (T.torn_tells _ _) I IO IP
theorem kn_f4 (I : Sps w (.slice aR 3 cR) T.rs0) (IO : Ops w (.slice aO 1 cO) T.os0) (IP : Prs w (.slice aP 5 cP) T.ps1) : Calls Try.prog 26 #[ClV 3 (.slice aR 3 cR) (.slice aO 1 cO) (.slice aP 5 cP), .int .i64 0, .int .i64 0, .bool true] w fun e w' => e = .returned (.tuple #[.slice none 0 0, .int .i64 22]) ∧ Up w w' :=
  kn_Case_none (H := 3) T.good1 ⟨by omega, by decide⟩ ⟨by omega, by decide⟩ T.torn_no I IO IP
theorem kn_f5 (I : Sps w (.slice aR 3 cR) T.rs0) (IO : Ops w (.slice aO 1 cO) T.os0) (IP : Prs w (.slice aP 5 cP) T.ps1) : Calls Try.prog 30 #[ClV 3 (.slice aR 3 cR) (.slice aO 1 cO) (.slice aP 5 cP), .int .i64 0] w fun e w' => e = .returned (.tuple #[.int .i64 0, .int .i64 0, .int .i64 22]) ∧ Up w w' :=
  Best_none (H := 3) T.good1 ⟨by omega, by decide⟩ T.torn_no I IO IP
theorem kn_t1 (I : Sps w (.slice aR 3 cR) T.rs0) (IO : Ops w (.slice aO 1 cO) T.os0) (IP : Prs w (.slice aP 4 cP) T.ps0) : Calls Try.prog 19 #[ClV 3 (.slice aR 3 cR) (.slice aO 1 cO) (.slice aP 4 cP), .int .i64 2, .int .i64 1] w fun e w' => e = .returned (.tuple #[SpV (-5) 136, .int .i64 0]) ∧ Up w w' :=
  Offset_tells (H := 3) T.good0 ⟨by omega, by decide⟩ ⟨by omega, by decide⟩ T.k_off I IO IP
theorem kn_t2 (I : Sps w (.slice aR 3 cR) T.rs0) (IO : Ops w (.slice aO 1 cO) T.os0) (IP : Prs w (.slice aP 4 cP) T.ps0) : Calls Try.prog 22 #[ClV 3 (.slice aR 3 cR) (.slice aO 1 cO) (.slice aP 4 cP), .int .i64 1, .int .i64 1, .int .i64 2] w fun e w' => e = .returned (.tuple #[SpV 0 0, .int .i64 0]) ∧ Up w w' :=
  Apart_tells (H := 3) T.good0 ⟨by omega, by decide⟩ ⟨by omega, by decide⟩ ⟨by omega, by decide⟩ T.k_apart I IO IP
theorem kn_t3 (I : Sps w (.slice aR 3 cR) T.rs0) (IO : Ops w (.slice aO 1 cO) T.os0) (IP : Prs w (.slice aP 4 cP) T.ps0) : Calls Try.prog 24 #[ClV 3 (.slice aR 3 cR) (.slice aO 1 cO) (.slice aP 4 cP), .int .i64 1, .int .i64 3, .int .i64 0] w fun e w' => e = .returned (.tuple #[SpV (-3) 0, .int .i64 0]) ∧ Up w w' :=
  Drift_tells (H := 3) T.good0 ⟨by omega, by decide⟩ ⟨by omega, by decide⟩ ⟨by omega, by decide⟩ T.k_drift I IO IP
theorem kn_t4 (I : Sps w (.slice aR 3 cR) T.rs0) (IO : Ops w (.slice aO 1 cO) T.os0) (IP : Prs w (.slice aP 4 cP) T.ps0) : Calls Try.prog 27 #[ClV 3 (.slice aR 3 cR) (.slice aO 1 cO) (.slice aP 4 cP)] w fun e w' => (∃ a c, e = .returned (.tuple #[.slice a 0 c, .int .i64 0])) ∧ Up w w' :=
  kn_Wrong_none (H := 3) T.good0 ⟨_, T.k_tru⟩ I IO IP
def T.k_short : List (List Int) := [[100, 98, 98, 98], [57, 58, 59, 60], [65, 65, 65]]
theorem kn_i1 {aV : Option Addr} {cV : Nat} (I : Sps w (.slice aR 3 cR) T.rs0) (IO : Ops w (.slice aO 1 cO) T.os0) (IP : Prs w (.slice aP 4 cP) T.ps0) (IR : T.Rows w (.slice aV 3 cV) T.k_short) : Calls Try.prog 15 #[ClV 3 (.slice aR 3 cR) (.slice aO 1 cO) (.slice aP 4 cP), .slice aV 3 cV] w fun e w' => e = .returned (.tuple #[.bool false, .int .i64 0]) ∧ Up w w' := by
  refine (IsTruth_ok (H := 3) I IO IP IR T.ok0 (by kernel_rfl)).mono ?_
  rintro e w' ⟨⟨r, rfl, hr⟩, u⟩
  have : r = false := by
    cases r with
    | false => rfl
    | true =>
      have h := (hr.1 rfl).1.2 [65, 65, 65] (by decide)
      exact absurd h (by decide)
  subst this
  exact ⟨rfl, u⟩
theorem T.k_table : T.Table 3 T.rs0 T.k_rows (T.tab T.k_rows) where
  len := rfl
  row := by decide
  zero := rfl
  val := fun k h _ _ => by
    show _ = if ((k : Int)) < 0 then 0 else (T.k_rows.getD (k : Int).toNat []).getD (h : Int).toNat 0
    rw [if_neg (by omega)]
    rfl
theorem kn_i2 {aV : Option Addr} {cV : Nat} (I : Sps w (.slice aR 3 cR) T.rs0) (IO : Ops w (.slice aO 1 cO) T.os0) (IP : Prs w (.slice aP 4 cP) T.ps0) (IR : T.Rows w (.slice aV 3 cV) T.k_rows) : Calls Try.prog 15 #[ClV 3 (.slice aR 3 cR) (.slice aO 1 cO) (.slice aP 4 cP), .slice aV 3 cV] w fun e w' => e = .returned (.tuple #[.bool true, .int .i64 0]) ∧ Up w w' :=
  IsTruth_table (H := 3) T.good0 T.k_table T.k_tru IR I IO IP
/-- rows in memory, each in a block of its own -/
theorem kn_rows {g g1 g2 g3 : Nat} {c1 c2 c3 : Array Value} {x1 x2 x3 : List Int} {t1 t2 t3 t : TypeId} (h1 : mblk w g1 = some (.cells c1 t1 (0, 0))) (h2 : mblk w g2 = some (.cells c2 t2 (0, 0))) (h3 : mblk w g3 = some (.cells c3 t3 (0, 0)))
    (h : mblk w g = some (.cells #[.slice (some ⟨g1, 0, none⟩) x1.length x1.length, .slice (some ⟨g2, 0, none⟩) x2.length x2.length, .slice (some ⟨g3, 0, none⟩) x3.length x3.length] t (0, 0)))
    (l1 : x1.length ≤ 9223372036854775807) (l2 : x2.length ≤ 9223372036854775807) (l3 : x3.length ≤ 9223372036854775807) (e1 : ∀ j, j < x1.length → c1[j]? = some (.int .i64 (x1.getD j 0))) (e2 : ∀ j, j < x2.length → c2[j]? = some (.int .i64 (x2.getD j 0))) (e3 : ∀ j, j < x3.length → c3[j]? = some (.int .i64 (x3.getD j 0))) : T.Rows w (.slice (some ⟨g, 0, none⟩) 3 3) [x1, x2, x3] := by
  refine ⟨⟨_, _, rfl, Nat.le_refl _, by simp, fun _ => ⟨g, 0, rfl, blk_lt h, fun j hj => ?_⟩⟩⟩
  have : j = 0 ∨ j = 1 ∨ j = 2 := by have : j < 3 := hj; omega
  rcases this with rfl | rfl | rfl
  · exact ⟨_, by rw [cellB h]; rfl, Ints.new h1 (Nat.le_refl _) l1 e1⟩
  · exact ⟨_, by rw [cellB h]; rfl, Ints.new h2 (Nat.le_refl _) l2 e2⟩
  · exact ⟨_, by rw [cellB h]; rfl, Ints.new h3 (Nat.le_refl _) l3 e3⟩
end
section
variable {w : World} {aR aO aP : Option Addr} {nR nO nP cR cO cP : Nat} {Hi : Int} {rs : T.LR} {os : T.LO} {ps : T.LP} (I : Sps w (.slice aR nR cR) rs) (IO : Ops w (.slice aO nO cO) os) (IP : Prs w (.slice aP nP cP) ps) (h : T.valid Hi rs os ps = false)
include I IO IP h
theorem kn_nI : Calls Try.prog 15 #[ClV Hi (.slice aR nR cR) (.slice aO nO cO) (.slice aP nP cP), .slice none 0 0] w fun e w' => e = .returned (.tuple #[.bool false, .int .i64 20]) ∧ Up w w' :=
  IsTruth_bad I IO IP h
theorem kn_nO : Calls Try.prog 19 #[ClV Hi (.slice aR nR cR) (.slice aO nO cO) (.slice aP nP cP), .int .i64 (-1), .int .i64 0] w fun e w' => e = .returned (.tuple #[SpV 0 0, .int .i64 20]) ∧ Up w w' :=
  Offset_bad (eq := 20) I IO IP (by unfold T.askErr; rw [if_pos h]) (by decide)
theorem kn_nA : Calls Try.prog 22 #[ClV Hi (.slice aR nR cR) (.slice aO nO cO) (.slice aP nP cP), .int .i64 (-1), .int .i64 0, .int .i64 0] w fun e w' => e = .returned (.tuple #[SpV 0 0, .int .i64 20]) ∧ Up w w' :=
  Apart_bad (eq := 20) I IO IP (by unfold T.askErr; rw [if_pos h]) (by decide)
theorem kn_nD : Calls Try.prog 24 #[ClV Hi (.slice aR nR cR) (.slice aO nO cO) (.slice aP nP cP), .int .i64 (-1), .int .i64 0, .int .i64 0] w fun e w' => e = .returned (.tuple #[SpV 0 0, .int .i64 20]) ∧ Up w w' :=
  Drift_bad (eq := 20) I IO IP (by unfold T.askErr; rw [if_pos h]) (by decide)
theorem kn_nC : Calls Try.prog 26 #[ClV Hi (.slice aR nR cR) (.slice aO nO cO) (.slice aP nP cP), .int .i64 (-1), .int .i64 0, .bool true] w fun e w' => e = .returned (.tuple #[.slice none 0 0, .int .i64 20]) ∧ Up w w' :=
  Case_bad (eq := 20) I IO IP (by unfold T.askErr; rw [if_pos h]) (by decide)
theorem kn_nW : Calls Try.prog 27 #[ClV Hi (.slice aR nR cR) (.slice aO nO cO) (.slice aP nP cP)] w fun e w' => e = .returned (.tuple #[.slice none 0 0, .int .i64 20]) ∧ Up w w' :=
  Wrong_bad I IO IP h
theorem kn_nB : Calls Try.prog 30 #[ClV Hi (.slice aR nR cR) (.slice aO nO cO) (.slice aP nP cP), .int .i64 (-1)] w fun e w' => e = .returned (.tuple #[.int .i64 0, .int .i64 0, .int .i64 20]) ∧ Up w w' :=
  Best_bad (eq := 20) I IO IP (by unfold T.askErr; rw [if_pos h]) (by decide)
theorem kn_nK : Calls Try.prog 17 #[ClV Hi (.slice aR nR cR) (.slice aO nO cO) (.slice aP nP cP)] w fun e w' => e = .returned (.int .i64 20) ∧ Up w w' :=
  (Check_any I IO IP).mono fun e w' ⟨he, u⟩ => by
    rw [if_pos h] at he
    exact ⟨he, u⟩
end

end Go.Proofs.Ytcmdaiklkdeanaa
