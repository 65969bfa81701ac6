import Derived.Test.YtckjggkikpgidaaLwa
/- The chapter's examples. -/
namespace Go.Proofs.Ytckjggkikpgidaa
open Go.RowKit

abbrev exB : S.Bk := S.bk (-1) 2 10 exSt exLk
/-- what is told of the chapter's book -/
def exO : S.Ofs := fun i => match i with
  | 0 => (18, 22) | 1 => (13, 18) | 2 => (7, 12) | 3 => (2, 7) | 4 => (1, 6) | 5 => (0, 5) | 6 => (-1, 4) | 7 => (-2, 6) | 8 => (-3, 8) | 9 => (-4, 10) | 10 => (-5, 12) | _ => (0, 0)
theorem ex_le {P : Nat → Prop} (h : P 0 ∧ P 1 ∧ P 2 ∧ P 3 ∧ P 4 ∧ P 5 ∧ P 6 ∧ P 7 ∧ P 8 ∧ P 9 ∧ P 10) : ∀ i, i ≤ 10 → P i := by
  intro i hi
  have : i = 0 ∨ i = 1 ∨ i = 2 ∨ i = 3 ∨ i = 4 ∨ i = 5 ∨ i = 6 ∨ i = 7 ∨ i = 8 ∨ i = 9 ∨ i = 10 := by omega
  obtain ⟨h0, h1, h2, h3, h4, h5, h6, h7, h8, h9, h10⟩ := h
  rcases this with rfl | rfl | rfl | rfl | rfl | rfl | rfl | rfl | rfl | rfl | rfl <;> assumption
theorem exFine : S.Fine exO := by
  intro i
  by_cases hi : i ≤ 10
  · revert i
    refine ex_le ?_
    simp only [exO]
    omega
  · have : exO i = (0, 0) := by
      unfold exO
      split <;> first | omega | rfl
    rw [this]; omega
theorem exFix : exB.Fix exO := by
  have h : (List.range 11).all (fun i => (exB.bounds exO i).all fun s => decide (s.1 ≤ (exO i).1 ∧ (exO i).2 ≤ s.2)) = true := by kernel_rfl
  intro i hi s hs
  have h1 := List.all_eq_true.1 h i (List.mem_range.2 (by have : exB.ticks = 10 := rfl; omega))
  have h2 : decide (s.1 ≤ (exO i).1 ∧ (exO i).2 ≤ s.2) = true := List.all_eq_true.1 h1 s hs
  have h3 := of_decide_eq_true h2
  exact h3
theorem exHolds : exB.Holds exO := by
  intro v hv
  have t10 : exB.ticks = 10 := rfl
  have l0 := hv.look 0 (by omega) (0, 18, 22) (by simp [exB, S.bk, exLk]) rfl
  have l6 := hv.look 6 (by omega) (6, -3, 4) (by simp [exB, S.bk, exLk]) rfl
  have s0 : (-5 : Int) ≤ v 1 - v 0 ∧ v 1 - v 0 ≤ -2 := hv.step 0 (by omega)
  have s1 : (-6 : Int) ≤ v 2 - v 1 ∧ v 2 - v 1 ≤ -3 := hv.step 1 (by omega)
  have s2 : (-5 : Int) ≤ v 3 - v 2 ∧ v 3 - v 2 ≤ -2 := hv.step 2 (by omega)
  have s3 : (-1 : Int) ≤ v 4 - v 3 ∧ v 4 - v 3 ≤ 2 := hv.step 3 (by omega)
  have s4 : (-1 : Int) ≤ v 5 - v 4 ∧ v 5 - v 4 ≤ 2 := hv.step 4 (by omega)
  have s5 : (-1 : Int) ≤ v 6 - v 5 ∧ v 6 - v 5 ≤ 2 := hv.step 5 (by omega)
  have s6 : (-1 : Int) ≤ v 7 - v 6 ∧ v 7 - v 6 ≤ 2 := hv.step 6 (by omega)
  have s7 : (-1 : Int) ≤ v 8 - v 7 ∧ v 8 - v 7 ≤ 2 := hv.step 7 (by omega)
  have s8 : (-1 : Int) ≤ v 9 - v 8 ∧ v 9 - v 8 ≤ 2 := hv.step 8 (by omega)
  have s9 : (-1 : Int) ≤ v 10 - v 9 ∧ v 10 - v 9 ≤ 2 := hv.step 9 (by omega)
  simp only at l0 l6
  rw [t10]
  refine ex_le ?_
  simp only [exO]
  omega
theorem exEnds (i : Nat) (hi : i ≤ 10) : exB.Ends i (exO i).1 (exO i).2 := S.Bk.Ends.of exFine exFix exHolds hi
theorem exOk : S.bookOk 10 5 4 (-1) 2 10 exSt exLk = true := by kernel_rfl
theorem exRule : S.ok 10 5 4 (-1) 2 = true := by kernel_rfl
theorem exTold {i : Nat} (hi : i ≤ 10) {l h e : Int} (t : S.Told 10 5 4 (-1) 2 10 exSt exLk i l h e) : l = (exO i).1 ∧ h = (exO i).2 ∧ e = 0 := by
  rcases t.yes exOk (by omega) with ⟨_, _, _, h4⟩ | ⟨h1, h2⟩
  · obtain ⟨v, hv, _⟩ := (exEnds 0 (by omega)).low
    exact absurd hv (h4 v)
  · rw [Int.toNat_natCast] at h2
    have := h2.uniq (exEnds i hi)
    exact ⟨this.1, this.2, h1⟩
theorem S.wst_congr {F G : Nat → Int} {n : Nat} (h : ∀ i, i < n → F i = G i) : S.wst F n = S.wst G n := by
  induction n with
  | zero => rfl
  | succ n ih =>
    have e := ih fun i hi => h i (by omega)
    unfold S.wst
    rw [e, h n (by omega)]
theorem exWst : S.wst (fun i => S.far (exO i).1 (exO i).2) 11 = (0, 22) := by kernel_rfl
theorem exToldW {tk of e : Int} (t : S.ToldW 10 5 4 (-1) 2 10 exSt exLk tk of e) : tk = 0 ∧ of = 22 ∧ e = 0 := by
  rcases t.yes exOk with ⟨_, _, _, h4⟩ | ⟨h1, o, h2, h3, h4⟩
  · obtain ⟨v, hv, _⟩ := (exEnds 0 (by omega)).low
    exact absurd hv (h4 v)
  · have e : S.wst (fun i => S.far (o i).1 (o i).2) ((10 : Int).toNat + 1) = (0, 22) := by
      rw [← exWst]
      refine S.wst_congr fun i hi => ?_
      have := (h2 i (by omega)).uniq (exEnds i (by omega))
      rw [this.1, this.2]
    rw [e] at h3 h4
    exact ⟨h3, h4, h1⟩
/-- the first that will do, looked up -/
theorem S.First.of_check {P : Nat → Bool} {n r : Nat} (hr : r < n) (h : ((List.range r).all fun x => !P x) = true) (hp : P r = true) : S.First P n r :=
  ⟨by omega, fun x hx => by
    have := List.all_eq_true.1 h x (List.mem_range.2 hx)
    simpa using this, fun _ => hp⟩
theorem few_5 : S.Few 10 5 4 (-5) 2 := S.First.of_check (by omega) (by kernel_rfl) (by kernel_rfl)
theorem few12 : S.Few 10 5 4 12 3 := S.First.of_check (by omega) (by kernel_rfl) (by kernel_rfl)
theorem few0 : S.Few 10 5 4 (S.near (-5) 12) 0 := S.First.of_check (by omega) (by kernel_rfl) (by kernel_rfl)
theorem few20 : S.Few 10 5 4 20 5 := S.First.of_check (by omega) (by kernel_rfl) (by kernel_rfl)
theorem few_20 : S.Few 10 5 4 (-20) 4 := S.First.of_check (by omega) (by kernel_rfl) (by kernel_rfl)
section
variable {w : World} {a a' : Option Addr} {n c n' c' : Nat}
abbrev exV (a : Option Addr) (n c : Nat) (a' : Option Addr) (n' c' : Nat) : Value := BV 10 5 4 (-1) 2 10 (.slice a n c) (.slice a' n' c')
theorem exError (I : Ints w (.slice a n c) exSt) (I' : Lks w (.slice a' n' c') exLk) : Calls Try.prog 27 #[exV a n c a' n' c', .int .i64 3] w fun e w' => e = .returned (.tuple #[SpV 2 7, .int .i64 0]) ∧ Up w w' :=
  (Error_any I I' 3).mono fun e w' ⟨l, h, r, he, t, u⟩ => by
    obtain ⟨rfl, rfl, rfl⟩ := exTold (i := 3) (by omega) t
    exact ⟨he, u⟩
theorem exStated (I : Ints w (.slice a n c) exSt) (I' : Lks w (.slice a' n' c') exLk) : Calls Try.prog 31 #[exV a n c a' n' c', .int .i64 10] w fun e w' => e = .returned (.tuple #[.int .i64 12, .int .i64 0]) ∧ Up w w' :=
  (Stated_any I I' 10).mono fun e w' ⟨l, h, r, he, t, u⟩ => by
    obtain ⟨rfl, rfl, rfl⟩ := exTold (i := 10) (by omega) t
    exact ⟨by rw [he]; kernel_rfl, u⟩
theorem exWorst (I : Ints w (.slice a n c) exSt) (I' : Lks w (.slice a' n' c') exLk) : Calls Try.prog 33 #[exV a n c a' n' c'] w fun e w' => e = .returned (.tuple #[.int .i64 0, .int .i64 22, .int .i64 0]) ∧ Up w w' :=
  (Worst_any I I').mono fun e w' ⟨tk, of, r, he, t, u⟩ => by
    obtain ⟨rfl, rfl, rfl⟩ := exToldW t
    exact ⟨he, u⟩
theorem exMeets (I : Ints w (.slice a n c) exSt) (I' : Lks w (.slice a' n' c') exLk) : Calls Try.prog 35 #[exV a n c a' n' c'] w fun e w' => e = .returned (.tuple #[.int .i64 3, .int .i64 0, .int .i64 0]) ∧ Up w w' :=
  (Meets_any I I').mono fun e w' ⟨l, h, r, t, u, ht⟩ => by
    obtain ⟨rfl, rfl, rfl⟩ := exTold (i := 10) (by omega) t
    rcases ht with ⟨h1, _⟩ | ⟨_, rl, rh, rn, h1, h2, h3, he⟩
    · omega
    · obtain rfl := S.First.one h1 few_5
      obtain rfl := S.First.one h2 few12
      obtain rfl := S.First.one h3 few0
      exact ⟨by rw [he]; kernel_rfl, u⟩
theorem exCheck (I : Ints w (.slice a n c) exSt) (I' : Lks w (.slice a' n' c') exLk) : Calls Try.prog 29 #[exV a n c a' n' c'] w fun e w' => e = .returned (.int .i64 0) ∧ Up w w' :=
  (Check_any I I').mono fun e w' ⟨he, u⟩ => ⟨by rw [he, exOk]; rfl, u⟩
theorem exReach : Calls Try.prog 22 #[RV 10 5 4 (-1) 2, .int .i64 5] w fun e w' => e = .returned (.tuple #[SpV (-23) 34, .int .i64 0]) ∧ Up w w' :=
  (Reach_yes w exRule 5 (by omega)).mono fun e w' ⟨he, u⟩ => ⟨by rw [he]; kernel_rfl, u⟩
theorem exFewest : Calls Try.prog 18 #[RV 10 5 4 (-1) 2, .int .i64 20] w fun e w' => e = .returned (.tuple #[.int .i64 5, .int .i64 0]) ∧ Up w w' :=
  (Fewest_yes w exRule 20 (by omega) (by omega) few20).mono fun e w' ⟨he, u⟩ => ⟨by rw [he]; kernel_rfl, u⟩
theorem exPlan : Calls Try.prog 20 #[RV 10 5 4 (-1) 2, .int .i64 (-20)] w fun e w' => ∃ a c, e = .returned (.tuple #[.slice a 4 c, .int .i64 0]) ∧ Up w w' :=
  (Plan_yes w exRule (-20) (by omega) (by omega) few_20 (by omega)).mono fun e w' ⟨v, L, he, _, u, I⟩ => by
    obtain ⟨a, c, rfl, _⟩ := I.is
    rw [S.list_len] at he
    exact ⟨a, c, he, u⟩
theorem exIsPlan {v : Value} (I : Ints w v [-4, -5, -5, -4, -2]) : Calls Try.prog 16 #[RV 10 5 4 (-1) 2, .int .i64 20, v] w fun e w' => e = .returned (.tuple #[.bool true, .int .i64 0]) ∧ Up w w' :=
  (IsPlan_yes exRule 20 (by omega) (by omega) I).mono fun e w' ⟨he, u⟩ => ⟨by rw [he]; kernel_rfl, u⟩
theorem exShown {v : Value} (I : Ints w v [4, 8]) : Calls Try.prog 24 #[RV 10 5 4 (-1) 2, .int .i64 7000, v] w fun e w' => ∃ v', e = .returned (.tuple #[v', .int .i64 0]) ∧ Up w w' ∧ Ints w' v' [7000, 8004, 9012] :=
  (Shown_yes w exRule 7000 (by omega) (by omega) I (by kernel_rfl)).mono fun e w' ⟨v', he, u, I'⟩ => ⟨v', he, u, by
    have e2 : (List.range (([4, 8] : List Int).length + 1)).map (S.shows 7000 [4, 8]) = [7000, 8004, 9012] := by kernel_rfl
    rw [e2] at I'; exact I'⟩
end

end Go.Proofs.Ytckjggkikpgidaa
