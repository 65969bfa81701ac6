import Derived.Test.YtckjggkikpgidaaStd
/- Smooth adjustments: what they add up to, and that they are a plan. -/
namespace Go.Proofs.Ytckjggkikpgidaa
open Go.RowKit

theorem S.sum_bd {xs : List Int} (h : ∀ k, k < xs.length → -500 ≤ xs.getD k 0 ∧ xs.getD k 0 ≤ 500) : -500 * (xs.length : Int) ≤ xs.sum ∧ xs.sum ≤ 500 * (xs.length : Int) := by
  have key : ∀ n, n ≤ xs.length → -500 * (n : Int) ≤ (xs.take n).sum ∧ (xs.take n).sum ≤ 500 * (n : Int) := by
    intro n
    induction n with
    | zero => intro _; simp
    | succ n ih =>
      intro hn
      have := ih (by omega)
      have b := h n (by omega)
      rw [S.tot_take xs n (by omega)]
      omega
  have := key xs.length (Nat.le_refl _)
  rwa [List.take_length] at this
theorem S.map_range_getD (f : Nat → Int) {n k : Nat} (hk : k < n) : ((List.range n).map f).getD k 0 = f k := by
  rw [List.getD_eq_getElem?_getD, List.getElem?_map, List.getElem?_range hk]
  rfl
theorem S.map_range_sum (f : Nat → Int) (n : Nat) : ((List.range n).map f).sum = S.sm f n := by
  induction n with
  | zero => rfl
  | succ n ih => rw [List.range_succ, List.map_append, List.sum_append, ih]; simp [S.sm]
section
variable {f s j : Int} {T : Nat} {bits : List Int}
theorem S.strs_getD {sm : Bool} {i : Nat} (hi : i < T) : (S.strs f s j T bits sm).getD i 0 = S.str f s j T bits sm (i + 1) := S.map_range_getD _ hi
theorem S.str_grow (h0 : 0 ≤ f) (h1 : 0 ≤ s) (h2 : 1 ≤ j) (k : Nat) (hk : k ≤ T) : -(j * (k : Int)) ≤ S.str f s j T bits true k ∧ S.str f s j T bits true k ≤ j * (k : Int) := by
  induction k with
  | zero => show -(j * 0) ≤ 0 ∧ 0 ≤ j * 0; omega
  | succ k ih =>
    have a := ih (by omega)
    have b := S.str_smnear (T := T) (bits := bits) h0 h1 h2 k (by omega)
    have e : j * ((k + 1 : Nat) : Int) = j * (k : Int) + j := by rw [Int.natCast_add, Int.mul_add]; simp
    rw [e]; omega
theorem S.str_can (h0 : 0 ≤ f) (h1 : 0 ≤ s) (h2 : 1 ≤ j) {i : Nat} (hi : i < T) : -(S.add s j T i) ≤ S.str f s j T bits true (i + 1) ∧ S.str f s j T bits true (i + 1) ≤ S.add f j T i := by
  have a := S.str_grow (T := T) (bits := bits) h0 h1 h2 (i + 1) (by omega)
  obtain ⟨b, c, _⟩ := S.str_sm (T := T) (bits := bits) h0 h1 h2 (i + 1) (by omega)
  have es := S.end_step j T i
  rw [← es] at c
  unfold S.add
  rw [S.can_is h1 (by omega), S.can_is h0 (by omega)]
  have key : ((min (i + 1) (T - i) : Nat) : Int) * j = min (j * ((i + 1 : Nat) : Int)) (j * ((T : Int) - i)) := by
    have e2 : ((T - i : Nat) : Int) = (T : Int) - i := by omega
    by_cases h : i + 1 ≤ T - i
    · rw [Nat.min_eq_left h, Int.mul_comm]
      have : j * ((i + 1 : Nat) : Int) ≤ j * ((T : Int) - i) := Int.mul_le_mul_of_nonneg_left (by omega) (by omega)
      omega
    · rw [Nat.min_eq_right (by omega), Int.mul_comm, e2]
      have : j * ((T : Int) - i) ≤ j * ((i + 1 : Nat) : Int) := Int.mul_le_mul_of_nonneg_left (by omega) (by omega)
      omega
  rw [key]
  omega
theorem S.strs_reach (h0 : 0 ≤ f) (h1 : 0 ≤ s) (h2 : 1 ≤ j) : -(S.most s j T) ≤ (S.strs f s j T bits true).sum ∧ (S.strs f s j T bits true).sum ≤ S.most f j T := by
  unfold S.strs S.most
  rw [S.map_range_sum]
  constructor
  · have : S.sm (fun i => -(S.add s j T i)) T ≤ S.sm (fun i => S.str f s j T bits true (i + 1)) T := S.sm_le T fun i hi => (S.str_can h0 h1 h2 hi).1
    have e : S.sm (fun i => -(S.add s j T i)) T = -(S.sm (S.add s j T) T) := by
      have : ∀ n, S.sm (fun i => -(S.add s j T i)) n = -(S.sm (S.add s j T) n) := by
        intro n
        induction n with
        | zero => rfl
        | succ n ih => simp only [S.sm, ih]; omega
      exact this T
    omega
  · exact S.sm_le T fun i hi => (S.str_can h0 h1 h2 hi).2
/-- they are a plan for what they bring to 0 -/
theorem S.strs_plan (h0 : 0 ≤ f ∧ f ≤ 500) (h1 : 0 ≤ s ∧ s ≤ 500) (h2 : 1 ≤ j) (hT : T ≤ 200) : S.plans f s j (-(S.strs f s j T bits true).sum) (S.strs f s j T bits true) = true := by
  have hk := S.strs_keeps (T := T) (bits := bits) h0.1 h1.1 h2 true
  have hl := S.strs_len (f := f) (s := s) (j := j) (T := T) (bits := bits) true
  have hb := S.sum_bd (xs := S.strs f s j T bits true) fun k hk => by
    rw [hl] at hk
    rw [S.strs_getD hk]
    have := S.str_any (T := T) (bits := bits) h0.1 h1.1 h2 true (k + 1) (by omega)
    omega
  have hd : S.keeps f s j 0 ((S.strs f s j T bits true).drop ((S.strs f s j T bits true).length - 1)) = true := by
    rw [hl]
    cases T with
    | zero => rfl
    | succ n =>
      have e : (S.strs f s j (n + 1) bits true).drop (n + 1 - 1) = [S.str f s j (n + 1) bits true (n + 1)] := by
        rw [List.drop_eq_getElem_cons (by rw [hl]; omega), List.drop_eq_nil_of_le (by rw [hl]; omega)]
        have := S.strs_getD (f := f) (s := s) (j := j) (bits := bits) (sm := true) (show n + 1 - 1 < n + 1 by omega)
        rw [List.getD_eq_getElem?_getD, List.getElem?_eq_getElem (by rw [hl]; omega)] at this
        simpa using this
      rw [e]
      obtain ⟨a, b, _⟩ := S.str_sm (T := n + 1) (bits := bits) h0.1 h1.1 h2 (n + 1) (Nat.le_refl _)
      rw [Int.sub_self, Int.mul_zero] at b
      simp only [S.keeps, Bool.and_eq_true, decide_eq_true_eq, and_true]
      exact ⟨⟨a, by omega⟩, by omega⟩
  unfold S.plans
  rw [hk, hd, decide_eq_true (by rw [hl]; exact hT), wrap_in (by unfold D.in64; rw [hl] at hb; omega)]
  simp
end
theorem S.most_grow {e j : Int} (he : 0 ≤ e) (hj : 0 ≤ j) (n : Nat) : S.most e j n ≤ S.most e j (n + 1) := by
  unfold S.most
  have h1 : S.sm (S.add e j n) n ≤ S.sm (S.add e j (n + 1)) n := S.sm_le n fun i hi => S.can_mono he hj (by omega)
  have h2 := (S.add_bd he hj (n + 1) n).1
  simp only [S.sm]
  omega
/-- a number between what can be reached needs no more ticks -/
theorem S.Few.within {f s j : Int} (hf : 0 ≤ f) (hs : 0 ≤ s) (hj : 0 ≤ j) {T r : Nat} (_ : T ≤ 200) {b : Int} (b1 : -(S.most s j T) ≤ b) (b2 : b ≤ S.most f j T) (h : S.Few f s j (-b) r) : r ≤ T := by
  obtain ⟨_, h2, _⟩ := h
  by_cases e : r ≤ T
  · exact e
  · have h3 := of_decide_eq_false (h2 T (by omega))
    exfalso
    apply h3
    have m1 := (S.most_bd hf hj T).1
    have m2 := (S.most_bd hs hj T).1
    by_cases p : 0 < b
    · have : S.against (-b) = 2 := by unfold S.against; rw [if_neg (by omega), if_pos (by omega)]
      rw [this]
      show Max.max (-b) (- -b) ≤ S.most f j T
      omega
    · by_cases q : b < 0
      · have : S.against (-b) = 0 := by unfold S.against; rw [if_pos (by omega)]
        rw [this]
        show Max.max (-b) (- -b) ≤ S.most s j T
        omega
      · have : S.against (-b) = 1 := by unfold S.against; rw [if_neg (by omega), if_neg (by omega)]
        rw [this]
        have m3 := (S.most_bd (Int.le_refl 0) hj T).1
        show Max.max (-b) (- -b) ≤ S.most 0 j T
        omega

end Go.Proofs.Ytckjggkikpgidaa
