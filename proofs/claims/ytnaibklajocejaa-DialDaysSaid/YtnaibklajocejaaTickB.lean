import Derived.Test.YtnaibklajocejaaTickA
/- The first and the last ticks of days, and what decrees do to a day's length. -/
namespace Go.Proofs.Ytnaibklajocejaa
open Go.RowKit

theorem D.Rd.day_of {h m s : Int} {x : Nat → Int} {n : Nat} {t A B C S q : Int} {j k : Nat} (r : D.Rd h m s x n t A B C S q j) (h1 : 1 ≤ h) (h2 : h ≤ 24) (m1 : 1 ≤ m) (m2 : m ≤ 60) (s1 : 2 ≤ s) (s2 : s ≤ 60)
    (t0 : D.beg h m s x k ≤ t) (t1 : t < D.beg h m s x (k + 1)) : j = k := by
  have a := r.at_
  have y := Int.mul_nonneg r.q0 (show 0 ≤ s by omega)
  have z := r.s0
  have top := r.top
  by_cases e : j < k
  · have := D.beg_mono h m s x h1 h2 m1 m2 s1 s2 (j + 1) k (by omega)
    omega
  · by_cases e2 : k < j
    · have := D.beg_mono h m s x h1 h2 m1 m2 s1 s2 (k + 1) j (by omega)
      omega
    · omega
theorem D.Rd.first {h m s : Int} {x : Nat → Int} {n k : Nat} {A B C S q : Int} {j : Nat} (r : D.Rd h m s x n (D.beg h m s x k) A B C S q j) (h1 : 1 ≤ h) (h2 : h ≤ 24) (m1 : 1 ≤ m) (m2 : m ≤ 60) (s1 : 2 ≤ s) (s2 : s ≤ 60) : A = k ∧ B = 0 ∧ C = 0 ∧ S = 0 := by
  have l := D.len_bd h m s (x k) h1 h2 m1 m2 s1 s2
  have e : j = k := r.day_of h1 h2 m1 m2 s1 s2 (Int.le_refl _) (by rw [D.beg_succ]; omega)
  subst e
  have a := r.at_
  have y := Int.mul_nonneg r.q0 (show 0 ≤ s by omega)
  have z := r.s0
  have q0 : q = 0 := by
    by_cases g : q = 0
    · exact g
    · have : 1 * s ≤ q * s := Int.mul_le_mul_of_nonneg_right (by have := r.q0; omega) (by omega)
      omega
  subst q0
  exact ⟨r.day, by rw [r.hour]; simp, by rw [r.min]; simp, by omega⟩
theorem D.Rd.final {h m s : Int} {x : Nat → Int} {n k : Nat} {t A B C S q : Int} {j : Nat} (r : D.Rd h m s x n t A B C S q j) (ht : t = D.beg h m s x k + D.len h m s (x k) - 1) (h1 : 1 ≤ h) (h2 : h ≤ 24) (m1 : 1 ≤ m) (m2 : m ≤ 60) (s1 : 2 ≤ s) (s2 : s ≤ 60) : A = k ∧ B = h - 1 ∧ C = m - 1 := by
  have l := D.len_bd h m s (x k) h1 h2 m1 m2 s1 s2
  have e : j = k := r.day_of h1 h2 m1 m2 s1 s2 (by omega) (by rw [D.beg_succ]; omega)
  subst e
  have a := r.at_
  have lb := D.lastM_bd s (x j)
  have le : D.len h m s (x j) = (h * m - 1) * s + D.lastM s (x j) := rfl
  have q1 : q = h * m - 1 := by
    by_cases g : q < h * m - 1
    · exfalso
      have hlt := r.s2 g
      have k1 : (q + 1) * s ≤ (h * m - 1) * s := Int.mul_le_mul_of_nonneg_right (by omega) (by omega)
      rw [Int.add_mul] at k1
      omega
    · have := r.q1; omega
  subst q1
  have eu := (Int.ediv_emod_unique (a := h * m - 1) (b := m) (r := m - 1) (q := h - 1) (by omega)).2 ⟨by rw [Int.mul_sub, Int.mul_comm m h]; omega, by omega, by omega⟩
  exact ⟨r.day, by rw [r.hour, eu.1], by rw [r.min, eu.2]⟩

/-- by how much a day is longer -/
def D.more (x : Int) : Int := if x = 1 then 1 else if x = 2 then -1 else 0
theorem D.len_more (h m s x : Int) : D.len h m s x = h * m * s + D.more x := by
  have : (h * m - 1) * s = h * m * s - s := by rw [Int.sub_mul]; omega
  unfold D.len D.lastM D.more
  split
  · omega
  · split <;> omega
theorem D.deeds_none (L : List (Int × Bool)) (j k : Nat) (h : ∀ i, i < k → (L.getD i (0, false)).1 < j) : D.deeds L k j = 0 := by
  induction k with
  | zero => rfl
  | succ k ih =>
    have := h k (by omega)
    rw [D.deeds, if_neg (by omega), ih (fun i hi => h i (by omega))]
theorem D.incr_lt {p : Int → Bool} {a : Int} {l : List Int} (h : D.incr p a l = true) : ∀ i k, i < k → k < l.length → l.getD i 0 < l.getD k 0 := by
  have low : ∀ (l : List Int) (a : Int), D.incr p a l = true → ∀ k, k < l.length → a < l.getD k 0 := by
    intro l
    induction l with
    | nil => intro a _ k hk; simp at hk
    | cons n l ih =>
      intro a h k hk
      simp only [D.incr, Bool.and_eq_true, decide_eq_true_eq] at h
      cases k with
      | zero => exact h.1.1
      | succ k =>
        have := ih n h.2 k (by simpa using hk)
        simp only [List.getD_cons_succ]
        omega
  induction l generalizing a with
  | nil => intro i k _ hk; simp at hk
  | cons n l ih =>
    simp only [D.incr, Bool.and_eq_true, decide_eq_true_eq] at h
    intro i k hik hk
    cases k with
    | zero => omega
    | succ k =>
      cases i with
      | zero => exact low l n h.2 k (by simpa using hk)
      | succ i => exact ih h.2 i k (by omega) (by simpa using hk)

end Go.Proofs.Ytnaibklajocejaa
