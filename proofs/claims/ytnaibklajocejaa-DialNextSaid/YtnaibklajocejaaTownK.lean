import Derived.Test.YtnaibklajocejaaTownJ
import Derived.Test.YtnaibklajocejaaNextC
/- The minutes of ticks: what dial's minutes yields. -/
namespace Go.Proofs.Ytnaibklajocejaa
open Go.RowKit

theorem D.rS_bd {h m s : Int} {x : Nat → Int} {n : Nat} {t : Int} (h1 : 1 ≤ h) (m1 : 1 ≤ m) (s1 : 2 ≤ s) (t0 : 0 ≤ t) (t1 : t < D.beg h m s x n) :
    0 ≤ D.rS h m s x n t ∧ D.rS h m s x n t < D.mlen h m s x (D.rA h m s x n t) (D.rB h m s x n t) (D.rC h m s x n t) := by
  obtain ⟨_, a, b⟩ := D.dy_is h m s x t t0 n t1
  rw [D.beg_succ] at b
  have hA : (D.rA h m s x n t).toNat = D.dy h m s x t n := by simp [D.rA]
  have R0 : 0 ≤ D.rR h m s x n t := by unfold D.rR; omega
  have R1 : D.rR h m s x n t < (h * m - 1) * s + D.lastM s (x (D.dy h m s x t n)) := by
    have : D.rR h m s x n t < D.len h m s (x (D.dy h m s x t n)) := by unfold D.rR; omega
    exact this
  have P1 : 1 ≤ h * m := by
    have := Int.mul_le_mul h1 m1 (by omega) (by omega)
    omega
  unfold D.mlen
  rw [hA]
  unfold D.rS D.rB D.rC D.q
  generalize D.rR h m s x n t = R at *
  generalize D.lastM s (x (D.dy h m s x t n)) = lm at *
  have e1 := Int.emod_add_mul_ediv R s
  have e2 := Int.emod_nonneg R (show s ≠ 0 by omega)
  have e3 := Int.emod_lt_of_pos R (show 0 < s by omega)
  have q0 : 0 ≤ R / s := Int.ediv_nonneg R0 (by omega)
  generalize hq : min (R / s) (h * m - 1) = q
  have qn : 0 ≤ q := by omega
  have d1 := Int.emod_add_mul_ediv q m
  have d2 := Int.emod_nonneg q (show m ≠ 0 by omega)
  have d3 := Int.emod_lt_of_pos q (show 0 < m by omega)
  have hqs : q * s ≤ R := by
    have : q * s ≤ R / s * s := Int.mul_le_mul_of_nonneg_right (by omega) (by omega)
    rw [Int.mul_comm (R / s) s] at this
    omega
  have hb : q / m ≤ h - 1 := by
    have : q / m < h := Int.ediv_lt_of_lt_mul (by omega) (by omega)
    omega
  have hb2 : m * (q / m) ≤ m * (h - 1) := Int.mul_le_mul_of_nonneg_left hb (by omega)
  have hb3 : m * (h - 1) = h * m - m := by rw [Int.mul_sub, Int.mul_comm m h]; omega
  refine ⟨by omega, ?_⟩
  by_cases hl : q / m < h - 1 ∨ q % m < m - 1
  · rw [if_pos hl]
    have hlt : q < h * m - 1 := by
      rcases hl with hl | hl
      · have : m * (q / m) ≤ m * (h - 2) := Int.mul_le_mul_of_nonneg_left (by omega) (by omega)
        have e : m * (h - 2) = h * m - m * 2 := by rw [Int.mul_sub, Int.mul_comm m h]
        omega
      · omega
    have e : q = R / s := by omega
    subst e
    rw [Int.mul_comm]
    omega
  · rw [if_neg hl]
    have h3 : m * (h - 1) ≤ m * (q / m) := Int.mul_le_mul_of_nonneg_left (by omega) (by omega)
    have e : q = h * m - 1 := by omega
    rw [e]
    omega

/-- how many ticks from one on are in its minute, before another one -/
def D.step (h m s : Int) (x : Nat → Int) (n : Nat) (u t : Int) : Int := min (D.mlen h m s x (D.rA h m s x n t) (D.rB h m s x n t) (D.rC h m s x n t) - D.rS h m s x n t) (u - t)
theorem D.step_bd {h m s : Int} {x : Nat → Int} {n : Nat} {u t : Int} (h1 : 1 ≤ h) (m1 : 1 ≤ m) (s1 : 2 ≤ s) (s2 : s ≤ 60) (t0 : 0 ≤ t) (tu : t < u) (t1 : t < D.beg h m s x n) :
    1 ≤ D.step h m s x n u t ∧ D.step h m s x n u t ≤ 61 ∧ t + D.step h m s x n u t ≤ u := by
  obtain ⟨a, b⟩ := D.rS_bd h1 m1 s1 t0 t1
  have c := D.mlen_bd h m s x (D.rA h m s x n t) (D.rB h m s x n t) (D.rC h m s x n t) s1 s2
  unfold D.step
  omega
/-- the first ticks of the minutes from one on, before another one, each so far from the next one -/
def D.mins (g : Int → Int) (u : Int) : Nat → Int → List Int
  | 0, _ => []
  | k + 1, t => if t < u then t :: D.mins g u k (t + g t) else []
theorem D.mins_is {g : Int → Int} {u f : Int} (hg : ∀ t, f ≤ t → t < u → 1 ≤ g t ∧ t + g t ≤ u) (k : Nat) (t : Int) (ft : f ≤ t) (tu : t ≤ u) (hk : u - t ≤ k) :
    (D.mins g u k t).getD 0 u = t ∧ ∀ j, j < (D.mins g u k t).length → t ≤ (D.mins g u k t).getD j u ∧ (D.mins g u k t).getD j u < u ∧ (D.mins g u k t).getD (j + 1) u = (D.mins g u k t).getD j u + g ((D.mins g u k t).getD j u) := by
  induction k generalizing t with
  | zero => exact ⟨by simp [D.mins]; omega, fun j hj => by simp [D.mins] at hj⟩
  | succ k ih =>
    unfold D.mins
    by_cases hlt : t < u
    · rw [if_pos hlt]
      obtain ⟨a, b⟩ := hg t ft hlt
      obtain ⟨i1, i2⟩ := ih (t + g t) (by omega) b (by omega)
      refine ⟨rfl, fun j hj => ?_⟩
      match j, hj with
      | 0, hj => exact ⟨Int.le_refl _, hlt, by simpa using i1⟩
      | j + 1, hj =>
        obtain ⟨c1, c2, c3⟩ := i2 j (by simpa using hj)
        simp only [List.getD_cons_succ]
        exact ⟨by omega, c2, c3⟩
    · rw [if_neg hlt]
      exact ⟨by simp; omega, fun j hj => by simp at hj⟩

end Go.Proofs.Ytnaibklajocejaa
