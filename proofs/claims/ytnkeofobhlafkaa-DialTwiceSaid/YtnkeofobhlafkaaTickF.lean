import Derived.Test.YtnkeofobhlafkaaLawI
/- The local reading of a tick: its parts, counted through. -/
namespace Go.Proofs.Ytnkeofobhlafkaa
open Go.RowKit

theorem D.ahAt_bd {T ah : Int} {M : List (Int × Int)} (ht : D.townOk T ah M = true) (t : Int) (k : Nat) (hk : k ≤ M.length) : -1440 ≤ D.ahAt ah M t k ∧ D.ahAt ah M t k ≤ 1440 := by
  obtain ⟨a1, a2, ml, mb, mi⟩ := D.town_bd ht
  induction k with
  | zero => exact ⟨a1, a2⟩
  | succ k ih =>
    rw [D.ahAt]
    split
    · have := mb k (by omega); omega
    · exact ih (by omega)
theorem D.local_is {h m s : Int} {x : Nat → Int} {n : Nat} (h1 : 1 ≤ h) (h2 : h ≤ 24) (m1 : 1 ≤ m) (m2 : m ≤ 60) (s1 : 2 ≤ s) (n2 : n ≤ 10) {ah : Int} {M : List (Int × Int)} (ht : D.townOk (D.beg h m s x n) ah M = true) {t : Int} (t0 : 0 ≤ t) (tT : t < D.beg h m s x n) :
    ∃ u k : Int, D.cnt h m (D.rA h m s x n t) (D.rB h m s x n t) (D.rC h m s x n t) = u ∧ D.ahAt ah M t M.length = k ∧ D.ltick h m s x n ah M t = u + k ∧ 0 ≤ u ∧ u ≤ 14400 ∧ -1440 ≤ k ∧ k ≤ 1440 ∧ D.rA h m s x n t = u / (h * m) ∧ D.rB h m s x n t = u % (h * m) / m ∧ D.rC h m s x n t = u % (h * m) % m := by
  have r := D.rd_is (x := x) (n := n) h1 m1 s1 t0 tT
  obtain ⟨g1, g2, g3, g4, g5, g6⟩ := D.cnt_rd r h1 h2 m1 m2 n2
  have hk := D.ahAt_bd ht t M.length (Nat.le_refl _)
  refine ⟨_, _, g1, rfl, ?_, g2, by omega, hk.1, hk.2, g5.symm, ?_, ?_⟩
  · unfold D.ltick D.lmin
    rw [g1]
    exact wrap64_in (by omega)
  · rw [g6]; exact r.hour
  · rw [g6]; exact r.min
theorem D.thr {h m : Int} (u : Int) (h1 : 1 ≤ h) (h2 : h ≤ 24) (m1 : 1 ≤ m) (m2 : m ≤ 60) (u1 : -1000000000 ≤ u) (u2 : u ≤ 1000000000) : wrap64 (wrap64 (wrap64 (wrap64 (u / (h * m) * h) + u % (h * m) / m) * m) + u % (h * m) % m) = u := by
  obtain ⟨f1, f2⟩ := D.mul_bd h m h1 h2 m1 m2
  have g1 := Int.emod_nonneg u (b := h * m) (by omega)
  have g2 := Int.emod_lt_of_pos u (b := h * m) (by omega)
  have g3 := Int.emod_add_mul_ediv (u % (h * m)) m
  have g4 := Int.emod_add_mul_ediv u (h * m)
  have g5 := Int.emod_nonneg (u % (h * m)) (b := m) (by omega)
  have g6 := Int.emod_lt_of_pos (u % (h * m)) (b := m) (by omega)
  have g7 : 0 ≤ u % (h * m) / m := Int.ediv_nonneg g1 (by omega)
  have g8 : u % (h * m) / m < h := Int.ediv_lt_of_lt_mul (by omega) g2
  generalize u % (h * m) = q at *
  have a1 : u / (h * m) * h * m = u - q := by rw [Int.mul_assoc, Int.mul_comm]; omega
  have a2 : -1000100000 ≤ u / (h * m) * h ∧ u / (h * m) * h ≤ 1000100000 := by
    generalize u / (h * m) * h = y at *
    constructor
    · by_cases e : -1000100000 ≤ y
      · exact e
      · have : y * m ≤ -1000100000 * m := Int.mul_le_mul_of_nonneg_right (by omega) (by omega)
        omega
    · by_cases e : y ≤ 1000100000
      · exact e
      · have : 1000100000 * m ≤ y * m := Int.mul_le_mul_of_nonneg_right (by omega) (by omega)
        omega
  generalize u / (h * m) * h = y at *
  have a3 : (y + q / m) * m = y * m + q / m * m := Int.add_mul _ _ _
  have a4 : q / m * m = q - q % m := by rw [Int.mul_comm]; omega
  rw [wrap64_in (z := y) (by omega), wrap64_in (z := y + q / m) (by omega), a3, a1, a4, wrap64_in (z := u - q + (q - q % m)) (by omega), wrap64_in (by omega)]
  omega
theorem D.parts_bd {h m : Int} (u : Int) (h1 : 1 ≤ h) (h2 : h ≤ 24) (m1 : 1 ≤ m) (m2 : m ≤ 60) : 0 ≤ u % (h * m) / m ∧ u % (h * m) / m ≤ h - 1 ∧ 0 ≤ u % (h * m) % m ∧ u % (h * m) % m ≤ m - 1 := by
  obtain ⟨f1, f2⟩ := D.mul_bd h m h1 h2 m1 m2
  have g1 := Int.emod_nonneg u (b := h * m) (by omega)
  have g2 := Int.emod_lt_of_pos u (b := h * m) (by omega)
  have g5 := Int.emod_nonneg (u % (h * m)) (b := m) (by omega)
  have g6 := Int.emod_lt_of_pos (u % (h * m)) (b := m) (by omega)
  have g7 : 0 ≤ u % (h * m) / m := Int.ediv_nonneg g1 (by omega)
  have g8 : u % (h * m) / m < h := Int.ediv_lt_of_lt_mul (by omega) g2
  exact ⟨g7, by omega, g5, by omega⟩
theorem D.town0 (T : Int) : D.townOk T 0 [] = true := by
  simp [D.townOk, D.aheads, D.incr, inB]
theorem TownArg.none (w : World) : TownArg w none 0 0 [] := ⟨rfl, by omega, fun h => absurd h (by omega)⟩

end Go.Proofs.Ytnkeofobhlafkaa
