/- Plain mathematics of a calendar: no program is imported here. -/
namespace Go.Proofs.Ytnaibklajocejaa
namespace D

/-- how many ticks the last minute of a day has: x is what is done to the day (1: a second is put in, 2: one is left out) -/
def lastM (s x : Int) : Int := if x = 1 then s + 1 else if x = 2 then s - 1 else s

/-- how many ticks a day has -/
def len (h m s x : Int) : Int := (h * m - 1) * s + lastM s x

theorem mul_bd (h m : Int) (h1 : 1 ≤ h) (h2 : h ≤ 24) (m1 : 1 ≤ m) (m2 : m ≤ 60) : 1 ≤ h * m ∧ h * m ≤ 1440 := by
  have a := Int.mul_le_mul h1 m1 (by omega) (by omega)
  have b := Int.mul_le_mul h2 m2 (by omega) (by omega)
  omega

theorem mul_bd2 (p s : Int) (p0 : 0 ≤ p) (p1 : p ≤ 1440) (s1 : 0 ≤ s) (s2 : s ≤ 60) : 0 ≤ p * s ∧ p * s ≤ 86400 := by
  have a := Int.mul_nonneg p0 s1
  have b := Int.mul_le_mul p1 s2 s1 (by omega)
  omega

theorem lastM_bd (s x : Int) : s - 1 ≤ lastM s x ∧ lastM s x ≤ s + 1 := by
  unfold lastM; split
  · omega
  · split <;> omega

theorem len_bd (h m s x : Int) (h1 : 1 ≤ h) (h2 : h ≤ 24) (m1 : 1 ≤ m) (m2 : m ≤ 60) (s1 : 2 ≤ s) (s2 : s ≤ 60) : 1 ≤ len h m s x ∧ len h m s x ≤ 86401 := by
  have a := mul_bd h m h1 h2 m1 m2
  have b := mul_bd2 (h * m - 1) s (by omega) (by omega) (by omega) s2
  have c := lastM_bd s x
  have d : (h * m - 1) * s ≤ 1439 * s := Int.mul_le_mul_of_nonneg_right (by omega) (by omega)
  unfold len; omega

end D
end Go.Proofs.Ytnaibklajocejaa
