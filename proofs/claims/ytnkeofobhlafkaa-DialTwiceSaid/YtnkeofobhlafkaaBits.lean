import Derived.Test.YtnkeofobhlafkaaPop
import Derived.Test.YtnkeofobhlafkaaTwiB
/- The masks of a run of ticks: which bits they have, and how many of them a number has. -/
namespace Go.Proofs.Ytnkeofobhlafkaa
open Go.RowKit

/-- for how many of the first numbers something holds -/
def D.many (p : Nat → Bool) : Nat → Nat
  | 0 => 0
  | k + 1 => D.many p k + (if p k = true then 1 else 0)
theorem D.many_first (p : Nat → Bool) (k : Nat) : D.many p (k + 1) = (if p 0 = true then 1 else 0) + D.many (fun i => p (i + 1)) k := by
  induction k with
  | zero => simp [D.many]
  | succ k ih => rw [D.many, ih, D.many]; omega
theorem D.many_cong {p q : Nat → Bool} (k : Nat) (h : ∀ i, i < k → p i = q i) : D.many p k = D.many q k := by
  induction k with
  | zero => rfl
  | succ k ih => rw [D.many, D.many, ih (fun i hi => h i (by omega)), h k (by omega)]
theorem D.many_none {p : Nat → Bool} (k : Nat) (h : ∀ i, i < k → p i = false) : D.many p k = 0 := by
  induction k with
  | zero => rfl
  | succ k ih => rw [D.many, ih (fun i hi => h i (by omega)), h k (by omega)]; rfl
theorem D.many_add (p : Nat → Bool) (k g : Nat) : D.many p (k + g) = D.many p k + D.many (fun i => p (k + i)) g := by
  induction g with
  | zero => rfl
  | succ g ih => rw [← Nat.add_assoc, D.many, ih, D.many]; omega
theorem D.ones_many (k : Nat) : ∀ x, D.ones k x = D.many (fun i => x.testBit i) k := by
  induction k with
  | zero => intro x; rfl
  | succ k ih =>
    intro x
    rw [D.ones, D.many_first, ih]
    have e0 : (if x.testBit 0 = true then 1 else 0) = x % 2 := by
      rw [Nat.testBit_zero]
      by_cases h : x % 2 = 1
      · simp [h]
      · simp [h]; omega
    rw [e0]
    congr 1
    exact D.many_cong k (fun i _ => by rw [Nat.testBit_succ])

/-- the mask of a run of ticks -/
theorem D.mask_is (g S : Nat) (h : g + S ≤ 62) : D.mask (g : Int) (S : Int) = (((2 ^ g - 1) * 2 ^ S : Nat) : Int) ∧ (2 ^ g - 1) * 2 ^ S < 18446744073709551616 := by
  have e1 : min (Int.toNat (g : Int)) 64 = g := by rw [Int.toNat_natCast]; omega
  have e2 : min (Int.toNat (S : Int)) 64 = S := by rw [Int.toNat_natCast]; omega
  have p1 : 2 ^ g ≤ 2 ^ 62 := Nat.pow_le_pow_right (by omega) (by omega)
  have p0 : 1 ≤ 2 ^ g := Nat.one_le_two_pow
  have p2 : 2 ^ g * 2 ^ S ≤ 2 ^ 62 := by rw [← Nat.pow_add]; exact Nat.pow_le_pow_right (by omega) h
  have p3 : (2 ^ g - 1) * 2 ^ S ≤ 2 ^ g * 2 ^ S := Nat.mul_le_mul_right _ (by omega)
  have c62 : 2 ^ 62 = 4611686018427387904 := rfl
  rw [c62] at p1 p2
  have wu : ∀ n : Nat, n < 18446744073709551616 → IntKind.u64.wrap (n : Int) = n := fun n hn => by
    rw [IntKind.wrap_u64]; omega
  unfold D.mask
  rw [e1, e2]
  have q1 : (2 : Int) ^ g = ((2 ^ g : Nat) : Int) := by simp
  have q2 : (2 : Int) ^ S = ((2 ^ S : Nat) : Int) := by simp
  rw [q1, q2, wu _ (by omega)]
  have q3 : ((2 ^ g : Nat) : Int) - 1 = ((2 ^ g - 1 : Nat) : Int) := by omega
  rw [q3, wu _ (by omega), ← Int.natCast_mul, wu _ (by omega)]
  exact ⟨rfl, by omega⟩
theorem D.mask_bit (g S i : Nat) : ((2 ^ g - 1) * 2 ^ S).testBit i = decide (S ≤ i ∧ i < S + g) := by
  rw [← Nat.shiftLeft_eq, Nat.testBit_shiftLeft, Nat.testBit_two_pow_sub_one]
  by_cases h : S ≤ i
  · simp [h]; omega
  · simp [h]
/-- how many of a run's seconds a number has -/
theorem D.pop_mask (f g S : Nat) (hf : f < 18446744073709551616) (h : g + S ≤ 62) : D.pop (bits .and .u64 (f : Int) (D.mask (g : Int) (S : Int))) = (D.many (fun i => f.testBit (S + i)) g : Int) := by
  obtain ⟨e, l⟩ := D.mask_is g S h
  rw [e, bits_and_u64_nat _ _ hf l, D.pop_is _ (Nat.lt_of_le_of_lt Nat.and_le_left hf), D.ones_many]
  have e64 : 64 = S + (g + (64 - S - g)) := by omega
  rw [e64, D.many_add, D.many_none S (fun i hi => by simp only [Nat.testBit_and, D.mask_bit]; first | (simp; done) | (simp; omega)), D.many_add,
    D.many_none (64 - S - g) (fun i hi => by simp only [Nat.testBit_and, D.mask_bit]; first | (simp; done) | (simp; omega)),
    D.many_cong g (q := fun i => f.testBit (S + i)) (fun i hi => by simp only [Nat.testBit_and, D.mask_bit]; first | (simp; done) | (simp; omega))]
  simp
/-- what is kept behind a run -/
theorem D.or_mask (f g S : Nat) (hf : f < 4611686018427387904) (h : g + S ≤ 62) : ∃ f' : Nat, bits .or .u64 (f : Int) (D.mask (g : Int) (S : Int)) = f' ∧ f' < 4611686018427387904 ∧ ∀ i, f'.testBit i = (f.testBit i || decide (S ≤ i ∧ i < S + g)) := by
  obtain ⟨e, l⟩ := D.mask_is g S h
  have p2 : 2 ^ g * 2 ^ S ≤ 2 ^ 62 := by rw [← Nat.pow_add]; exact Nat.pow_le_pow_right (by omega) h
  have p3 : (2 ^ g - 1) * 2 ^ S < 2 ^ 62 := Nat.lt_of_lt_of_le (Nat.mul_lt_mul_of_pos_right (by have : 1 ≤ 2 ^ g := Nat.one_le_two_pow; omega) (Nat.two_pow_pos S)) p2
  refine ⟨f ||| (2 ^ g - 1) * 2 ^ S, ?_, ?_, fun i => ?_⟩
  · rw [e]; exact bits_or_u64_nat _ _ (by omega) l
  · exact Nat.or_lt_two_pow (n := 62) (by omega) p3
  · rw [Nat.testBit_or, D.mask_bit]

end Go.Proofs.Ytnkeofobhlafkaa
