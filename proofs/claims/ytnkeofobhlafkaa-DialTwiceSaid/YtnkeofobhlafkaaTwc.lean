import Derived.Test.YtnkeofobhlafkaaBits
import Derived.Test.YtnkeofobhlafkaaTickE
/- What a map of seconds and a count know of the ticks that have come: how many had a local reading that an earlier one has. -/
namespace Go.Proofs.Ytnkeofobhlafkaa
open Go.RowKit

/-- so many of the first numbers are such -/
def D.Dup (E : Nat → Prop) : Nat → Nat → Prop
  | 0, c => c = 0
  | k + 1, c => (E k ∧ ∃ c', c = c' + 1 ∧ D.Dup E k c') ∨ (¬ E k ∧ D.Dup E k c)
theorem D.Dup.le {E : Nat → Prop} (k : Nat) : ∀ c, D.Dup E k c → c ≤ k := by
  induction k with
  | zero => intro c h; exact Nat.le_of_eq h
  | succ k ih =>
    intro c h
    rcases h with ⟨_, c', rfl, h⟩ | ⟨_, h⟩
    · have := ih c' h; omega
    · have := ih c h; omega
theorem D.Dup.one {E : Nat → Prop} (k : Nat) : ∀ c c', D.Dup E k c → D.Dup E k c' → c = c' := by
  induction k with
  | zero => intro c c' h h'; rw [show c = 0 from h, show c' = 0 from h']
  | succ k ih =>
    intro c c' h h'
    rcases h with ⟨e, x, rfl, h⟩ | ⟨e, h⟩
    · rcases h' with ⟨_, y, rfl, h'⟩ | ⟨e', _⟩
      · rw [ih x y h h']
      · exact absurd e e'
    · rcases h' with ⟨e', _⟩ | ⟨_, h'⟩
      · exact absurd e' e
      · exact ih c c' h h'
theorem D.Dup.run {E : Nat → Prop} {q : Nat → Bool} {k c : Nat} (h : D.Dup E k c) (g : Nat) (hq : ∀ i, i < g → (E (k + i) ↔ q i = true)) : D.Dup E (k + g) (c + D.many q g) := by
  induction g with
  | zero => exact h
  | succ g ih =>
    have i1 := ih (fun i hi => hq i (by omega))
    have e := hq g (by omega)
    rw [← Nat.add_assoc, D.Dup, D.many]
    cases hg : q g
    · rw [hg] at e
      exact .inr ⟨fun x => (by have := e.1 x; cases this), by simpa using i1⟩
    · rw [hg] at e
      exact .inl ⟨e.2 rfl, c + D.many q g, by simp; omega, i1⟩

/-- has an earlier tick the same minute and second? -/
def D.again (P : Nat → Int × Int × Int) (S : Nat → Int) (k : Nat) : Prop := ∃ j, j < k ∧ P j = P k ∧ S j = S k
/-- what is known of the ticks below one -/
structure D.Inv (P : Nat → Int × Int × Int) (S : Nat → Int) (v : (Int → Int → Int → Int) × Int) (k : Nat) : Prop where
  map : ∀ a b c, ∃ f : Nat, v.1 a b c = f ∧ f < 4611686018427387904 ∧ ∀ i : Nat, f.testBit i = true ↔ ∃ j, j < k ∧ P j = (a, b, c) ∧ S j = i
  cnt : ∃ c : Nat, v.2 = c ∧ D.Dup (D.again P S) k c
theorem D.Inv.zero (P : Nat → Int × Int × Int) (S : Nat → Int) : D.Inv P S (fun _ _ _ => 0, 0) 0 where
  map := fun a b c => ⟨0, rfl, by omega, fun i => by simp⟩
  cnt := ⟨0, rfl, rfl⟩
theorem D.Inv.run {P : Nat → Int × Int × Int} {S : Nat → Int} {v : (Int → Int → Int → Int) × Int} {k : Nat} (I : D.Inv P S v k) {a b c : Int} {g s : Nat} (hk : k ≤ 1000000) (hg : g + s ≤ 62) (hP : ∀ i, i < g → P (k + i) = (a, b, c)) (hS : ∀ i, i < g → S (k + i) = ((s + i : Nat) : Int)) :
    D.Inv P S (D.tw1 v a b c (D.mask g s)) (k + g) := by
  obtain ⟨f, ef, fl, hf⟩ := I.map a b c
  obtain ⟨f', eo, fl', hf'⟩ := D.or_mask f g s fl hg
  obtain ⟨n, en, hn⟩ := I.cnt
  have hle := D.Dup.le k n hn
  have hmany : ∀ (p : Nat → Bool) (g : Nat), D.many p g ≤ g := fun p g => by
    induction g with
    | zero => exact Nat.le_refl _
    | succ g ih => rw [D.many]; split <;> omega
  constructor
  · intro x y z
    by_cases e : x = a ∧ y = b ∧ z = c
    · obtain ⟨rfl, rfl, rfl⟩ := e
      refine ⟨f', ?_, fl', fun i => ?_⟩
      · show D.upd v.1 x y z _ x y z = _
        unfold D.upd
        rw [if_pos ⟨rfl, rfl, rfl⟩, ef, eo]
      · rw [hf', Bool.or_eq_true, hf, decide_eq_true_eq]
        constructor
        · rintro (⟨j, j1, j2, j3⟩ | ⟨i1, i2⟩)
          · exact ⟨j, by omega, j2, j3⟩
          · refine ⟨k + (i - s), by omega, hP _ (by omega), ?_⟩
            rw [hS _ (by omega)]
            congr 1
            omega
        · rintro ⟨j, j1, j2, j3⟩
          by_cases hj : j < k
          · exact .inl ⟨j, hj, j2, j3⟩
          · right
            have := hS (j - k) (by omega)
            rw [show k + (j - k) = j by omega, j3] at this
            omega
    · obtain ⟨f0, e0, l0, h0⟩ := I.map x y z
      refine ⟨f0, ?_, l0, fun i => ?_⟩
      · show D.upd v.1 a b c _ x y z = _
        unfold D.upd
        rw [if_neg e, e0]
      · rw [h0]
        constructor
        · rintro ⟨j, j1, j2, j3⟩
          exact ⟨j, by omega, j2, j3⟩
        · rintro ⟨j, j1, j2, j3⟩
          by_cases hj : j < k
          · exact ⟨j, hj, j2, j3⟩
          · have := hP (j - k) (by omega)
            rw [show k + (j - k) = j by omega, j2] at this
            injection this with t1 t2
            injection t2 with t2 t3
            exact absurd ⟨t1, t2, t3⟩ e
  · refine ⟨n + D.many (fun i => f.testBit (s + i)) g, ?_, hn.run g (fun i hi => ?_)⟩
    · show wrap64 (v.2 + D.pop (bits .and .u64 (v.1 a b c) _)) = _
      rw [en, ef, D.pop_mask f g s (by omega) hg]
      have := hmany (fun i => f.testBit (s + i)) g
      rw [wrap64_in (by omega)]
      omega
    · rw [hf]
      constructor
      · rintro ⟨j, j1, j2, j3⟩
        rw [hP i hi] at j2
        rw [hS i hi] at j3
        by_cases hj : j < k
        · exact ⟨j, hj, j2, j3⟩
        · have := hS (j - k) (by omega)
          rw [show k + (j - k) = j by omega, j3] at this
          omega
      · rintro ⟨j, j1, j2, j3⟩
        exact ⟨j, by omega, by rw [hP i hi]; exact j2, by rw [hS i hi]; exact j3⟩

end Go.Proofs.Ytnkeofobhlafkaa
