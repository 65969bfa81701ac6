import Derived.Test.YtonklhfpjooheaaFwL
import Derived.Test.YtonklhfpjooheaaWro
import Derived.Test.YtonklhfpjooheaaTeR
/- What the reference's Wrong holds on its way: the first of the fewest so far. -/
namespace Go.Proofs.Ytonklhfpjooheaa
open Go.RowKit

theorem T.lex_ahd2 {s t : Nat → Bool} {n : Nat} (h : T.Lex s t) (ht : ∀ c, n ≤ c → s c = false) (e : T.cnt t 0 n = T.cnt s 0 n) : T.ahd (T.lst s n) (T.lst t n) = true := by
  obtain ⟨c, h1, h2, h3⟩ := h
  have hc : c < n := by
    by_cases q : c < n
    · exact q
    · have := ht c (by omega)
      rw [h2] at this
      cases this
  obtain ⟨B, b1, b2⟩ := T.lst_more s (c + 1) n (by omega)
  obtain ⟨C, c1, c2⟩ := T.lst_more t (c + 1) n (by omega)
  rw [T.lst_yes h2, T.lst_same h1] at b1
  rw [T.lst_no h3] at c1
  have l1 := T.lst_cnt s n
  have l2 := T.lst_cnt t n
  rw [b1, List.length_append, List.length_append, List.length_singleton] at l1
  rw [c1, List.length_append] at l2
  generalize T.lst t c = A at *
  cases C with
  | nil => simp at l2; omega
  | cons x C =>
    have hx := c2 x List.mem_cons_self
    have hne : ¬ (c : Int) = x := by omega
    rw [b1, c1, List.append_assoc]
    have e1 : D.first (A ++ ([(c : Int)] ++ B)) (A ++ x :: C) = A.length := by
      rw [T.first_app]
      show A.length + (if (c : Int) = x then _ else 0) = _
      rw [if_neg hne]
      rfl
    unfold T.ahd
    rw [e1, if_pos (by constructor <;> simp)]
    rw [List.getD_eq_getElem?_getD, List.getD_eq_getElem?_getD, List.getElem?_append_right (Nat.le_refl _), List.getElem?_append_right (Nat.le_refl _), Nat.sub_self]
    exact decide_eq_true (show (c : Int) < x by omega)
theorem T.of_bits : ∀ (n : Nat) (s : Nat → Bool), ∃ z, z < 2 ^ n ∧ ∀ k, k < n → z.testBit k = s k
  | 0, s => ⟨0, by decide, fun k hk => absurd hk (Nat.not_lt_zero k)⟩
  | n + 1, s => by
    obtain ⟨z, hz, h⟩ := T.of_bits n (fun k => s (k + 1))
    refine ⟨2 * z + (if s 0 = true then 1 else 0), ?_, fun k hk => ?_⟩
    · rw [Nat.pow_succ]
      split <;> omega
    · cases k with
      | zero =>
        rw [Nat.testBit_zero]
        cases s 0
        · exact decide_eq_false (by simp)
        · exact decide_eq_true (by simp only [if_pos]; omega)
      | succ k =>
        rw [Nat.testBit_succ, show (2 * z + (if s 0 = true then 1 else 0)) / 2 = z by split <;> omega]
        exact h k (by omega)
/-- the clocks of a set, as a list -/
def T.zl (n z : Nat) : List Int := T.lst (fun k => z.testBit k) n
/-- the set that is looked for, if there is one: the first of the fewest -/
def T.rwZ (P : Nat → Bool) (n : Nat) (zs : Option Nat) : Prop := ∀ s, zs = some s → P s = true ∧ ∀ t, t < 2 ^ n → P t = true → t ≠ s →
  (T.zl n s).length < (T.zl n t).length ∨ ((T.zl n s).length = (T.zl n t).length ∧ T.ahd (T.zl n s) (T.zl n t) = true ∧ T.ahd (T.zl n t) (T.zl n s) = false)
def T.rwI (P : Nat → Bool) (z : Nat) (zs : Option Nat) (f : Bool) (t0 : Nat) : Prop :=
  (f = false ∧ ∀ t, t < z → P t = false) ∨ (f = true ∧ t0 < z ∧ P t0 = true ∧ ∀ s, zs = some s → s < z → t0 = s)
section
variable {P : Nat → Bool} {n z t0 : Nat} {zs : Option Nat}
theorem T.rwI.no (h : T.rwI P z zs false t0) (hp : P z = false) : T.rwI P (z + 1) zs false t0 := by
  rcases h with ⟨_, h⟩ | ⟨h, _⟩
  · refine .inl ⟨rfl, fun t ht => ?_⟩
    by_cases e : t = z
    · rw [e]; exact hp
    · exact h t (by omega)
  · cases h
theorem T.rwI.one (Z : T.rwZ P n zs) (h : T.rwI P z zs false t0) (hp : P z = true) : T.rwI P (z + 1) zs true z := by
  rcases h with ⟨_, h⟩ | ⟨h, _⟩
  · refine .inr ⟨rfl, Nat.lt_succ_self z, hp, fun s hs hl => ?_⟩
    by_cases e : s = z
    · exact e.symm
    · have := h s (by omega)
      rw [(Z s hs).1] at this
      cases this
  · cases h
theorem T.rwI.out (Z : T.rwZ P n zs) (h : T.rwI P z zs true t0) (hp : P z = false) : T.rwI P (z + 1) zs true t0 := by
  rcases h with ⟨h, _⟩ | ⟨_, h1, h2, h3⟩
  · cases h
  · refine .inr ⟨rfl, by omega, h2, fun s hs hl => ?_⟩
    by_cases e : s = z
    · rw [← e, (Z s hs).1] at hp
      cases hp
    · exact h3 s hs (by omega)
theorem T.rwI.skip (Z : T.rwZ P n zs) (hz : z < 2 ^ n) (h : T.rwI P z zs true t0) (hk : (T.zl n t0).length < (T.zl n z).length ∨ ((T.zl n z).length = (T.zl n t0).length ∧ T.ahd (T.zl n z) (T.zl n t0) = false)) : T.rwI P (z + 1) zs true t0 := by
  rcases h with ⟨h, _⟩ | ⟨_, h1, h2, h3⟩
  · cases h
  · refine .inr ⟨rfl, by omega, h2, fun s hs hl => ?_⟩
    by_cases e : s = z
    · subst e
      rcases (Z s hs).2 t0 (by omega) h2 (by omega) with a | ⟨a, b, _⟩
      · omega
      · rcases hk with hk | ⟨_, hk⟩
        · omega
        · rw [b] at hk; cases hk
    · exact h3 s hs (by omega)
theorem T.rwI.put (Z : T.rwZ P n zs) (hz : z < 2 ^ n) (h : T.rwI P z zs true t0) (hp : P z = true) (hk : (T.zl n z).length < (T.zl n t0).length ∨ ((T.zl n z).length = (T.zl n t0).length ∧ T.ahd (T.zl n z) (T.zl n t0) = true)) : T.rwI P (z + 1) zs true z := by
  rcases h with ⟨h, _⟩ | ⟨_, h1, h2, h3⟩
  · cases h
  · refine .inr ⟨rfl, by omega, hp, fun s hs hl => ?_⟩
    by_cases e : s = z
    · exact e.symm
    · have e2 := h3 s hs (by omega)
      subst e2
      rcases (Z t0 hs).2 z hz hp (by omega) with a | ⟨a, _, b⟩
      · omega
      · rcases hk with hk | ⟨_, hk⟩
        · omega
        · rw [b] at hk; cases hk
end
section
variable {H : Nat} {rs : T.LR} {os : T.LO} {ps : T.LP}
/-- can the cellar be true without the clocks of a set? -/
noncomputable def T.zc (H : Nat) (rs : T.LR) (os : T.LO) (ps : T.LP) (z : Nat) : Bool := T.canP rs.length H rs os ps (fun k => z.testBit k)
theorem T.zc_iff (G : T.Good H rs os ps) {z : Nat} : T.zc H rs os ps z = true ↔ ∃ y, T.Tru H rs os ps (z.testBit 0) (z.testBit 1) (z.testBit 2) (z.testBit 3) (z.testBit 4) y := by
  unfold T.zc
  rw [T.canP_iff]
  exact ⟨fun ⟨y, h⟩ => ⟨y, (T.sat_tru G).1 h⟩, fun ⟨y, h⟩ => ⟨y, (T.sat_tru G).2 h⟩⟩
theorem T.few_z (G : T.Good H rs os ps) : ∃ zs, T.rwZ (T.zc H rs os ps) rs.length zs ∧ ((zs = none ∧ T.few (T.canP rs.length H rs os ps) rs.length 0 = none ∧ ∀ t, t < 2 ^ rs.length → T.zc H rs os ps t = false) ∨
    ∃ s, zs = some s ∧ s < 2 ^ rs.length ∧ T.few (T.canP rs.length H rs os ps) rs.length 0 = some (fun k => s.testBit k) ∧ T.lst (fun k => s.testBit k) 5 = T.zl rs.length s) := by
  obtain ⟨f1, f2⟩ := T.few_is (P := T.canP rs.length H rs os ps) (many := rs.length)
  have hb : ∀ t : Nat, t < 2 ^ rs.length → ∀ c, rs.length ≤ c → (fun k => t.testBit k) c = false := fun t ht c hc => Nat.testBit_lt_two_pow (Nat.lt_of_lt_of_le ht (Nat.pow_le_pow_right (by decide) hc))
  cases hf : T.few (T.canP rs.length H rs os ps) rs.length 0 with
  | none => exact ⟨none, fun s hs => (by cases hs), .inl ⟨rfl, rfl, fun t ht => f1 hf _ (hb t ht)⟩⟩
  | some s =>
    obtain ⟨g1, g2, g3⟩ := f2 s hf
    obtain ⟨z, hz, hzs⟩ := T.of_bits rs.length s
    have e : s = fun k => z.testBit k := by
      funext k
      by_cases hk : k < rs.length
      · exact (hzs k hk).symm
      · rw [g1 k (by omega)]
        exact (hb z hz k (by omega)).symm
    subst e
    refine ⟨some z, fun s hs => ?_, .inr ⟨z, rfl, hz, rfl, ?_⟩⟩
    · obtain rfl := Option.some.inj hs
      refine ⟨g2, fun t ht hp hne => ?_⟩
      obtain ⟨c1, c2⟩ := g3 _ (hb t ht) hp
      unfold T.zl
      rw [T.lst_cnt, T.lst_cnt]
      by_cases hc : T.cnt (fun k => t.testBit k) 0 rs.length = T.cnt (fun k => z.testBit k) 0 rs.length
      · rcases c2 hc with q | q
        · exact absurd (Nat.eq_of_testBit_eq fun i => congrFun q i) hne
        · exact .inr ⟨hc.symm, T.lex_ahd2 q g1 hc, T.lex_ahd q g1 hc⟩
      · exact .inl (by omega)
    · have r2 := G.r2
      have ex : ∀ d, T.lst (fun k => z.testBit k) (rs.length + d) = T.lst (fun k => z.testBit k) rs.length := fun d => by
        induction d with
        | zero => rfl
        | succ d ih => rw [show rs.length + (d + 1) = (rs.length + d) + 1 by omega, T.lst_no (g1 _ (by omega)), ih]
      have := ex (5 - rs.length)
      rwa [show rs.length + (5 - rs.length) = 5 by omega] at this
end

end Go.Proofs.Ytonklhfpjooheaa
