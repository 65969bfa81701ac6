import Derived.Test.YtcmdaiklkdeanaaHsI
import Derived.Test.YtcmdaiklkdeanaaFwL
import Derived.Test.YtcmdaiklkdeanaaWth
import Derived.Test.YtcmdaiklkdeanaaTeR
/- A cellar without some clocks, as comparisons left out and as bits. -/
namespace Go.Proofs.Ytcmdaiklkdeanaa
open Go.RowKit

section
variable {H : Nat} {rs : T.LR} {os : T.LO} {ps : T.LP}
theorem T.good_filter (G : T.Good H rs os ps) (f : Int × Int × Int × Int × Int → Bool) : T.Good H rs os (ps.filter f) where
  h1 := G.h1
  h2 := G.h2
  r1 := G.r1
  r2 := G.r2
  rsB := G.rsB
  osB := G.osB
  o6 := G.o6
  psB x hx := G.psB x (List.mem_filter.1 hx).1
  p14 := Nat.le_trans (List.length_filter_le _ _) G.p14
theorem T.kept_bits (G : T.Good H rs os ps) (s : Nat → Bool) {x : Int × Int × Int × Int × Int} (hx : x ∈ ps) : T.kept (T.lst s rs.length) x = true ↔ T.has (s 0) (s 1) (s 2) (s 3) (s 4) x.2.1 = false ∧ T.has (s 0) (s 1) (s 2) (s 3) (s 4) x.2.2.1 = false := by
  obtain ⟨_, g1, g2, _⟩ := G.psB x hx
  have r2 := G.r2
  obtain ⟨x0, x1, x2, x3⟩ := x
  simp only at g1 g2 ⊢
  have m : ∀ c : Int, 0 ≤ c → c < rs.length → (c ∈ T.lst s rs.length ↔ T.has (s 0) (s 1) (s 2) (s 3) (s 4) c = true) := fun c h1 h2 => by
    rw [T.has_bit s h1 (by omega)]
    have := T.mem_lst s rs.length (k := c.toNat)
    rw [show ((c.toNat : Nat) : Int) = c by omega] at this
    rw [this]
    exact ⟨fun h => h.2, fun h => ⟨by omega, h⟩⟩
  unfold T.kept
  simp only [Bool.and_eq_true, Bool.or_eq_true, decide_eq_true_eq]
  rw [m x1 g1.1 g1.2, Bool.not_eq_true]
  by_cases c : x2 < 0
  · obtain rfl : x2 = -1 := by omega
    rw [T.has_true]
    exact ⟨fun h => ⟨h.1, rfl⟩, fun h => ⟨h.1, .inl (by omega)⟩⟩
  · rw [m x2 (by omega) g2.2, Bool.not_eq_true]
    exact ⟨fun h => ⟨h.1, h.2.resolve_left c⟩, fun h => ⟨h.1, .inr h.2⟩⟩
theorem T.tr_without (G : T.Good H rs os ps) (s : Nat → Bool) (y : Int × Int → Int) : T.Tr H rs os (ps.filter (T.kept (T.lst s rs.length))) y ↔ T.Tru H rs os ps (s 0) (s 1) (s 2) (s 3) (s 4) y := by
  constructor
  · exact fun h => ⟨h.lim, h.grow, fun x hx q1 q2 => h.cmp x (List.mem_filter.2 ⟨hx, (T.kept_bits G s hx).2 ⟨q1, q2⟩⟩) (T.has_none _) (T.has_none _)⟩
  · exact fun h => ⟨h.lim, h.grow, fun x hx _ _ => by
      obtain ⟨h1, h2⟩ := List.mem_filter.1 hx
      obtain ⟨q1, q2⟩ := (T.kept_bits G s h1).1 h2
      exact h.cmp x h1 q1 q2⟩
theorem T.can_without (G : T.Good H rs os ps) (s : Nat → Bool) : T.canP rs.length H rs os ps s = true ↔ ∃ y, T.Tr H rs os (ps.filter (T.kept (T.lst s rs.length))) y := by
  rw [T.canP_iff]
  exact ⟨fun ⟨y, h⟩ => ⟨y, (T.tr_without G s y).2 ((T.sat_tru G).1 h)⟩, fun ⟨y, h⟩ => ⟨y, (T.sat_tru G).2 ((T.tr_without G s y).1 h)⟩⟩
theorem T.can_all (G : T.Good H rs os ps) : T.canP rs.length H rs os ps (fun _ => false) = true ↔ ∃ y, T.Tr H rs os ps y := by
  rw [T.canP_iff]
  exact ⟨fun ⟨y, h⟩ => ⟨y, (T.sat_tru G).1 h⟩, fun ⟨y, h⟩ => ⟨y, (T.sat_tru G).2 h⟩⟩
theorem T.lst_five {s : Nat → Bool} {n : Nat} (h : ∀ c, n ≤ c → s c = false) : ∀ d, T.lst s (n + d) = T.lst s n
  | 0 => rfl
  | d + 1 => by
    rw [show n + (d + 1) = (n + d) + 1 by omega, T.lst_no (h _ (by omega))]
    exact T.lst_five h d
end

end Go.Proofs.Ytcmdaiklkdeanaa

/- What is so of the clocks that must be wrong: over all truths. -/
namespace Go.Proofs.Ytcmdaiklkdeanaa
open Go.RowKit

section
variable {H : Nat} {rs : T.LR} {os : T.LO} {ps : T.LP} {m1 m2 : Int × Int} {l h e : Int}
theorem T.bits_high {z n : Nat} (hz : z < 2 ^ n) : ∀ c, n ≤ c → (fun k => z.testBit k) c = false := fun c hc =>
  Nat.testBit_lt_two_pow (Nat.lt_of_lt_of_le hz (Nat.pow_le_pow_right (by decide) hc))
theorem T.left_none (G : T.Good H rs os ps) (hf : T.few (T.canP rs.length H rs os ps) rs.length 0 = none) :
    (∀ y, ¬ T.Tr H rs os ps y) ∧ ∀ t : Nat → Bool, (∀ c, rs.length ≤ c → t c = false) → ∀ y, ¬ T.Tr H rs os (ps.filter (T.kept (T.lst t rs.length))) y := by
  have q := (T.few_is (P := T.canP rs.length H rs os ps) (many := rs.length)).1 hf
  constructor
  · intro y hy
    have := (T.can_all G).2 ⟨y, hy⟩
    rw [q _ (fun _ _ => rfl)] at this
    cases this
  · intro t ht y hy
    have := (T.can_without G t).2 ⟨y, hy⟩
    rw [q t ht] at this
    cases this
theorem T.left_some (G : T.Good H rs os ps) {s : Nat → Bool} (hf : T.few (T.canP rs.length H rs os ps) rs.length 0 = some s) {t : Nat → Bool} (ht : ∀ c, rs.length ≤ c → t c = false) :
    T.lst s 5 = T.lst s rs.length ∧ T.clm rs.length 0 (T.lst s rs.length) = true ∧ ((T.lst s rs.length).length = 0 ↔ ∃ y, T.Tr H rs os ps y) ∧ (∃ y, T.Tr H rs os (ps.filter (T.kept (T.lst s rs.length))) y) ∧
      ((∃ y, T.Tr H rs os (ps.filter (T.kept (T.lst t rs.length))) y) → (T.lst s rs.length).length < (T.lst t rs.length).length ∨ (T.lst t rs.length).length = (T.lst s rs.length).length ∧ T.ahd (T.lst t rs.length) (T.lst s rs.length) = false) := by
  obtain ⟨h1, h2, h3⟩ := (T.few_is (P := T.canP rs.length H rs os ps) (many := rs.length)).2 s hf
  have r2 := G.r2
  refine ⟨?_, T.clm_lst s _ _ (Nat.le_refl _), ?_, (T.can_without G s).1 h2, ?_⟩
  · have := T.lst_five h1 (5 - rs.length)
    rwa [show rs.length + (5 - rs.length) = 5 by omega] at this
  · rw [T.lst_cnt]
    constructor
    · intro h0
      have hz := T.cnt_zero (t := s) (many := rs.length) (fr := 0) rfl h0
      have e : s = fun _ => false := by
        funext c
        by_cases hc : c < rs.length
        · exact hz c (Nat.zero_le _) hc
        · exact h1 c (by omega)
      rw [e] at h2
      exact (T.can_all G).1 h2
    · intro h
      have := (h3 (fun _ => false) (fun _ _ => rfl) ((T.can_all G).2 h)).1
      have e : T.cnt (fun _ => false) 0 rs.length = 0 := by
        unfold T.cnt
        rw [List.length_eq_zero_iff, List.filter_eq_nil_iff]
        intro a _
        simp
      omega
  · intro h
    rw [T.lst_cnt, T.lst_cnt]
    obtain ⟨a, b⟩ := h3 t ht ((T.can_without G t).2 h)
    rcases Nat.lt_or_ge (T.cnt s 0 rs.length) (T.cnt t 0 rs.length) with c | c
    · exact .inl c
    · have e : T.cnt t 0 rs.length = T.cnt s 0 rs.length := by omega
      refine .inr ⟨e, ?_⟩
      rcases b e with rfl | L
      · exact T.ahd_self _
      · exact T.lex_ahd L h1 e
end

end Go.Proofs.Ytcmdaiklkdeanaa
