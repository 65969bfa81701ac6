import Derived.Test.YtoipfakcmnjenaaTru
import Derived.Test.YtoipfakcmnjenaaNof
/- Offsets that keep to all ties are a truth. -/
namespace Go.Proofs.Ytoipfakcmnjenaa

section
variable {H : Nat} {rs : List (Int × Int)} {os : List (Int × Int × Int × Int)} {ps : List (Int × Int × Int × Int × Int)} {b0 b1 b2 b3 b4 : Bool}
theorem T.keep_tru (G : T.Good H rs os ps) {o : Int × Int → Int} (h0 : o (-1, 0) = 0) (h64 : ∀ m ∈ T.moms rs.length H, D.in64 (o m)) :
    (T.web rs.length H rs os ps b0 b1 b2 b3 b4).all (T.keep o) = true ↔ T.Tru H rs os ps b0 b1 b2 b3 b4 o := by
  have W := T.web_ok (b0 := b0) (b1 := b1) (b2 := b2) (b3 := b3) (b4 := b4) G
  have hm0 : ((-1 : Int), (0 : Int)) ∈ T.moms rs.length H := T.mem_moms.2 (.inl ⟨rfl, rfl⟩)
  have hwr : (∀ m ∈ T.moms rs.length H, -100000 ≤ o m ∧ o m ≤ 100000) → ∀ t ∈ T.web rs.length H rs os ps b0 b1 b2 b3 b4, IntKind.i64.wrap (o (T.one t) - o (T.oth t)) = o (T.one t) - o (T.oth t) := fun h t ht => by
    obtain ⟨a, b⟩ := W.ends t ht
    have := h _ a
    have := h _ b
    exact IntWalk.i64_in _ (by omega)
  rw [List.all_eq_true, ← T.sat_tru G]
  constructor
  · intro h
    have hb : ∀ m ∈ T.moms rs.length H, -100000 ≤ o m ∧ o m ≤ 100000 := by
      intro m hm
      by_cases e : m = (-1, 0)
      · rw [e, h0]; omega
      · obtain ⟨s, h1, h2, h3⟩ := T.far0 (b0 := b0) (b1 := b1) (b2 := b2) (b3 := b3) (b4 := b4) G m hm e
        have q := h _ (show (m.1, m.2, -1, 0, s.1, s.2) ∈ T.web rs.length H rs os ps b0 b1 b2 b3 b4 from T.mem_ties.2 ⟨m, hm, (-1, 0), hm0, s, h1, rfl⟩)
        have e1 : T.keep o (m.1, m.2, -1, 0, s.1, s.2) = inB (IntKind.i64.wrap (o m - o (-1, 0))) s.1 s.2 := rfl
        have hi := h64 m hm
        unfold D.in64 at hi
        rw [e1, h0, Int.sub_zero, IntWalk.i64_in _ (by omega), inB_iff] at q
        omega
    intro t ht
    have q := h t ht
    unfold T.keep at q
    rw [hwr hb t ht, inB_iff] at q
    have e : T.sHi (T.by t) = (T.by t).2 := rfl
    rw [e]
    omega
  · intro h t ht
    have hb : ∀ m ∈ T.moms rs.length H, -100000 ≤ o m ∧ o m ≤ 100000 := by
      have L := ((T.sat_tru G).1 h).lim
      rintro ⟨c, j⟩ hm
      rcases T.mem_moms.1 hm with ⟨rfl, rfl⟩ | ⟨⟨a, b⟩, c', d⟩
      · rw [h0]; omega
      · have q := L c j a b c' d
        unfold T.In at q
        rw [h0] at q
        simp only at q
        omega
    unfold T.keep
    rw [hwr hb t ht, inB_iff]
    have q1 := h t ht
    have q2 : -o (T.one t) ≤ -o (T.oth t) + T.sLo (T.by t) := (W.neg o).1 h t ht
    have e1 : T.sHi (T.by t) = (T.by t).2 := rfl
    have e2 : T.sLo (T.by t) = -(T.by t).1 := rfl
    rw [e1] at q1
    rw [e2] at q2
    omega
end
end Go.Proofs.Ytoipfakcmnjenaa
