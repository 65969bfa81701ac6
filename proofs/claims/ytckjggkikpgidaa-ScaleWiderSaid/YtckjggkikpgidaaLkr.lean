import Derived.Test.YtckjggkikpgidaaSnd
/- A copy of a book's looks: what an append of them brings, and what a row of the call's own says of looks. -/
namespace Go.Proofs.Ytckjggkikpgidaa
open Go.RowKit

/-- the numbers of looks, one after another -/
def S.flat : List (Int × Int × Int) → List Value
  | [] => []
  | l :: t => [.int .i64 l.1, .int .i64 l.2.1, .int .i64 l.2.2] ++ S.flat t
theorem S.flat_len (ls : List (Int × Int × Int)) : (S.flat ls).length = ls.length * 3 := by
  induction ls with
  | nil => rfl
  | cons l t ih => show ([_, _, _] ++ S.flat t).length = _; rw [List.length_append, ih]; simp; omega
theorem S.flat_app (a b : List (Int × Int × Int)) : S.flat (a ++ b) = S.flat a ++ S.flat b := by
  induction a with
  | nil => rfl
  | cons l t ih => show [_, _, _] ++ S.flat (t ++ b) = ([_, _, _] ++ S.flat t) ++ S.flat b; rw [ih, List.append_assoc]
theorem S.flat_at : ∀ (ls : List (Int × Int × Int)) (i : Nat), i < ls.length → (S.flat ls)[i * 3]? = some (.int .i64 (ls.getD i (0, 0, 0)).1) ∧ (S.flat ls)[i * 3 + 1]? = some (.int .i64 (ls.getD i (0, 0, 0)).2.1) ∧ (S.flat ls)[i * 3 + 2]? = some (.int .i64 (ls.getD i (0, 0, 0)).2.2) := by
  intro ls
  induction ls with
  | nil => intro i h; simp at h
  | cons l t ih =>
    intro i h
    cases i with
    | zero => exact ⟨rfl, rfl, rfl⟩
    | succ i =>
      have e := ih i (by simpa using h)
      rw [List.getD_cons_succ]
      have q : ∀ r, (S.flat (l :: t))[(i + 1) * 3 + r]? = (S.flat t)[i * 3 + r]? := fun r => by
        show ([.int .i64 l.1, .int .i64 l.2.1, .int .i64 l.2.2] ++ S.flat t)[(i + 1) * 3 + r]? = _
        rw [List.getElem?_append_right (by simp; omega)]
        congr 1
        simp
        omega
      have q0 := q 0
      have q1 := q 1
      have q2 := q 2
      rw [Nat.add_zero, Nat.add_zero] at q0
      rw [q0, q1, q2]
      exact e
/-- what lies in memory of looks -/
theorem Lks.flat {w : World} {g off n c : Nat} {ls : List (Int × Int × Int)} (I : Lks w (.slice (some ⟨g, off, none⟩) n c) ls) : ∀ j u, (S.flat ls)[j]? = some u → w.cell? ((⟨g, off, none⟩ : Addr).add j) = some u := by
  intro j u h
  have hj : j < ls.length * 3 := by
    rw [← S.flat_len]
    exact (List.getElem?_eq_some_iff.1 h).1
  obtain ⟨a, c', e, _, _, m⟩ := I.is
  obtain ⟨g', off', rfl, _, hc⟩ := m (by omega)
  simp only [Value.slice.injEq, Option.some.injEq, Addr.mk.injEq] at e
  obtain ⟨⟨rfl, rfl, _⟩, _, _⟩ := e
  obtain ⟨i, r, rfl, hr⟩ : ∃ i r, j = i * 3 + r ∧ r < 3 := ⟨j / 3, j % 3, by omega, Nat.mod_lt _ (by omega)⟩
  have hi : i < ls.length := by omega
  obtain ⟨x0, x1, x2⟩ := hc i hi
  obtain ⟨y0, y1, y2⟩ := S.flat_at ls i hi
  rw [D.add_at]
  match r, hr with
  | 0, _ => rw [Nat.add_zero] at h ⊢; rw [y0] at h; rw [x0]; exact h
  | 1, _ => rw [y1] at h; rw [← Nat.add_assoc, x1]; exact h
  | 2, _ => rw [y2] at h; rw [← Nat.add_assoc, x2]; exact h
/-- a row of the call's own holds looks -/
theorem lks_of_row {W : World} {base n : Nat} {v : Value} {ls : List (Int × Int × Int)} (ho : W.ownsRow base 71 3 v n (S.flat ls)) (hn : n ≤ 1000000) : Lks W v ls := by
  have hlen : n = ls.length := by
    have := ho.1
    rw [S.flat_len] at this
    omega
  subst hlen
  obtain ⟨_, ⟨rfl, hz⟩ | ⟨g, cap, cur, rfl, hg, hb, h1, h2, h3, h4⟩⟩ := id ho
  · exact ⟨none, 0, by rw [hz], by omega, by omega, fun h => by omega⟩
  · have hgl := (Array.getElem?_eq_some_iff.1 hb).1
    refine ⟨some ⟨g, 0, none⟩, cap, rfl, h1, by omega, fun _ => ⟨g, 0, rfl, hgl, fun j hj => ?_⟩⟩
    obtain ⟨y0, y1, y2⟩ := S.flat_at ls j hj
    rw [Nat.zero_add]
    exact ⟨row_at ho y0, row_at ho y1, row_at ho y2⟩

end Go.Proofs.Ytckjggkikpgidaa
