import Derived.Test.YtonklhfpjooheaaRow
/- Rows that came in hold numbers of 64 bits. -/
namespace Go.Proofs.Ytonklhfpjooheaa
open Go.ChangeShapes Go.WideShapes Go.RowKit Go.Deep

set_option maxRecDepth 100000
section
variable {H : Type} {enc : TypeId × Value → H} {w : World} {base : Nat} {spare : Nat → Bool} {held : Bool}
theorem open_ints6 {fuel : Nat} {cs : List Value} {x : DataW H × List MemPlace} (h : DataW.trod enc Try.prog w base spare held fuel 44 cs = some x) :
    ∃ a n c L, cs = [.slice a n c] ∧ Ints w (.slice a n c) L ∧ ∀ j, j < L.length → D.in64 (L.getD j 0) := by
  rcases open_slice Try.underlying44 h with ⟨hcs, _⟩ | ⟨a, len, cap, m, n, Dd, Pl, hcs, hb, hl, hm, hmm, hx, hi⟩
  · exact ⟨none, 0, 0, [], hcs, Ints.nil w, fun j hj => absurd hj (Nat.not_lt_zero j)⟩
  · have hml : len ≤ m := by rw [hmm]; split <;> omega
    obtain ⟨b, off, spot⟩ := a
    have he : ∀ i, i < len → ∃ z : Int, w.cell? (((⟨b, off, spot⟩ : Addr).add (i * 1)).add 0) = some (.int .i64 z) ∧ D.in64 z := fun i hlt => by
      obtain ⟨cs', hc, ht⟩ := hi i (by omega)
      rw [intCells] at hc
      obtain ⟨_, hcl, hat⟩ := World.cells?_some hc
      match cs', hcl with
      | [c0], _ =>
        obtain ⟨z, e, _, wf⟩ := DataW.trod_int Try.underlying3 ht
        obtain rfl : c0 = .int .i64 z := by simpa using e
        exact ⟨z, hat 0 (by omega), D.wf64 wf⟩
    obtain ⟨L, hL, hP⟩ := D.list_of (0 : Int) _ len he
    have hlen : L.length = len := hL
    refine ⟨_, len, cap, L, hcs, ⟨_, cap, by rw [hlen], by omega, by have : cap ≤ maxLen := hm; unfold maxLen at this; omega, fun h0 => ?_⟩, fun j hj => (hP j (by omega)).2⟩
    have p0 := (hP 0 (by omega)).1
    obtain rfl : spot = none := World.cell?_spot p0
    simp only [add_none, Nat.add_zero, Nat.mul_one] at hP p0
    exact ⟨b, off, rfl, cell_lt p0, fun k hk => (hP k (by omega)).1⟩
theorem open_rows6 {fuel : Nat} {cs : List Value} {x : DataW H × List MemPlace} (h : DataW.trod enc Try.prog w base spare held fuel 27 cs = some x) :
    ∃ a n c L, cs = [.slice a n c] ∧ T.Rows w (.slice a n c) L ∧ ∀ i, i < L.length → ∀ j, j < (L.getD i []).length → D.in64 ((L.getD i []).getD j 0) := by
  rcases open_slice Try.underlying27 h with ⟨hcs, _⟩ | ⟨a, len, cap, m, n, Dd, Pl, hcs, hb, hl, hm, hmm, hx, hi⟩
  · exact ⟨none, 0, 0, [], hcs, T.Rows.nil w, fun j hj => absurd hj (Nat.not_lt_zero j)⟩
  · have hml : len ≤ m := by rw [hmm]; split <;> omega
    have ec : Try.prog.cellsOf 44 = 1 := by kernel_rfl
    obtain ⟨b, off, spot⟩ := a
    have hh : ∀ i, i < len → ∃ z : List Int, (∃ u, w.cell? (((⟨b, off, spot⟩ : Addr).add (i * 1)).add 0) = some u ∧ Ints w u z) ∧ ∀ j, j < z.length → D.in64 (z.getD j 0) := fun i hlt => by
      obtain ⟨cs', hc, ht'⟩ := hi i (by omega)
      rw [ec] at hc
      obtain ⟨_, hcl, hat⟩ := World.cells?_some hc
      obtain ⟨a', n', c', L, e, IL, h6⟩ := open_ints6 ht'
      match cs', hcl with
      | [c0], _ =>
        obtain rfl : c0 = .slice a' n' c' := by simpa using e
        exact ⟨L, ⟨_, hat 0 (by omega), IL⟩, h6⟩
    obtain ⟨L, hL, hP⟩ := D.list_of ([] : List Int) _ len hh
    have hlen : L.length = len := hL
    refine ⟨_, len, cap, L, hcs, ⟨_, cap, by rw [hlen], by omega, by have : cap ≤ maxLen := hm; unfold maxLen at this; omega, fun h0 => ?_⟩, fun i hi' => (hP i (by omega)).2⟩
    obtain ⟨⟨u0, p0, _⟩, _⟩ := hP 0 (by omega)
    obtain rfl : spot = none := World.cell?_spot p0
    simp only [add_none, Nat.add_zero, Nat.mul_one] at hP p0
    exact ⟨b, off, rfl, cell_lt p0, fun j hj => (hP j (by omega)).1⟩
theorem open_rows_arg6 {r : Reach} {b0 : Nat} {v : Value} {fuel : Nat} {x : DataW H × List MemPlace} (hval : Value.okWide Try.prog w r b0 27 v) (h : DataW.trod enc Try.prog w base spare held fuel 27 v.cells.toList = some x) : ∃ a n c L, v = .slice a n c ∧ T.Rows w (.slice a n c) L ∧ ∀ i, i < L.length → ∀ j, j < (L.getD i []).length → D.in64 ((L.getD i []).getD j 0) := by
  obtain ⟨a, n, c, rfl⟩ := slice_of Try.underlying27 hval
  obtain ⟨a', n', c', L, e, I⟩ := open_rows6 h
  obtain ⟨rfl, rfl, rfl⟩ : a = a' ∧ n = n' ∧ c = c' := by simpa [Value.cells] using e
  exact ⟨_, _, _, L, rfl, I⟩
end

end Go.Proofs.Ytonklhfpjooheaa
