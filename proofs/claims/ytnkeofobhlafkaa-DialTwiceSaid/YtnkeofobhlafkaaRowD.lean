import Derived.Test.YtnkeofobhlafkaaRowA
import Derived.Test.YtnkeofobhlafkaaLawI
/- How a town, and what is behind it, is opened. -/
namespace Go.Proofs.Ytnkeofobhlafkaa
open Go.ChangeShapes Go.WideShapes Go.RowKit Go.Deep

section
variable {H : Type} {enc : TypeId × Value → H} {w : World} {base : Nat} {spare : Nat → Bool} {held : Bool}
set_option maxRecDepth 100000 in
theorem open_chgs {fuel : Nat} {cs : List Value} {x : DataW H × List MemPlace} (h : DataW.trod enc Try.prog w base spare held fuel 42 cs = some x) :
    ∃ a n c M, cs = [.slice a n c] ∧ n ≤ c ∧ TownArg w a n c M := by
  rcases open_slice Try.underlying42 h with ⟨hcs, _⟩ | ⟨a, len, cap, m, n, Dd, Pl, hcs, hb, hl, hm, hmm, hx, hi⟩
  · exact ⟨none, 0, 0, [], hcs, Nat.le_refl _, rfl, by omega, fun h => absurd h (by omega)⟩
  · have hml : len ≤ m := by rw [hmm]; split <;> omega
    have ec : Try.prog.cellsOf 82 = 2 := by kernel_rfl
    obtain ⟨b, off, spot⟩ := a
    have he : ∀ i, i < len → ∃ z : Int × Int, w.cell? (((⟨b, off, spot⟩ : Addr).add (i * 2)).add 0) = some (.int .i64 z.1) ∧ w.cell? (((⟨b, off, spot⟩ : Addr).add (i * 2)).add 1) = some (.int .i64 z.2) := fun i hlt => by
      obtain ⟨cs', hc, ht⟩ := hi i (by omega)
      rw [ec] at hc
      obtain ⟨_, hcl, hat⟩ := World.cells?_some hc
      obtain ⟨xs, q, _, _, _, hxl, hg⟩ := DataW.trod_struct Try.underlying82 ht
      match cs', hcl with
      | [c0, c1], _ =>
        have g0 := hg 0 _ rfl
        have g1 := hg 1 _ rfl
        simp only [List.getElem_toArray, List.getElem_cons_zero, List.getElem_cons_succ, intCells, List.drop_zero, List.drop_succ_cons, List.take_succ_cons, List.take_zero] at g0 g1
        have hz : xs.length = 2 := hxl
        obtain ⟨k, rfl, _⟩ := open_one Try.underlying3 (by omega) g0
        obtain ⟨p, rfl, _⟩ := open_one Try.underlying3 (by omega) g1
        exact ⟨(k, p), hat 0 (by omega), hat 1 (by omega)⟩
    obtain ⟨M, hL, hP⟩ := D.list_of (0, 0) _ len he
    refine ⟨_, len, cap, M, hcs, hl, hL.symm, by have : cap ≤ maxLen := hm; unfold maxLen at this; omega, fun h0 => ?_⟩
    obtain ⟨p0, _⟩ := hP 0 h0
    obtain rfl : spot = none := World.cell?_spot p0
    simp only [add_none, Nat.add_zero] at hP p0
    exact ⟨b, off, rfl, cell_lt p0, fun k hk => (hP k (by omega)).1, fun k hk => (hP k (by omega)).2⟩
theorem open_decs_cap {fuel : Nat} {a : Option Addr} {n c : Nat} {x : DataW H × List MemPlace} (h : DataW.trod enc Try.prog w base spare held fuel 22 [.slice a n c] = some x) : n ≤ c := by
  rcases open_slice Try.underlying22 h with ⟨hcs, _⟩ | ⟨a', len, cap, m, n', Dd, Pl, hcs, hb, hl, hm, hmm, hx, hi⟩
  · simp at hcs; omega
  · simp at hcs; omega
set_option maxRecDepth 100000 in
theorem open_cal_cap {fuel : Nat} {h m s d : Int} {a : Option Addr} {n c : Nat} {x : DataW H × List MemPlace} (hh : DataW.trod enc Try.prog w base spare held fuel 24 [.int .i64 h, .int .i64 m, .int .i64 s, .int .i64 d, .slice a n c] = some x) : n ≤ c := by
  obtain ⟨xs, k, _, _, hlen, hxl, hg⟩ := DataW.trod_struct Try.underlying24 hh
  have es : Try.prog.cellsOf 22 = 1 := by kernel_rfl
  have g4 := hg 4 _ rfl
  simp only [List.getElem_toArray, List.getElem_cons_zero, List.getElem_cons_succ, es, List.drop_zero, List.drop_succ_cons, List.take_succ_cons, List.take_zero] at g4
  have hz : xs.length = 5 := hxl
  rw [List.getElem?_eq_getElem (by omega)] at g4
  exact open_decs_cap g4
set_option maxRecDepth 100000 in
theorem open_TOWN {fuel : Nat} {cs : List Value} {x : DataW H × List MemPlace} (h : DataW.trod enc Try.prog w base spare held fuel 44 cs = some x) :
    ∃ ah a n c M, cs = [.int .i64 ah, .slice a n c] ∧ n ≤ c ∧ TownArg w a n c M ∧ D.in64 ah := by
  obtain ⟨xs, n, _, _, hlen, hxl, hg⟩ := DataW.trod_struct Try.underlying44 h
  have ec : Try.prog.cellsOf 44 = 2 := by kernel_rfl
  have es : Try.prog.cellsOf 42 = 1 := by kernel_rfl
  rw [ec] at hlen
  match cs, hlen with
  | [c0, c1], _ =>
    have g0 := hg 0 _ rfl
    have g1 := hg 1 _ rfl
    simp only [List.getElem_toArray, List.getElem_cons_zero, List.getElem_cons_succ, intCells, es, List.drop_zero, List.drop_succ_cons, List.take_succ_cons, List.take_zero] at g0 g1
    have hz : xs.length = 2 := hxl
    obtain ⟨a, rfl, wa⟩ := open_one Try.underlying3 (by omega) g0
    rw [List.getElem?_eq_getElem (by omega)] at g1
    obtain ⟨a', n', c', M, e, hc, B⟩ := open_chgs g1
    obtain rfl : c1 = .slice a' n' c' := by simpa using e
    exact ⟨a, a', n', c', M, rfl, hc, B, D.wf64 wa⟩
set_option maxRecDepth 100000 in
theorem open_Town {fuel : Nat} {cs : List Value} {x : DataW H × List MemPlace} (hh : DataW.trod enc Try.prog w base spare held fuel 46 cs = some x) :
    ∃ a n c L h m s d ah a' n' c' M, cs = [.int .i64 h, .int .i64 m, .int .i64 s, .int .i64 d, .slice a n c, .int .i64 ah, .slice a' n' c'] ∧ n ≤ c ∧ n' ≤ c' ∧ CalArg w a n c L ∧ TownArg w a' n' c' M ∧ D.in64 h ∧ D.in64 m ∧ D.in64 s ∧ D.in64 d ∧ D.in64 ah := by
  obtain ⟨xs, k, _, _, hlen, hxl, hg⟩ := DataW.trod_struct Try.underlying46 hh
  have ec : Try.prog.cellsOf 46 = 7 := by kernel_rfl
  have es : Try.prog.cellsOf 24 = 5 := by kernel_rfl
  have et : Try.prog.cellsOf 44 = 2 := by kernel_rfl
  rw [ec] at hlen
  match cs, hlen with
  | [c0, c1, c2, c3, c4, c5, c6], _ =>
    have g0 := hg 0 _ rfl
    have g1 := hg 1 _ rfl
    simp only [List.getElem_toArray, List.getElem_cons_zero, List.getElem_cons_succ, es, et, List.drop_zero, List.drop_succ_cons, List.take_succ_cons, List.take_zero] at g0 g1
    have hz : xs.length = 2 := hxl
    rw [List.getElem?_eq_getElem (by omega)] at g0 g1
    obtain ⟨a, n, c, L, h, m, s, d, e, A, i1, i2, i3, i4⟩ := open_cal g0
    obtain ⟨ah, a', n', c', M, e', hc', B, i5⟩ := open_TOWN g1
    simp at e e'
    obtain ⟨rfl, rfl, rfl, rfl, rfl⟩ := e
    obtain ⟨rfl, rfl⟩ := e'
    exact ⟨a, n, c, L, h, m, s, d, ah, a', n', c', M, rfl, open_cal_cap g0, hc', A, B, i1, i2, i3, i4, i5⟩
end

end Go.Proofs.Ytnkeofobhlafkaa
