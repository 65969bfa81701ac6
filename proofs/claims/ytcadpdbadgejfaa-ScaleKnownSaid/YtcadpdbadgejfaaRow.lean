import Derived.Test.YtcadpdbadgejfaaLwG
import Derived.ProofKit
import Derived.OpenShut
import Derived.Deep.Slices
import Derived.Lib.SmallJoins
/- How the laws' arguments are opened: rules, lists of numbers, looks, books. -/
namespace Go.Proofs.Ytcadpdbadgejfaa
open Go.ChangeShapes Go.WideShapes Go.RowKit Go.Deep

set_option maxRecDepth 100000
theorem ownKnob_0 : ownKnob Try.prog.godebug = none := by kernel_rfl
theorem laidOut_0 : laidOutB Try.prog = true := by kernel_rfl
theorem agg_of_struct {t : TypeId} {fs : Array Field} (ht : Try.prog.underlying t = some (.struct fs)) {w : World} {r : Reach} {b : Nat} {v : Value} (h : Value.okWide Try.prog w r b t v) : ∃ cs, v = .agg cs := by
  simp only [Value.okWide, ht] at h
  obtain ⟨cs, e1, _, _⟩ := h
  exact ⟨cs, e1⟩
theorem agg_of_array {t e : TypeId} {k : Nat} (ht : Try.prog.underlying t = some (.array k e)) {w : World} {r : Reach} {b : Nat} {v : Value} (h : Value.okWide Try.prog w r b t v) : ∃ cs, v = .agg cs := by
  simp only [Value.okWide, ht] at h
  obtain ⟨cs, e1, _, _⟩ := h
  exact ⟨cs, e1⟩
theorem slice_of {t e : TypeId} (ht : Try.prog.underlying t = some (.slice e)) {w : World} {r : Reach} {b : Nat} {v : Value} (h : Value.okWide Try.prog w r b t v) : ∃ a n c, v = .slice a n c := by
  simp only [Value.okWide, ht, Cell.okWide] at h
  cases v <;> simp_all [Cell.ok]
theorem D.list_of {α : Type} (d : α) (P : Nat → α → Prop) (n : Nat) (h : ∀ i, i < n → ∃ z, P i z) : ∃ L : List α, L.length = n ∧ ∀ i, i < n → P i (L.getD i d) := by
  induction n with
  | zero => exact ⟨[], rfl, fun i hi => absurd hi (by omega)⟩
  | succ n ih =>
    obtain ⟨L, hl, hL⟩ := ih (fun i hi => h i (by omega))
    obtain ⟨z, hz⟩ := h n (by omega)
    refine ⟨L ++ [z], by simp [hl], fun i hi => ?_⟩
    by_cases e : i < n
    · have := hL i e
      rwa [List.getD_eq_getElem?_getD, List.getElem?_append_left (by omega), ← List.getD_eq_getElem?_getD]
    · obtain rfl : i = n := by omega
      rw [List.getD_eq_getElem?_getD, List.getElem?_append_right (by omega), hl]
      simpa using hz
theorem cell_lt {w : World} {a : Addr} {v : Value} (h : w.cell? a = some v) : a.block < w.heap.size := by
  by_cases e : a.block < w.heap.size
  · exact e
  · have : w.heap[a.block]? = none := by simp; omega
    unfold World.cell? at h
    rw [this] at h
    simp at h
theorem add_none (b off k : Nat) : (⟨b, off, none⟩ : Addr).add k = ⟨b, off + k, none⟩ := D.add_at b off k
theorem D.wf64 {a : Int} (h : (Lit.int .i64 a).wf = true) : D.in64 a := bounds_i64 h

section
variable {H : Type} {enc : TypeId × Value → H} {w : World} {base : Nat} {spare : Nat → Bool} {held : Bool}
theorem open_one {t : TypeId} {k : IntKind} (ht : Try.prog.underlying t = some (.int k)) {fuel : Nat} {c : Value} {xs : List (DataW H × List MemPlace)} {i : Nat} (hi : i < xs.length) (h : DataW.trod enc Try.prog w base spare held fuel t [c] = xs[i]?) : ∃ n, c = .int k n ∧ (Lit.int k n).wf = true := by
  rw [List.getElem?_eq_getElem hi] at h
  obtain ⟨n, e, _, wf⟩ := DataW.trod_int ht h
  exact ⟨n, by simpa using e, wf⟩
theorem spanCells : Try.prog.cellsOf 23 = 2 := by kernel_rfl
theorem open_span {fuel : Nat} {cs : List Value} {x : DataW H × List MemPlace} (h : DataW.trod enc Try.prog w base spare held fuel 23 cs = some x) :
    ∃ a b, cs = [.int .i64 a, .int .i64 b] ∧ D.in64 a ∧ D.in64 b := by
  obtain ⟨xs, n, _, _, hlen, hxl, hg⟩ := DataW.trod_struct Try.underlying23 h
  rw [spanCells] at hlen
  match cs, hlen with
  | [c0, c1], _ =>
    have g0 := hg 0 _ rfl
    have g1 := hg 1 _ rfl
    simp only [List.getElem_toArray, List.getElem_cons_zero, List.getElem_cons_succ, intCells, List.drop_zero, List.drop_succ_cons, List.take_succ_cons, List.take_zero] at g0 g1
    have hz : xs.length = 2 := hxl
    obtain ⟨a, rfl, wa⟩ := open_one Try.underlying3 (by omega) g0
    obtain ⟨b, rfl, wb⟩ := open_one Try.underlying3 (by omega) g1
    exact ⟨a, b, rfl, D.wf64 wa, D.wf64 wb⟩
theorem open_rule {fuel : Nat} {cs : List Value} {x : DataW H × List MemPlace} (h : DataW.trod enc Try.prog w base spare held fuel 25 cs = some x) :
    ∃ f s j dl dh, cs = [.int .i64 f, .int .i64 s, .int .i64 j, .int .i64 dl, .int .i64 dh] := by
  obtain ⟨xs, n, _, _, hlen, hxl, hg⟩ := DataW.trod_struct Try.underlying25 h
  have ec : Try.prog.cellsOf 25 = 5 := by kernel_rfl
  rw [ec] at hlen
  match cs, hlen with
  | [c0, c1, c2, c3, c4], _ =>
    have g0 := hg 0 _ rfl
    have g1 := hg 1 _ rfl
    have g2 := hg 2 _ rfl
    have g3 := hg 3 _ rfl
    simp only [List.getElem_toArray, List.getElem_cons_zero, List.getElem_cons_succ, intCells, spanCells, List.drop_zero, List.drop_succ_cons, List.take_succ_cons, List.take_zero] at g0 g1 g2 g3
    have hz : xs.length = 4 := hxl
    obtain ⟨a, rfl, _⟩ := open_one Try.underlying3 (by omega) g0
    obtain ⟨b, rfl, _⟩ := open_one Try.underlying3 (by omega) g1
    obtain ⟨c, rfl, _⟩ := open_one Try.underlying3 (by omega) g2
    rw [List.getElem?_eq_getElem (by omega)] at g3
    obtain ⟨l, u, e, _, _⟩ := open_span g3
    simp at e
    obtain ⟨rfl, rfl⟩ := e
    exact ⟨a, b, c, l, u, rfl⟩
theorem open_arr4 {fuel : Nat} {cs : List Value} {x : DataW H × List MemPlace} (h : DataW.trod enc Try.prog w base spare held fuel 65 cs = some x) :
    ∃ a b c d, cs = [.int .i64 a, .int .i64 b, .int .i64 c, .int .i64 d] := by
  obtain ⟨xs, m, _, _, hlen, hxl, hg⟩ := DataW.trod_array Try.underlying65 h
  have ec : Try.prog.cellsOf 65 = 4 := by kernel_rfl
  rw [ec] at hlen
  have g0 := hg 0 (by omega)
  have g1 := hg 1 (by omega)
  have g2 := hg 2 (by omega)
  have g3 := hg 3 (by omega)
  rw [intCells] at g0 g1 g2 g3
  match cs, hlen with
  | [v0, v1, v2, v3], _ =>
    obtain ⟨a, rfl, _⟩ := open_one Try.underlying3 (by omega) g0
    obtain ⟨b, rfl, _⟩ := open_one Try.underlying3 (by omega) g1
    obtain ⟨c, rfl, _⟩ := open_one Try.underlying3 (by omega) g2
    obtain ⟨d, rfl, _⟩ := open_one Try.underlying3 (by omega) g3
    exact ⟨a, b, c, d, rfl⟩
theorem open_arr2 {fuel : Nat} {cs : List Value} {x : DataW H × List MemPlace} (h : DataW.trod enc Try.prog w base spare held fuel 36 cs = some x) :
    ∃ a b, cs = [.int .i64 a, .int .i64 b] := by
  obtain ⟨xs, m, _, _, hlen, hxl, hg⟩ := DataW.trod_array Try.underlying36 h
  have ec : Try.prog.cellsOf 36 = 2 := by kernel_rfl
  rw [ec] at hlen
  have g0 := hg 0 (by omega)
  have g1 := hg 1 (by omega)
  rw [intCells] at g0 g1
  match cs, hlen with
  | [v0, v1], _ =>
    obtain ⟨a, rfl, _⟩ := open_one Try.underlying3 (by omega) g0
    obtain ⟨b, rfl, _⟩ := open_one Try.underlying3 (by omega) g1
    exact ⟨a, b, rfl⟩
theorem open_ints {fuel : Nat} {cs : List Value} {x : DataW H × List MemPlace} (h : DataW.trod enc Try.prog w base spare held fuel 26 cs = some x) :
    ∃ a n c L, cs = [.slice a n c] ∧ Ints w (.slice a n c) L := by
  rcases open_slice Try.underlying26 h with ⟨hcs, _⟩ | ⟨a, len, cap, m, n, Dd, Pl, hcs, hb, hl, hm, hmm, hx, hi⟩
  · exact ⟨none, 0, 0, [], hcs, Ints.nil w⟩
  · have hml : len ≤ m := by rw [hmm]; split <;> omega
    obtain ⟨b, off, spot⟩ := a
    have he : ∀ i, i < len → ∃ z : Int, w.cell? (((⟨b, off, spot⟩ : Addr).add (i * 1)).add 0) = some (.int .i64 z) := fun i hlt => by
      obtain ⟨cs', hc, ht⟩ := hi i (by omega)
      rw [intCells] at hc
      obtain ⟨_, hcl, hat⟩ := World.cells?_some hc
      match cs', hcl with
      | [c0], _ =>
        obtain ⟨z, e, _⟩ := DataW.trod_int Try.underlying3 ht
        obtain rfl : c0 = .int .i64 z := by simpa using e
        exact ⟨z, hat 0 (by omega)⟩
    obtain ⟨L, hL, hP⟩ := D.list_of (0 : Int) _ len he
    have hlen : L.length = len := hL
    refine ⟨_, len, cap, L, hcs, ⟨_, cap, by rw [hlen], by omega, by have : cap ≤ maxLen := hm; unfold maxLen at this; omega, fun h0 => ?_⟩⟩
    have p0 := hP 0 (by omega)
    obtain rfl : spot = none := World.cell?_spot p0
    simp only [add_none, Nat.add_zero, Nat.mul_one] at hP p0
    exact ⟨b, off, rfl, cell_lt p0, fun k hk => hP k (by omega)⟩
theorem open_int_arg {r : Reach} {b0 : Nat} {v : Value} {fuel : Nat} {x : DataW H × List MemPlace} (hval : Value.okWide Try.prog w r b0 3 v) (_ : DataW.trod enc Try.prog w base spare held fuel 3 v.cells.toList = some x) : ∃ n, v = .int .i64 n := okWide_int Try.underlying3 hval
theorem open_ints_arg {r : Reach} {b0 : Nat} {v : Value} {fuel : Nat} {x : DataW H × List MemPlace} (hval : Value.okWide Try.prog w r b0 26 v) (h : DataW.trod enc Try.prog w base spare held fuel 26 v.cells.toList = some x) : ∃ a n c L, v = .slice a n c ∧ Ints w (.slice a n c) L := by
  obtain ⟨a, n, c, rfl⟩ := slice_of Try.underlying26 hval
  obtain ⟨a', n', c', L, e, I⟩ := open_ints h
  obtain ⟨rfl, rfl, rfl⟩ : a = a' ∧ n = n' ∧ c = c' := by simpa [Value.cells] using e
  exact ⟨_, _, _, L, rfl, I⟩
theorem open_look {fuel : Nat} {cs : List Value} {x : DataW H × List MemPlace} (h : DataW.trod enc Try.prog w base spare held fuel 71 cs = some x) :
    ∃ a b c, cs = [.int .i64 a, .int .i64 b, .int .i64 c] := by
  obtain ⟨xs, n, _, _, hlen, hxl, hg⟩ := DataW.trod_struct Try.underlying71 h
  have ec : Try.prog.cellsOf 71 = 3 := by kernel_rfl
  rw [ec] at hlen
  match cs, hlen with
  | [c0, c1, c2], _ =>
    have g0 := hg 0 _ rfl
    have g1 := hg 1 _ rfl
    simp only [List.getElem_toArray, List.getElem_cons_zero, List.getElem_cons_succ, intCells, spanCells, List.drop_zero, List.drop_succ_cons, List.take_succ_cons, List.take_zero] at g0 g1
    have hz : xs.length = 2 := hxl
    obtain ⟨a, rfl, _⟩ := open_one Try.underlying3 (by omega) g0
    rw [List.getElem?_eq_getElem (by omega)] at g1
    obtain ⟨l, u, e, _, _⟩ := open_span g1
    simp at e
    obtain ⟨rfl, rfl⟩ := e
    exact ⟨a, l, u, rfl⟩
theorem open_looks {fuel : Nat} {cs : List Value} {x : DataW H × List MemPlace} (h : DataW.trod enc Try.prog w base spare held fuel 42 cs = some x) :
    ∃ a n c L, cs = [.slice a n c] ∧ Lks w (.slice a n c) L := by
  rcases open_slice Try.underlying42 h with ⟨hcs, _⟩ | ⟨a, len, cap, m, n, Dd, Pl, hcs, hb, hl, hm, hmm, hx, hi⟩
  · exact ⟨none, 0, 0, [], hcs, ⟨_, _, rfl, Nat.le_refl _, by simp, fun h => by simp at h⟩⟩
  · have hml : len ≤ m := by rw [hmm]; split <;> omega
    have ec : Try.prog.cellsOf 71 = 3 := by kernel_rfl
    obtain ⟨b, off, spot⟩ := a
    have he : ∀ i, i < len → ∃ z : Int × Int × Int, w.cell? (((⟨b, off, spot⟩ : Addr).add (i * 3)).add 0) = some (.int .i64 z.1) ∧ w.cell? (((⟨b, off, spot⟩ : Addr).add (i * 3)).add 1) = some (.int .i64 z.2.1) ∧ w.cell? (((⟨b, off, spot⟩ : Addr).add (i * 3)).add 2) = some (.int .i64 z.2.2) := fun i hlt => by
      obtain ⟨cs', hc, ht⟩ := hi i (by omega)
      rw [ec] at hc
      obtain ⟨_, hcl, hat⟩ := World.cells?_some hc
      obtain ⟨a, b, c, rfl⟩ := open_look ht
      exact ⟨(a, b, c), hat 0 (by omega), hat 1 (by omega), hat 2 (by omega)⟩
    obtain ⟨L, hL, hP⟩ := D.list_of (0, 0, 0) _ len he
    have hlen : L.length = len := hL
    refine ⟨_, len, cap, L, hcs, ⟨_, cap, by rw [hlen], by omega, by have : cap ≤ maxLen := hm; unfold maxLen at this; omega, fun h0 => ?_⟩⟩
    obtain ⟨p0, _⟩ := hP 0 (by omega)
    obtain rfl : spot = none := World.cell?_spot p0
    simp only [add_none, Nat.add_zero] at hP p0
    exact ⟨b, off, rfl, cell_lt p0, fun k hk => hP k (by omega)⟩
theorem open_book {fuel : Nat} {cs : List Value} {x : DataW H × List MemPlace} (h : DataW.trod enc Try.prog w base spare held fuel 44 cs = some x) :
    ∃ f s j dl dh t a n c xs a' n' c' ls, cs = [.int .i64 f, .int .i64 s, .int .i64 j, .int .i64 dl, .int .i64 dh, .int .i64 t, .slice a n c, .slice a' n' c'] ∧ Ints w (.slice a n c) xs ∧ Lks w (.slice a' n' c') ls := by
  obtain ⟨xs, n, _, _, hlen, hxl, hg⟩ := DataW.trod_struct Try.underlying44 h
  have ec : Try.prog.cellsOf 44 = 8 := by kernel_rfl
  have er : Try.prog.cellsOf 25 = 5 := by kernel_rfl
  have es : Try.prog.cellsOf 26 = 1 := by kernel_rfl
  have el : Try.prog.cellsOf 42 = 1 := by kernel_rfl
  rw [ec] at hlen
  match cs, hlen with
  | [c0, c1, c2, c3, c4, c5, c6, c7], _ =>
    have g0 := hg 0 _ rfl
    have g1 := hg 1 _ rfl
    have g2 := hg 2 _ rfl
    have g3 := hg 3 _ rfl
    simp only [List.getElem_toArray, List.getElem_cons_zero, List.getElem_cons_succ, intCells, er, es, el, List.drop_zero, List.drop_succ_cons, List.take_succ_cons, List.take_zero] at g0 g1 g2 g3
    have hz : xs.length = 4 := hxl
    rw [List.getElem?_eq_getElem (by omega)] at g0 g2 g3
    obtain ⟨f, s, j, dl, dh, e0⟩ := open_rule g0
    obtain ⟨t, rfl, _⟩ := open_one Try.underlying3 (by omega) g1
    obtain ⟨a, n, c, L, e2, I⟩ := open_ints g2
    obtain ⟨a', n', c', L', e3, I'⟩ := open_looks g3
    simp at e0 e2 e3
    obtain ⟨rfl, rfl, rfl, rfl, rfl⟩ := e0
    obtain rfl := e2
    obtain rfl := e3
    exact ⟨f, s, j, dl, dh, t, a, n, c, L, a', n', c', L', rfl, I, I'⟩
end

end Go.Proofs.Ytcadpdbadgejfaa
