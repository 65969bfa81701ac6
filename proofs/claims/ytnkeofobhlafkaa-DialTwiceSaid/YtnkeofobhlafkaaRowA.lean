import Derived.Test.YtnkeofobhlafkaaLawB
import Derived.ProofKit
import Derived.OpenShut
import Derived.Deep.Slices
import Derived.Lib.SmallJoins
/- How the laws' arguments are opened: readings, calendars, towns. -/
namespace Go.Proofs.Ytnkeofobhlafkaa
open Go.ChangeShapes Go.WideShapes Go.RowKit Go.Deep

theorem D.list_of {α : Type} (d : α) (P : Nat → α → Prop) (n : Nat) (h : ∀ i, i < n → ∃ z, P i z) : ∃ L : List α, L.length = n ∧ ∀ i, i < n → P i (L.getD i d) := by
  induction n with
  | zero => exact ⟨[], rfl, fun i hi => absurd hi (by omega)⟩
  | succ n ih =>
    obtain ⟨L, hl, hL⟩ := ih (fun i hi => h i (by omega))
    obtain ⟨z, hz⟩ := h n (by omega)
    refine ⟨L ++ [z], by simp [hl], fun i hi => ?_⟩
    by_cases e : i < n
    · have := hL i e
      rwa [List.getD_eq_getElem?_getD, List.getElem?_append_left (by omega), ← List.getD_eq_getElem?_getD]
    · obtain rfl : i = n := by omega
      rw [List.getD_eq_getElem?_getD, List.getElem?_append_right (by omega), hl]
      simpa using hz
theorem cell_lt {w : World} {a : Addr} {v : Value} (h : w.cell? a = some v) : a.block < w.heap.size := by
  by_cases e : a.block < w.heap.size
  · exact e
  · have : w.heap[a.block]? = none := by simp; omega
    unfold World.cell? at h
    rw [this] at h
    simp at h
theorem add_none (b off k : Nat) : (⟨b, off, none⟩ : Addr).add k = ⟨b, off + k, none⟩ := by
  unfold Addr.add
  split
  · rename_i h; subst h; rfl
  · rfl
theorem D.wf64 {a : Int} (h : (Lit.int .i64 a).wf = true) : D.in64 a :=
  bounds_i64 h
theorem rdTyped : Try.prog.cellsOf 4 = 1 := by kernel_rfl

section
variable {H : Type} {enc : TypeId × Value → H} {w : World} {base : Nat} {spare : Nat → Bool} {held : Bool}
theorem open_one {t : TypeId} {k : IntKind} (ht : Try.prog.underlying t = some (.int k)) {fuel : Nat} {c : Value} {xs : List (DataW H × List MemPlace)} {i : Nat} (hi : i < xs.length) (h : DataW.trod enc Try.prog w base spare held fuel t [c] = xs[i]?) : ∃ n, c = .int k n ∧ (Lit.int k n).wf = true := by
  rw [List.getElem?_eq_getElem hi] at h
  obtain ⟨n, e, _, wf⟩ := DataW.trod_int ht h
  exact ⟨n, by simpa using e, wf⟩
set_option maxRecDepth 100000 in
theorem open_rd {fuel : Nat} {cs : List Value} {x : DataW H × List MemPlace} (h : DataW.trod enc Try.prog w base spare held fuel 27 cs = some x) :
    ∃ a b c q, cs = [.int .i64 a, .int .i64 b, .int .i64 c, .int .i64 q] ∧ D.in64 a ∧ D.in64 b ∧ D.in64 c ∧ D.in64 q := by
  obtain ⟨xs, n, _, _, hlen, hxl, hg⟩ := DataW.trod_struct Try.underlying27 h
  rw [rdCells] at hlen
  match cs, hlen with
  | [c0, c1, c2, c3], _ =>
    have g0 := hg 0 _ rfl
    have g1 := hg 1 _ rfl
    have g2 := hg 2 _ rfl
    have g3 := hg 3 _ rfl
    simp only [List.getElem_toArray, List.getElem_cons_zero, List.getElem_cons_succ, intCells, List.drop_zero, List.drop_succ_cons, List.take_succ_cons, List.take_zero] at g0 g1 g2 g3
    have hz : xs.length = 4 := hxl
    obtain ⟨a, rfl, wa⟩ := open_one Try.underlying3 (by omega) g0
    obtain ⟨b, rfl, wb⟩ := open_one Try.underlying3 (by omega) g1
    obtain ⟨c, rfl, wc⟩ := open_one Try.underlying3 (by omega) g2
    obtain ⟨q, rfl, wq⟩ := open_one Try.underlying3 (by omega) g3
    exact ⟨a, b, c, q, rfl, D.wf64 wa, D.wf64 wb, D.wf64 wc, D.wf64 wq⟩
set_option maxRecDepth 100000 in
theorem open_decs {fuel : Nat} {cs : List Value} {x : DataW H × List MemPlace} (h : DataW.trod enc Try.prog w base spare held fuel 22 cs = some x) :
    ∃ a n c L, cs = [.slice a n c] ∧ CalArg w a n c L := by
  rcases open_slice Try.underlying22 h with ⟨hcs, _⟩ | ⟨a, len, cap, m, n, Dd, Pl, hcs, hb, hl, hm, hmm, hx, hi⟩
  · exact ⟨none, 0, 0, [], hcs, rfl, by omega, fun h => absurd h (by omega)⟩
  · have hml : len ≤ m := by rw [hmm]; split <;> omega
    have ec : Try.prog.cellsOf 64 = 2 := by kernel_rfl
    obtain ⟨b, off, spot⟩ := a
    have he : ∀ i, i < len → ∃ z : Int × Bool, w.cell? (((⟨b, off, spot⟩ : Addr).add (i * 2)).add 0) = some (.int .i64 z.1) ∧ w.cell? (((⟨b, off, spot⟩ : Addr).add (i * 2)).add 1) = some (.bool z.2) := fun i hlt => by
      obtain ⟨cs', hc, ht⟩ := hi i (by omega)
      rw [ec] at hc
      obtain ⟨_, hcl, hat⟩ := World.cells?_some hc
      obtain ⟨xs, q, _, _, _, hxl, hg⟩ := DataW.trod_struct Try.underlying64 ht
      match cs', hcl with
      | [c0, c1], _ =>
        have g0 := hg 0 _ rfl
        have g1 := hg 1 _ rfl
        simp only [List.getElem_toArray, List.getElem_cons_zero, List.getElem_cons_succ, intCells, rdTyped, List.drop_zero, List.drop_succ_cons, List.take_succ_cons, List.take_zero] at g0 g1
        have hz : xs.length = 2 := hxl
        obtain ⟨k, rfl, _⟩ := open_one Try.underlying3 (by omega) g0
        rw [List.getElem?_eq_getElem (by omega)] at g1
        obtain ⟨p, e1, _⟩ := DataW.trod_bool Try.underlying4 g1
        obtain rfl : c1 = .bool p := by simpa using e1
        exact ⟨(k, p), hat 0 (by omega), hat 1 (by omega)⟩
    obtain ⟨L, hL, hP⟩ := D.list_of (0, false) _ len he
    refine ⟨_, len, cap, L, hcs, hL.symm, by have : cap ≤ maxLen := hm; unfold maxLen at this; omega, fun h0 => ?_⟩
    obtain ⟨p0, _⟩ := hP 0 h0
    obtain rfl : spot = none := World.cell?_spot p0
    simp only [add_none, Nat.add_zero] at hP p0
    exact ⟨b, off, rfl, cell_lt p0, fun k hk => (hP k (by omega)).1, fun k hk => (hP k (by omega)).2⟩
set_option maxRecDepth 100000 in
theorem open_cal {fuel : Nat} {cs : List Value} {x : DataW H × List MemPlace} (h : DataW.trod enc Try.prog w base spare held fuel 24 cs = some x) :
    ∃ a n c L h m s d, cs = [.int .i64 h, .int .i64 m, .int .i64 s, .int .i64 d, .slice a n c] ∧ CalArg w a n c L ∧ D.in64 h ∧ D.in64 m ∧ D.in64 s ∧ D.in64 d := by
  obtain ⟨xs, n, _, _, hlen, hxl, hg⟩ := DataW.trod_struct Try.underlying24 h
  have ec : Try.prog.cellsOf 24 = 5 := by kernel_rfl
  have es : Try.prog.cellsOf 22 = 1 := by kernel_rfl
  rw [ec] at hlen
  match cs, hlen with
  | [c0, c1, c2, c3, c4], _ =>
    have g0 := hg 0 _ rfl
    have g1 := hg 1 _ rfl
    have g2 := hg 2 _ rfl
    have g3 := hg 3 _ rfl
    have g4 := hg 4 _ rfl
    simp only [List.getElem_toArray, List.getElem_cons_zero, List.getElem_cons_succ, intCells, es, List.drop_zero, List.drop_succ_cons, List.take_succ_cons, List.take_zero] at g0 g1 g2 g3 g4
    have hz : xs.length = 5 := hxl
    obtain ⟨a, rfl, wa⟩ := open_one Try.underlying3 (by omega) g0
    obtain ⟨b, rfl, wb⟩ := open_one Try.underlying3 (by omega) g1
    obtain ⟨c, rfl, wc⟩ := open_one Try.underlying3 (by omega) g2
    obtain ⟨q, rfl, wq⟩ := open_one Try.underlying3 (by omega) g3
    rw [List.getElem?_eq_getElem (by omega)] at g4
    obtain ⟨a', n', c', L, e, A⟩ := open_decs g4
    obtain rfl : c4 = .slice a' n' c' := by simpa using e
    exact ⟨a', n', c', L, a, b, c, q, rfl, A, D.wf64 wa, D.wf64 wb, D.wf64 wc, D.wf64 wq⟩
set_option maxRecDepth 100000 in
theorem open_rd3 {fuel : Nat} {cs : List Value} {x : DataW H × List MemPlace} (h : DataW.trod enc Try.prog w base spare held fuel 67 cs = some x) :
    ∃ a0 a1 a2 a3 b0 b1 b2 b3 c0 c1 c2 c3, cs = [.int .i64 a0, .int .i64 a1, .int .i64 a2, .int .i64 a3, .int .i64 b0, .int .i64 b1, .int .i64 b2, .int .i64 b3, .int .i64 c0, .int .i64 c1, .int .i64 c2, .int .i64 c3] := by
  obtain ⟨xs, m, _, _, hlen, hxl, hg⟩ := DataW.trod_array Try.underlying67 h
  have ec : Try.prog.cellsOf 67 = 12 := by kernel_rfl
  rw [ec] at hlen
  have g0 := hg 0 (by omega)
  have g1 := hg 1 (by omega)
  have g2 := hg 2 (by omega)
  rw [List.getElem?_eq_getElem (by omega), rdCells] at g0 g1 g2
  match cs, hlen with
  | [v0, v1, v2, v3, v4, v5, v6, v7, v8, v9, v10, v11], _ =>
    obtain ⟨a0, a1, a2, a3, e0, _⟩ := open_rd g0
    obtain ⟨b0, b1, b2, b3, e1, _⟩ := open_rd g1
    obtain ⟨d0, d1, d2, d3, e2, _⟩ := open_rd g2
    simp at e0 e1 e2
    obtain ⟨rfl, rfl, rfl, rfl⟩ := e0
    obtain ⟨rfl, rfl, rfl, rfl⟩ := e1
    obtain ⟨rfl, rfl, rfl, rfl⟩ := e2
    exact ⟨_, _, _, _, _, _, _, _, _, _, _, _, rfl⟩
end

end Go.Proofs.Ytnkeofobhlafkaa

/- How the laws' arguments are opened, more of it. -/
namespace Go.Proofs.Ytnkeofobhlafkaa
open Go.ChangeShapes Go.WideShapes Go.RowKit Go.Deep

theorem ownKnob_0 : ownKnob Try.prog.godebug = none := by kernel_rfl
theorem laidOut_0 : laidOutB Try.prog = true := by kernel_rfl
set_option maxRecDepth 100000 in
theorem agg_of_struct {t : TypeId} {fs : Array Field} (ht : Try.prog.underlying t = some (.struct fs)) {w : World} {r : Reach} {b : Nat} {v : Value} (h : Value.okWide Try.prog w r b t v) : ∃ cs, v = .agg cs := by
  simp only [Value.okWide, ht] at h
  obtain ⟨cs, e1, _, _⟩ := h
  exact ⟨cs, e1⟩
set_option maxRecDepth 100000 in
theorem agg_of_array {t e : TypeId} {k : Nat} (ht : Try.prog.underlying t = some (.array k e)) {w : World} {r : Reach} {b : Nat} {v : Value} (h : Value.okWide Try.prog w r b t v) : ∃ cs, v = .agg cs := by
  simp only [Value.okWide, ht] at h
  obtain ⟨cs, e1, _, _⟩ := h
  exact ⟨cs, e1⟩

section
variable {H : Type} {enc : TypeId × Value → H} {w : World} {base : Nat} {spare : Nat → Bool} {held : Bool}
set_option maxRecDepth 100000 in
theorem open_int2 {fuel : Nat} {cs : List Value} {x : DataW H × List MemPlace} (h : DataW.trod enc Try.prog w base spare held fuel 25 cs = some x) :
    ∃ a b, cs = [.int .i64 a, .int .i64 b] ∧ D.in64 a ∧ D.in64 b := by
  obtain ⟨xs, m, _, _, hlen, hxl, hg⟩ := DataW.trod_array Try.underlying25 h
  have ec : Try.prog.cellsOf 25 = 2 := by kernel_rfl
  rw [ec] at hlen
  have g0 := hg 0 (by omega)
  have g1 := hg 1 (by omega)
  rw [intCells] at g0 g1
  match cs, hlen with
  | [v0, v1], _ =>
    simp only [Nat.zero_mul, Nat.one_mul, List.drop_zero, List.drop_succ_cons, List.take_succ_cons, List.take_zero] at g0 g1
    obtain ⟨a, rfl, wa⟩ := open_one Try.underlying3 (by omega) g0
    obtain ⟨b, rfl, wb⟩ := open_one Try.underlying3 (by omega) g1
    exact ⟨a, b, rfl, D.wf64 wa, D.wf64 wb⟩
end

end Go.Proofs.Ytnkeofobhlafkaa

/- How three numbers are opened. -/
namespace Go.Proofs.Ytnkeofobhlafkaa
open Go.ChangeShapes Go.WideShapes Go.RowKit Go.Deep

set_option maxRecDepth 100000 in
theorem open_int3 {H : Type} {enc : TypeId × Value → H} {w : World} {base : Nat} {spare : Nat → Bool} {held : Bool} {fuel : Nat} {cs : List Value} {x : DataW H × List MemPlace} (h : DataW.trod enc Try.prog w base spare held fuel 69 cs = some x) :
    ∃ a b c, cs = [.int .i64 a, .int .i64 b, .int .i64 c] := by
  obtain ⟨xs, m, _, _, hlen, hxl, hg⟩ := DataW.trod_array Try.underlying69 h
  have ec : Try.prog.cellsOf 69 = 3 := by kernel_rfl
  rw [ec] at hlen
  have g0 := hg 0 (by omega)
  have g1 := hg 1 (by omega)
  have g2 := hg 2 (by omega)
  rw [intCells] at g0 g1 g2
  match cs, hlen with
  | [v0, v1, v2], _ =>
    simp only [Nat.mul_one, List.drop_zero, List.drop_succ_cons, List.take_succ_cons, List.take_zero] at g0 g1 g2
    obtain ⟨a, rfl, _⟩ := open_one Try.underlying3 (by omega) g0
    obtain ⟨b, rfl, _⟩ := open_one Try.underlying3 (by omega) g1
    obtain ⟨c, rfl, _⟩ := open_one Try.underlying3 (by omega) g2
    exact ⟨a, b, c, rfl⟩

end Go.Proofs.Ytnkeofobhlafkaa
