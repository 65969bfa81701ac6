import Derived.Test.YtlpkheoljbdajaaTel
import Derived.ProofKit
import Derived.OpenShut
import Derived.Deep.Slices
import Derived.Lib.SmallJoins
/- How the laws' arguments are opened: numbers, arrays of numbers, lists, books, looks, truths. -/
namespace Go.Proofs.Ytlpkheoljbdajaa
open Go.ChangeShapes Go.WideShapes Go.RowKit Go.Deep

set_option maxRecDepth 100000
theorem ownKnob_0 : ownKnob Try.prog.godebug = none := by kernel_rfl
theorem laidOut_0 : laidOutB Try.prog = true := by kernel_rfl
theorem agg_of_struct {t : TypeId} {fs : Array Field} (ht : Try.prog.underlying t = some (.struct fs)) {w : World} {r : Reach} {b : Nat} {v : Value} (h : Value.okWide Try.prog w r b t v) : ∃ cs, v = .agg cs := by
  simp only [Value.okWide, ht] at h
  obtain ⟨cs, e1, _, _⟩ := h
  exact ⟨cs, e1⟩
theorem agg_of_array {t e : TypeId} {k : Nat} (ht : Try.prog.underlying t = some (.array k e)) {w : World} {r : Reach} {b : Nat} {v : Value} (h : Value.okWide Try.prog w r b t v) : ∃ cs, v = .agg cs := by
  simp only [Value.okWide, ht] at h
  obtain ⟨cs, e1, _, _⟩ := h
  exact ⟨cs, e1⟩
theorem slice_of {t e : TypeId} (ht : Try.prog.underlying t = some (.slice e)) {w : World} {r : Reach} {b : Nat} {v : Value} (h : Value.okWide Try.prog w r b t v) : ∃ a n c, v = .slice a n c := by
  simp only [Value.okWide, ht, Cell.okWide] at h
  cases v <;> simp_all [Cell.ok]
theorem D.list_of {α : Type} (d : α) (P : Nat → α → Prop) (n : Nat) (h : ∀ i, i < n → ∃ z, P i z) : ∃ L : List α, L.length = n ∧ ∀ i, i < n → P i (L.getD i d) := by
  induction n with
  | zero => exact ⟨[], rfl, fun i hi => absurd hi (by omega)⟩
  | succ n ih =>
    obtain ⟨L, hl, hL⟩ := ih (fun i hi => h i (by omega))
    obtain ⟨z, hz⟩ := h n (by omega)
    refine ⟨L ++ [z], by simp [hl], fun i hi => ?_⟩
    by_cases e : i < n
    · have := hL i e
      rwa [List.getD_eq_getElem?_getD, List.getElem?_append_left (by omega), ← List.getD_eq_getElem?_getD]
    · obtain rfl : i = n := by omega
      rw [List.getD_eq_getElem?_getD, List.getElem?_append_right (by omega), hl]
      simpa using hz
theorem cell_lt {w : World} {a : Addr} {v : Value} (h : w.cell? a = some v) : a.block < w.heap.size := by
  by_cases e : a.block < w.heap.size
  · exact e
  · have : w.heap[a.block]? = none := by simp; omega
    unfold World.cell? at h
    rw [this] at h
    simp at h
theorem add_none (b off k : Nat) : (⟨b, off, none⟩ : Addr).add k = ⟨b, off + k, none⟩ := D.add_at b off k
theorem D.wf64 {a : Int} (h : (Lit.int .i64 a).wf = true) : D.in64 a := bounds_i64 h

section
variable {H : Type} {enc : TypeId × Value → H} {w : World} {base : Nat} {spare : Nat → Bool} {held : Bool}
theorem open_one {t : TypeId} {k : IntKind} (ht : Try.prog.underlying t = some (.int k)) {fuel : Nat} {c : Value} {xs : List (DataW H × List MemPlace)} {i : Nat} (hi : i < xs.length) (h : DataW.trod enc Try.prog w base spare held fuel t [c] = xs[i]?) : ∃ n, c = .int k n ∧ (Lit.int k n).wf = true := by
  rw [List.getElem?_eq_getElem hi] at h
  obtain ⟨n, e, _, wf⟩ := DataW.trod_int ht h
  exact ⟨n, by simpa using e, wf⟩
theorem spanCells : Try.prog.cellsOf 23 = 2 := by kernel_rfl
theorem open_span {fuel : Nat} {cs : List Value} {x : DataW H × List MemPlace} (h : DataW.trod enc Try.prog w base spare held fuel 23 cs = some x) :
    ∃ a b, cs = [.int .i64 a, .int .i64 b] ∧ D.in64 a ∧ D.in64 b := by
  obtain ⟨xs, n, _, _, hlen, hxl, hg⟩ := DataW.trod_struct Try.underlying23 h
  rw [spanCells] at hlen
  match cs, hlen with
  | [c0, c1], _ =>
    have g0 := hg 0 _ rfl
    have g1 := hg 1 _ rfl
    simp only [List.getElem_toArray, List.getElem_cons_zero, List.getElem_cons_succ, intCells2, List.drop_zero, List.drop_succ_cons, List.take_succ_cons, List.take_zero] at g0 g1
    have hz : xs.length = 2 := hxl
    obtain ⟨a, rfl, wa⟩ := open_one Try.underlying3 (by omega) g0
    obtain ⟨b, rfl, wb⟩ := open_one Try.underlying3 (by omega) g1
    exact ⟨a, b, rfl, D.wf64 wa, D.wf64 wb⟩
theorem open_arr2 {fuel : Nat} {cs : List Value} {x : DataW H × List MemPlace} (h : DataW.trod enc Try.prog w base spare held fuel 31 cs = some x) :
    ∃ n0 n1, cs = [.int .i64 n0, .int .i64 n1] := by
  obtain ⟨xs, m, _, _, hlen, hxl, hg⟩ := DataW.trod_array Try.underlying31 h
  have ec : Try.prog.cellsOf 31 = 2 := by kernel_rfl
  rw [ec] at hlen
  have g0 := hg 0 (by omega)
  have g1 := hg 1 (by omega)
  rw [intCells2] at g0 g1
  match cs, hlen with
  | [v0, v1], _ =>
    obtain ⟨n0, rfl, _⟩ := open_one Try.underlying3 (by omega) g0
    obtain ⟨n1, rfl, _⟩ := open_one Try.underlying3 (by omega) g1
    exact ⟨n0, n1, rfl⟩
theorem open_arr3 {fuel : Nat} {cs : List Value} {x : DataW H × List MemPlace} (h : DataW.trod enc Try.prog w base spare held fuel 40 cs = some x) :
    ∃ n0 n1 n2, cs = [.int .i64 n0, .int .i64 n1, .int .i64 n2] := by
  obtain ⟨xs, m, _, _, hlen, hxl, hg⟩ := DataW.trod_array Try.underlying40 h
  have ec : Try.prog.cellsOf 40 = 3 := by kernel_rfl
  rw [ec] at hlen
  have g0 := hg 0 (by omega)
  have g1 := hg 1 (by omega)
  have g2 := hg 2 (by omega)
  rw [intCells2] at g0 g1 g2
  match cs, hlen with
  | [v0, v1, v2], _ =>
    obtain ⟨n0, rfl, _⟩ := open_one Try.underlying3 (by omega) g0
    obtain ⟨n1, rfl, _⟩ := open_one Try.underlying3 (by omega) g1
    obtain ⟨n2, rfl, _⟩ := open_one Try.underlying3 (by omega) g2
    exact ⟨n0, n1, n2, rfl⟩
theorem open_arr4 {fuel : Nat} {cs : List Value} {x : DataW H × List MemPlace} (h : DataW.trod enc Try.prog w base spare held fuel 65 cs = some x) :
    ∃ n0 n1 n2 n3, cs = [.int .i64 n0, .int .i64 n1, .int .i64 n2, .int .i64 n3] := by
  obtain ⟨xs, m, _, _, hlen, hxl, hg⟩ := DataW.trod_array Try.underlying65 h
  have ec : Try.prog.cellsOf 65 = 4 := by kernel_rfl
  rw [ec] at hlen
  have g0 := hg 0 (by omega)
  have g1 := hg 1 (by omega)
  have g2 := hg 2 (by omega)
  have g3 := hg 3 (by omega)
  rw [intCells2] at g0 g1 g2 g3
  match cs, hlen with
  | [v0, v1, v2, v3], _ =>
    obtain ⟨n0, rfl, _⟩ := open_one Try.underlying3 (by omega) g0
    obtain ⟨n1, rfl, _⟩ := open_one Try.underlying3 (by omega) g1
    obtain ⟨n2, rfl, _⟩ := open_one Try.underlying3 (by omega) g2
    obtain ⟨n3, rfl, _⟩ := open_one Try.underlying3 (by omega) g3
    exact ⟨n0, n1, n2, n3, rfl⟩
theorem open_ints {fuel : Nat} {cs : List Value} {x : DataW H × List MemPlace} (h : DataW.trod enc Try.prog w base spare held fuel 28 cs = some x) :
    ∃ a n c L, cs = [.slice a n c] ∧ Ints w (.slice a n c) L ∧ ∀ z ∈ L, D.in64 z := by
  rcases open_slice Try.underlying28 h with ⟨hcs, _⟩ | ⟨a, len, cap, m, n, Dd, Pl, hcs, hb, hl, hm, hmm, hx, hi⟩
  · exact ⟨none, 0, 0, [], hcs, Ints.nil w, fun z hz => by cases hz⟩
  · have hml : len ≤ m := by rw [hmm]; split <;> omega
    obtain ⟨b, off, spot⟩ := a
    have he : ∀ i, i < len → ∃ z : Int, w.cell? (((⟨b, off, spot⟩ : Addr).add (i * 1)).add 0) = some (.int .i64 z) ∧ D.in64 z := fun i hlt => by
      obtain ⟨cs', hc, ht⟩ := hi i (by omega)
      rw [intCells2] at hc
      obtain ⟨_, hcl, hat⟩ := World.cells?_some hc
      match cs', hcl with
      | [c0], _ =>
        obtain ⟨z, e, _, wz⟩ := DataW.trod_int Try.underlying3 ht
        obtain rfl : c0 = .int .i64 z := by simpa using e
        exact ⟨z, hat 0 (by omega), D.wf64 wz⟩
    obtain ⟨L, hL, hP⟩ := D.list_of (0 : Int) _ len he
    have hlen : L.length = len := hL
    refine ⟨_, len, cap, L, hcs, ⟨_, cap, by rw [hlen], by omega, by have : cap ≤ maxLen := hm; unfold maxLen at this; omega, fun h0 => ?_⟩, fun z hz => ?_⟩
    · have p0 := (hP 0 (by omega)).1
      obtain rfl : spot = none := World.cell?_spot p0
      simp only [add_none, Nat.add_zero, Nat.mul_one] at hP p0
      exact ⟨b, off, rfl, cell_lt p0, fun k hk => (hP k (by omega)).1⟩
    · obtain ⟨k, hk, rfl⟩ := T.mem_getD (d := (0 : Int)) hz
      exact (hP k (by omega)).2
theorem open_int_arg {r : Reach} {b0 : Nat} {v : Value} {fuel : Nat} {x : DataW H × List MemPlace} (hval : Value.okWide Try.prog w r b0 3 v) (_ : DataW.trod enc Try.prog w base spare held fuel 3 v.cells.toList = some x) : ∃ n, v = .int .i64 n := okWide_int Try.underlying3 hval
theorem open_ints_arg {r : Reach} {b0 : Nat} {v : Value} {fuel : Nat} {x : DataW H × List MemPlace} (hval : Value.okWide Try.prog w r b0 28 v) (h : DataW.trod enc Try.prog w base spare held fuel 28 v.cells.toList = some x) : ∃ a n c L, v = .slice a n c ∧ Ints w (.slice a n c) L ∧ ∀ z ∈ L, D.in64 z := by
  obtain ⟨a, n, c, rfl⟩ := slice_of Try.underlying28 hval
  obtain ⟨a', n', c', L, e, I, b6⟩ := open_ints h
  obtain ⟨rfl, rfl, rfl⟩ : a = a' ∧ n = n' ∧ c = c' := by simpa [Value.cells] using e
  exact ⟨_, _, _, L, rfl, I, b6⟩
theorem open_bool_arg {r : Reach} {b0 : Nat} {v : Value} (hval : Value.okWide Try.prog w r b0 4 v) : ∃ b, v = .bool b := okWide_bool Try.underlying4 hval
theorem open_look {fuel : Nat} {cs : List Value} {x : DataW H × List MemPlace} (h : DataW.trod enc Try.prog w base spare held fuel 63 cs = some x) :
    ∃ a b c l u, cs = [.int .i64 a, .int .i64 b, .int .i64 c, .int .i64 l, .int .i64 u] := by
  obtain ⟨xs, n, _, _, hlen, hxl, hg⟩ := DataW.trod_struct Try.underlying63 h
  have ec : Try.prog.cellsOf 63 = 5 := by kernel_rfl
  rw [ec] at hlen
  match cs, hlen with
  | [c0, c1, c2, c3, c4], _ =>
    have g0 := hg 0 _ rfl
    have g1 := hg 1 _ rfl
    have g2 := hg 2 _ rfl
    have g3 := hg 3 _ rfl
    have g4 := hg 4 _ rfl
    simp only [List.getElem_toArray, List.getElem_cons_zero, List.getElem_cons_succ, intCells2, List.drop_zero, List.drop_succ_cons, List.take_succ_cons, List.take_zero] at g0 g1 g2 g3 g4
    have hz : xs.length = 5 := hxl
    obtain ⟨a, rfl, _⟩ := open_one Try.underlying3 (by omega) g0
    obtain ⟨b, rfl, _⟩ := open_one Try.underlying3 (by omega) g1
    obtain ⟨c, rfl, _⟩ := open_one Try.underlying3 (by omega) g2
    obtain ⟨l, rfl, _⟩ := open_one Try.underlying3 (by omega) g3
    obtain ⟨u, rfl, _⟩ := open_one Try.underlying3 (by omega) g4
    exact ⟨a, b, c, l, u, rfl⟩
/-- a slice of things of so many numbers -/
theorem open_tab {α : Type} {k : Nat} {encA : α → Nat → Int} {dA : α} {t e : TypeId} (hk : 0 < k) (ht : Try.prog.underlying t = some (.slice e)) (ec : Try.prog.cellsOf e = k)
    (he : ∀ {fuel : Nat} {cs : List Value} {x : DataW H × List MemPlace}, DataW.trod enc Try.prog w base spare held fuel e cs = some x → ∃ z : α, ∀ i, i < k → cs[i]? = some (.int .i64 (encA z i)))
    {fuel : Nat} {cs : List Value} {x : DataW H × List MemPlace} (h : DataW.trod enc Try.prog w base spare held fuel t cs = some x) :
    ∃ a n c L, cs = [.slice a n c] ∧ Tab k encA dA w (.slice a n c) L := by
  rcases open_slice ht h with ⟨hcs, _⟩ | ⟨a, len, cap, m, n, Dd, Pl, hcs, hb, hl, hm, hmm, hx, hi⟩
  · exact ⟨none, 0, 0, [], hcs, Tab.nil w⟩
  · have hml : len ≤ m := by rw [hmm]; split <;> omega
    obtain ⟨b, off, spot⟩ := a
    have hh : ∀ i, i < len → ∃ z : α, ∀ j, j < k → w.cell? (((⟨b, off, spot⟩ : Addr).add (i * k)).add j) = some (.int .i64 (encA z j)) := fun i hlt => by
      obtain ⟨cs', hc, ht'⟩ := hi i (by omega)
      rw [ec] at hc
      obtain ⟨_, hcl, hat⟩ := World.cells?_some hc
      obtain ⟨z, hz⟩ := he ht'
      refine ⟨z, fun j hj => ?_⟩
      have := hat j hj
      rw [this]
      exact hz j hj
    obtain ⟨L, hL, hP⟩ := D.list_of dA _ len hh
    have hlen : L.length = len := hL
    refine ⟨_, len, cap, L, hcs, ⟨_, cap, by rw [hlen], by omega, by have : cap ≤ maxLen := hm; unfold maxLen at this; omega, fun h0 => ?_⟩⟩
    have p0 := hP 0 (by omega) 0 hk
    rw [Nat.zero_mul] at p0
    obtain rfl : spot = none := World.cell?_spot p0
    simp only [add_none] at hP p0
    exact ⟨b, off, rfl, cell_lt p0, fun j hj i hik => hP j (by omega) i hik⟩
theorem open_sps {fuel : Nat} {cs : List Value} {x : DataW H × List MemPlace} (h : DataW.trod enc Try.prog w base spare held fuel 24 cs = some x) : ∃ a n c L, cs = [.slice a n c] ∧ Sps w (.slice a n c) L :=
  open_tab (by decide) Try.underlying24 (by kernel_rfl) (fun h => by
    obtain ⟨a, b, rfl, _⟩ := open_span h
    exact ⟨(a, b), fun i hi => by match i, hi with | 0, _ => rfl | 1, _ => rfl⟩) h
theorem open_lks {fuel : Nat} {cs : List Value} {x : DataW H × List MemPlace} (h : DataW.trod enc Try.prog w base spare held fuel 25 cs = some x) : ∃ a n c L, cs = [.slice a n c] ∧ Lks w (.slice a n c) L :=
  open_tab (by decide) Try.underlying25 (by kernel_rfl) (fun h => by
    obtain ⟨a, b, c, l, u, rfl⟩ := open_look h
    exact ⟨(a, b, c, l, u), fun i hi => by match i, hi with | 0, _ => rfl | 1, _ => rfl | 2, _ => rfl | 3, _ => rfl | 4, _ => rfl⟩) h
theorem open_book {fuel : Nat} {cs : List Value} {x : DataW H × List MemPlace} (h : DataW.trod enc Try.prog w base spare held fuel 27 cs = some x) :
    ∃ M bl bh rl rh aP nP cP ps aQ nQ cQ qs aL nL cL ls, cs = [.int .i64 M, .int .i64 bl, .int .i64 bh, .int .i64 rl, .int .i64 rh, .slice aP nP cP, .slice aQ nQ cQ, .slice aL nL cL] ∧ Sps w (.slice aP nP cP) ps ∧ Sps w (.slice aQ nQ cQ) qs ∧ Lks w (.slice aL nL cL) ls := by
  obtain ⟨xs, n, _, _, hlen, hxl, hg⟩ := DataW.trod_struct Try.underlying27 h
  have ec : Try.prog.cellsOf 27 = 8 := by kernel_rfl
  have e1 : Try.prog.cellsOf 24 = 1 := by kernel_rfl
  have e2 : Try.prog.cellsOf 25 = 1 := by kernel_rfl
  rw [ec] at hlen
  match cs, hlen with
  | [c0, c1, c2, c3, c4, c5, c6, c7], _ =>
    have g0 := hg 0 _ rfl
    have g1 := hg 1 _ rfl
    have g2 := hg 2 _ rfl
    have g3 := hg 3 _ rfl
    have g4 := hg 4 _ rfl
    have g5 := hg 5 _ rfl
    simp only [List.getElem_toArray, List.getElem_cons_zero, List.getElem_cons_succ, intCells2, spanCells, e1, e2, List.drop_zero, List.drop_succ_cons, List.take_succ_cons, List.take_zero] at g0 g1 g2 g3 g4 g5
    have hz : xs.length = 6 := hxl
    rw [List.getElem?_eq_getElem (by omega)] at g1 g2 g3 g4 g5
    obtain ⟨M, rfl, _⟩ := open_one Try.underlying3 (by omega) g0
    obtain ⟨bl, bh, f1, _, _⟩ := open_span g1
    obtain ⟨rl, rh, f2, _, _⟩ := open_span g2
    obtain ⟨aP, nP, cP, ps, f3, I⟩ := open_sps g3
    obtain ⟨aQ, nQ, cQ, qs, f4, J⟩ := open_sps g4
    obtain ⟨aL, nL, cL, ls, f5, K⟩ := open_lks g5
    simp at f1 f2 f3 f4 f5
    obtain ⟨rfl, rfl⟩ := f1
    obtain ⟨rfl, rfl⟩ := f2
    obtain rfl := f3
    obtain rfl := f4
    obtain rfl := f5
    exact ⟨M, bl, bh, rl, rh, aP, nP, cP, ps, aQ, nQ, cQ, qs, aL, nL, cL, ls, rfl, I, J, K⟩
theorem open_truth {fuel : Nat} {cs : List Value} {x : DataW H × List MemPlace} (h : DataW.trod enc Try.prog w base spare held fuel 30 cs = some x) :
    ∃ aO nO cO os aE nE cE pe aA nA cA pa, cs = [.slice aO nO cO, .slice aE nE cE, .slice aA nA cA] ∧ (Ints w (.slice aO nO cO) os ∧ ∀ z ∈ os, D.in64 z) ∧ (Ints w (.slice aE nE cE) pe ∧ ∀ z ∈ pe, D.in64 z) ∧ Ints w (.slice aA nA cA) pa ∧ ∀ z ∈ pa, D.in64 z := by
  obtain ⟨xs, n, _, _, hlen, hxl, hg⟩ := DataW.trod_struct Try.underlying30 h
  have ec : Try.prog.cellsOf 30 = 3 := by kernel_rfl
  have e1 : Try.prog.cellsOf 28 = 1 := by kernel_rfl
  rw [ec] at hlen
  match cs, hlen with
  | [c0, c1, c2], _ =>
    have g0 := hg 0 _ rfl
    have g1 := hg 1 _ rfl
    have g2 := hg 2 _ rfl
    simp only [List.getElem_toArray, List.getElem_cons_zero, List.getElem_cons_succ, e1, List.drop_zero, List.drop_succ_cons, List.take_succ_cons, List.take_zero] at g0 g1 g2
    have hz : xs.length = 3 := hxl
    rw [List.getElem?_eq_getElem (by omega)] at g0 g1 g2
    obtain ⟨aO, nO, cO, os, f3, I⟩ := open_ints g0
    obtain ⟨aE, nE, cE, pe, f4, J⟩ := open_ints g1
    obtain ⟨aA, nA, cA, pa, f5, K⟩ := open_ints g2
    simp at f3 f4 f5
    obtain rfl := f3
    obtain rfl := f4
    obtain rfl := f5
    exact ⟨aO, nO, cO, os, aE, nE, cE, pe, aA, nA, cA, pa, rfl, I, J, K⟩
end

end Go.Proofs.Ytlpkheoljbdajaa
