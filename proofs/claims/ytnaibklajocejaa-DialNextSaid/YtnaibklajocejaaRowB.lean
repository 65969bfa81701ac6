import Derived.Test.YtnaibklajocejaaRowA
/- How the laws' arguments are opened, more of it. -/
namespace Go.Proofs.Ytnaibklajocejaa
open Go.ChangeShapes Go.WideShapes Go.RowKit Go.Deep

theorem ownKnob_0 : ownKnob Try.prog.godebug = none := by kernel_rfl
theorem laidOut_0 : laidOutB Try.prog = true := by kernel_rfl
set_option maxRecDepth 100000 in
theorem agg_of_struct {t : TypeId} {fs : Array Field} (ht : Try.prog.underlying t = some (.struct fs)) {w : World} {r : Reach} {b : Nat} {v : Value} (h : Value.okWide Try.prog w r b t v) : ∃ cs, v = .agg cs := by
  simp only [Value.okWide, ht] at h
  obtain ⟨cs, e1, _, _⟩ := h
  exact ⟨cs, e1⟩
set_option maxRecDepth 100000 in
theorem agg_of_array {t e : TypeId} {k : Nat} (ht : Try.prog.underlying t = some (.array k e)) {w : World} {r : Reach} {b : Nat} {v : Value} (h : Value.okWide Try.prog w r b t v) : ∃ cs, v = .agg cs := by
  simp only [Value.okWide, ht] at h
  obtain ⟨cs, e1, _, _⟩ := h
  exact ⟨cs, e1⟩

section
variable {H : Type} {enc : TypeId × Value → H} {w : World} {base : Nat} {spare : Nat → Bool} {held : Bool}
set_option maxRecDepth 100000 in
theorem open_int2 {fuel : Nat} {cs : List Value} {x : DataW H × List MemPlace} (h : DataW.trod enc Try.prog w base spare held fuel 25 cs = some x) :
    ∃ a b, cs = [.int .i64 a, .int .i64 b] ∧ D.in64 a ∧ D.in64 b := by
  obtain ⟨xs, m, _, _, hlen, hxl, hg⟩ := DataW.trod_array Try.underlying25 h
  have ec : Try.prog.cellsOf 25 = 2 := by kernel_rfl
  rw [ec] at hlen
  have g0 := hg 0 (by omega)
  have g1 := hg 1 (by omega)
  rw [intCells] at g0 g1
  match cs, hlen with
  | [v0, v1], _ =>
    simp only [Nat.zero_mul, Nat.one_mul, List.drop_zero, List.drop_succ_cons, List.take_succ_cons, List.take_zero] at g0 g1
    obtain ⟨a, rfl, wa⟩ := open_one Try.underlying3 (by omega) g0
    obtain ⟨b, rfl, wb⟩ := open_one Try.underlying3 (by omega) g1
    exact ⟨a, b, rfl, D.wf64 wa, D.wf64 wb⟩
end

end Go.Proofs.Ytnaibklajocejaa
