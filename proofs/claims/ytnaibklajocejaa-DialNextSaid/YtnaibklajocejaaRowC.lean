import Derived.Test.YtnaibklajocejaaRowB
/- How three numbers are opened. -/
namespace Go.Proofs.Ytnaibklajocejaa
open Go.ChangeShapes Go.WideShapes Go.RowKit Go.Deep

set_option maxRecDepth 100000 in
theorem open_int3 {H : Type} {enc : TypeId × Value → H} {w : World} {base : Nat} {spare : Nat → Bool} {held : Bool} {fuel : Nat} {cs : List Value} {x : DataW H × List MemPlace} (h : DataW.trod enc Try.prog w base spare held fuel 69 cs = some x) :
    ∃ a b c, cs = [.int .i64 a, .int .i64 b, .int .i64 c] := by
  obtain ⟨xs, m, _, _, hlen, hxl, hg⟩ := DataW.trod_array Try.underlying69 h
  have ec : Try.prog.cellsOf 69 = 3 := by kernel_rfl
  rw [ec] at hlen
  have g0 := hg 0 (by omega)
  have g1 := hg 1 (by omega)
  have g2 := hg 2 (by omega)
  rw [intCells] at g0 g1 g2
  match cs, hlen with
  | [v0, v1, v2], _ =>
    simp only [Nat.mul_one, List.drop_zero, List.drop_succ_cons, List.take_succ_cons, List.take_zero] at g0 g1 g2
    obtain ⟨a, rfl, _⟩ := open_one Try.underlying3 (by omega) g0
    obtain ⟨b, rfl, _⟩ := open_one Try.underlying3 (by omega) g1
    obtain ⟨c, rfl, _⟩ := open_one Try.underlying3 (by omega) g2
    exact ⟨a, b, c, rfl⟩

end Go.Proofs.Ytnaibklajocejaa
