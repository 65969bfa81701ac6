import Derived.Test.YtnaibklajocejaaLawA
import Derived.Test.YtnaibklajocejaaTownE
import Derived.Test.YtnaibklajocejaaTwiC
/- The chapter's examples. -/
namespace Go.Proofs.Ytnaibklajocejaa
open Go.RowKit

/-- a new slice of numbers, in memory -/
def D.Sl (w : World) (v : Value) (xs : List Int) : Prop := ∃ a c, v = .slice a xs.length c ∧ xs.length ≤ 1000000 ∧ (0 < xs.length → ∃ g, a = some ⟨g, 0, none⟩ ∧ g < w.heap.size ∧ ∀ j, j < xs.length → w.cell? ⟨g, j, none⟩ = some (.int .i64 (xs.getD j 0)))
theorem D.Sl.up {w w' : World} {v : Value} {xs : List Int} (h : D.Sl w v xs) (u : Up w w') : D.Sl w' v xs := by
  obtain ⟨a, c, e, hl, hm⟩ := h
  refine ⟨a, c, e, hl, fun h0 => ?_⟩
  obtain ⟨g, e1, e2, e3⟩ := hm h0
  exact ⟨g, e1, by have := u.size; omega, fun j hj => (u.facts.1 g j e2).trans (e3 j hj)⟩
theorem D.newInts.sl {w w' : World} {v : Value} {xs : List Int} (h : D.newInts w w' v xs) (hl : xs.length ≤ 1000000) : D.Sl w' v xs := by
  rcases h with ⟨rfl, rfl⟩ | ⟨g, rfl, _, g2, hc⟩
  · exact ⟨none, 0, rfl, hl, fun h0 => by simp at h0⟩
  · refine ⟨_, _, rfl, hl, fun _ => ⟨g, rfl, g2, fun j hj => ?_⟩⟩
    rw [hc j hj, List.getElem?_map, List.getD_eq_getElem?_getD, List.getElem?_eq_getElem hj]
    rfl

abbrev D.arg (a : Option Addr) (n c : Nat) : Value := .agg #[.int .i64 3, .int .i64 4, .int .i64 10, .int .i64 2, .slice a n c]
abbrev D.argT (a : Option Addr) (n c : Nat) : Value := .agg #[.int .i64 5, .slice a n c]
section
variable {a a' : Option Addr} {n c n' c' : Nat} {w : World}
theorem exV1 : D.valid 3 4 10 2 [(0, true)] = true := by kernel_rfl
theorem exT1 : D.townOk (D.beg 3 4 10 (D.deeds [(0, true)] 1) (2 : Int).toNat) 5 [(60, 3)] = true := by kernel_rfl
theorem exReading (A : CalArg w a n c [(0, true)]) : Calls Try.prog 21 #[D.arg a n c, .int .i64 120] w fun e w' => e = .returned (.tuple #[rd 0 2 3 10, .int .i64 0]) ∧ Up w w' :=
  (Reading_yes A 120 0 exV1 (by omega) (by omega) (of_decide_eq_true (by kernel_rfl)) (of_decide_eq_true (by kernel_rfl))).mono fun e w' ⟨he, u⟩ => ⟨by rw [he]; kernel_rfl, u⟩
theorem exTick (A : CalArg w a n c [(1, false)]) : Calls Try.prog 23 #[D.arg a n c, rd 1 2 3 8] w fun e w' => e = .returned (.tuple #[.int .i64 238, .int .i64 0]) ∧ Up w w' :=
  (Tick_any A 1 2 3 8).mono fun e w' ⟨he, u⟩ => ⟨by rw [he]; kernel_rfl, u⟩
theorem exApart (A : CalArg w a n c [(0, true)]) : Calls Try.prog 26 #[D.arg a n c, rd 0 2 3 0, rd 1 0 0 0] w fun e w' => e = .returned (.tuple #[.int .i64 11, .int .i64 0]) ∧ Up w w' :=
  (Apart_any A 0 2 3 0 1 0 0 0).mono fun e w' ⟨he, u⟩ => ⟨by rw [he]; kernel_rfl, u⟩
theorem exNext (A : CalArg w a n c [(0, true)]) : Calls Try.prog 28 #[D.arg a n c, .int .i64 116, .int .i64 5] w fun e w' => e = .returned (.tuple #[.int .i64 120, .int .i64 0]) ∧ Up w w' :=
  Next_yes A 116 5 120 exV1 (by kernel_rfl) (by omega) (by omega) (.inl ⟨4, of_decide_eq_true (by kernel_rfl), fun i hi => by
    have : i = 0 ∨ i = 1 ∨ i = 2 ∨ i = 3 := by rw [List.mem_range] at hi; omega
    rcases this with rfl | rfl | rfl | rfl <;> exact of_decide_eq_true (by kernel_rfl), of_decide_eq_true (by kernel_rfl), by omega, rfl⟩)
theorem exLength (A : CalArg w a n c [(0, true)]) : Calls Try.prog 15 #[D.arg a n c, .int .i64 0] w fun e w' => e = .returned (.tuple #[.int .i64 121, .int .i64 0]) ∧ Up w w' :=
  (Length_yes A 0 exV1 (by omega)).mono fun e w' ⟨he, u⟩ => ⟨by rw [he]; kernel_rfl, u⟩
theorem exTotal (A : CalArg w a n c [(0, true)]) : Calls Try.prog 19 #[D.arg a n c] w fun e w' => e = .returned (.tuple #[.int .i64 241, .int .i64 0]) ∧ Up w w' :=
  (Total_yes A exV1).mono fun e w' ⟨he, u⟩ => ⟨by rw [he]; kernel_rfl, u⟩
theorem exLocal (A : CalArg w a n c [(0, true)]) (B : TownArg w a' n' c' [(60, 3)]) : Calls Try.prog 30 #[D.arg a n c, D.argT a' n' c', .int .i64 120] w fun e w' => e = .returned (.tuple #[rd 1 0 2 10, .int .i64 0]) ∧ Up w w' :=
  (Local_yes A B 120 exV1 exT1 (by kernel_rfl)).mono fun e w' ⟨he, u⟩ => ⟨by rw [he]; kernel_rfl, u⟩
theorem exTicks (A : CalArg w a n c [(0, true)]) (B : TownArg w a' n' c' [(60, 3)]) : Calls Try.prog 34 #[D.arg a n c, D.argT a' n' c', rd 0 2 1 0] w fun e w' => ∃ v, e = .returned (.tuple #[v, .int .i64 0]) ∧ Up w w' ∧ D.Sl w' v [40, 60] :=
  (Ticks_yes A B 0 2 1 0 exV1 exT1).mono fun e w' ⟨v, he, u, hn⟩ => ⟨v, he, u, by
    have : D.ticksV 3 4 10 (2 : Int).toNat (D.deeds [(0, true)] 1) 5 [(60, 3)] 0 2 1 0 = [40, 60] := by kernel_rfl
    rw [show D.ticksV 3 4 10 (2 : Int).toNat (D.deeds [(0, true)] ([(0, true)] : List (Int × Bool)).length) 5 [(60, 3)] 0 2 1 0 = [40, 60] from this] at hn
    exact hn.sl (by simp)⟩
theorem exTwice (A : CalArg w a n c [(0, true)]) (B : TownArg w a' n' c' [(60, 3)]) : Calls Try.prog 37 #[D.arg a n c, D.argT a' n' c'] w fun e w' => e = .returned (.tuple #[.int .i64 20, .int .i64 0]) ∧ Up w w' :=
  (Twice_yes A B exV1 exT1).mono fun e w' ⟨he, u⟩ => ⟨by rw [he]; kernel_rfl, u⟩
end

end Go.Proofs.Ytnaibklajocejaa
