import Derived.Test.YtnaibklajocejaaCalB
import Derived.Maps.OwnIn
import Derived.Maps.Views
import Derived.DeepKeys4
/- The map of dial's twice: a reading's key, and what such a map holds. -/
namespace Go.Proofs.Ytnaibklajocejaa
open Go.RowKit

theorem lawRd : Maps.Keyed Try.prog 27 := Maps.Keyed.of_law (deep_law_laid (by kernel_rfl) (m := 2) (by omega) (of_decide_eq_true (by kernel_rfl)) (by kernel_rfl) (by rw [Try.underlying27]))
theorem zeroU (w : World) : (zeroValue 131).run Try.prog w = .ok (.int .u64 0) w := by kernel_rfl
theorem rdKeyType : Try.prog.keyType 27 = true := by kernel_rfl
theorem rdCells : Try.prog.cellsOf 27 = 4 := by kernel_rfl
theorem intCells : Try.prog.cellsOf 3 = 1 := by kernel_rfl
theorem rdSize : ∃ m, Try.prog.types.size = m + 1 := ⟨Try.prog.types.size - 1, by kernel_rfl⟩

/-- what a reading is as a key -/
def D.key (a b c q : Int) : Lit := .string (keyBytes [.int .i64 a, .int .i64 b, .int .i64 c, .int .i64 q])
def D.in64 (a : Int) : Prop := -9223372036854775808 ≤ a ∧ a ≤ 9223372036854775807
theorem D.in64.wf {a : Int} (h : D.in64 a) : (Lit.int .i64 a).wf = true := WalkArith.wf_i64 (by have := h.1; have := h.2; omega)
theorem keyOf_rd {a b c q : Int} (ha : D.in64 a) (hb : D.in64 b) (hc : D.in64 c) (hq : D.in64 q) : keyOf Try.prog 27 (rd a b c q) = some (D.key a b c q) := by
  have wa := ha.wf
  have wb := hb.wf
  have wc := hc.wf
  have wq := hq.wf
  unfold keyOf
  simp only [Try.underlying27]
  obtain ⟨m, hm⟩ := rdSize
  rw [if_pos (by simp [rdKeyType, Value.formed, Try.underlying27, rdCells]), hm]
  unfold Program.keyLits
  simp only [Try.underlying27, Value.cells]
  clear hm
  simp [rdCells, intCells, Program.keyLits, Try.underlying3, wa, wb, wc, wq, D.key]

/-- what a map of dial's twice holds at each minute -/
def D.MapIs (M : DataW Nat) (f : Int → Int → Int → Int) : Prop := Maps.IsMap M ∧ ∀ a b c, D.in64 a → D.in64 b → D.in64 c → M.atKey (D.key a b c 0) (.lit (.int .u64 0)) = .lit (.int .u64 (f a b c))
theorem D.MapIs.empty : D.MapIs (.map []) (fun _ _ _ => 0) := ⟨Maps.isMap_empty, fun _ _ _ _ _ _ => rfl⟩
def D.upd (f : Int → Int → Int → Int) (a b c v : Int) : Int → Int → Int → Int := fun x y z => if x = a ∧ y = b ∧ z = c then v else f x y z
theorem D.in64_zero : D.in64 0 := ⟨by omega, by omega⟩
theorem D.MapIs.put {M : DataW Nat} {f : Int → Int → Int → Int} (h : D.MapIs M f) {a b c : Int} (ha : D.in64 a) (hb : D.in64 b) (hc : D.in64 c) (v : Int) :
    D.MapIs (M.put (D.key a b c 0) (.lit (.int .u64 v))) (D.upd f a b c v) := by
  have hk := keyOf_rd ha hb hc D.in64_zero
  refine ⟨h.1.put _ _, fun x y z hx hy hz => ?_⟩
  by_cases e : x = a ∧ y = b ∧ z = c
  · obtain ⟨rfl, rfl, rfl⟩ := e
    rw [Maps.atKey_put_same h.1 (lawRd.key hk)]
    simp [D.upd]
  · have hne : D.key x y z 0 ≠ D.key a b c 0 := fun he => by
      have := lawRd.inj (keyOf_rd hx hy hz D.in64_zero) (he ▸ hk)
      simp only [rd, Value.agg.injEq, Array.mk.injEq, List.cons.injEq, Value.int.injEq] at this
      exact e ⟨this.1.2, this.2.1.2, this.2.2.1.2⟩
    rw [Maps.atKey_put_other hne, h.2 x y z hx hy hz, D.upd, if_neg e]

end Go.Proofs.Ytnaibklajocejaa
