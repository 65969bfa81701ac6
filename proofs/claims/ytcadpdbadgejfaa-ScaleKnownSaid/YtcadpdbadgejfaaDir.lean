import Derived.Test.YtcadpdbadgejfaaBaA
import Derived.Maps.Own
import Derived.Maps.OwnOps
import Derived.Maps.OwnIn
import Derived.Maps.Views
import Derived.DeepKeys4
/- The contracts of scale's directions, and the map of what is known. -/
namespace Go.Proofs.Ytcadpdbadgejfaa
open Go.RowKit

theorem cell_dir {w : World} {b : Nat} {cs : Array Value} (h : mblk w b = some (.cells cs 126 (0, 0))) (j : Nat) : w.cell? ⟨b, j, none⟩ = cs[j]? := cellB h j
theorem cell_known {w : World} {b : Nat} {cs : Array Value} (h : mblk w b = some (.cells cs 86 (0, 0))) (j : Nat) : w.cell? ⟨b, j, none⟩ = cs[j]? := cellB h j
theorem cell_canf {w : World} {b : Nat} {cs : Array Value} (h : mblk w b = some (.cells cs 61 (0, 0))) (j : Nat) : w.cell? ⟨b, j, none⟩ = cs[j]? := cellB h j
theorem cell_int {w : World} {b : Nat} {cs : Array Value} (h : mblk w b = some (.cells cs 3 (0, 0))) (j : Nat) : w.cell? ⟨b, j, none⟩ = cs[j]? := cellB h j
theorem cell_part {w : World} {b : Nat} {cs : Array Value} (h : mblk w b = some (.cells cs 87 (0, 0))) (j : Nat) : w.cell? ⟨b, j, none⟩ = cs[j]? := cellB h j
attribute [go_sem] cell_dir cell_known cell_canf cell_int cell_part

theorem slowest_any (f s j dl dh : Int) (w : World) : Calls Try.prog 101 #[RV f s j dl dh] w fun e w' => e = .returned (.int .i64 s) ∧ Up w w' := by
  go_enter Try.func101, Try.ntmps101
  go_wp2
  go_ret
  exact ⟨rfl, (Up.refl _).alloc _⟩
theorem unsteered_any (f s j dl dh : Int) (w : World) : Calls Try.prog 102 #[RV f s j dl dh] w fun e w' => e = .returned (.int .i64 0) ∧ Up w w' := by
  go_enter Try.func102, Try.ntmps102
  go_wp2
  go_ret
  exact ⟨rfl, (Up.refl _).alloc _⟩
theorem fastest_any (f s j dl dh : Int) (w : World) : Calls Try.prog 103 #[RV f s j dl dh] w fun e w' => e = .returned (.int .i64 f) ∧ Up w w' := by
  go_enter Try.func103, Try.ntmps103
  go_wp2
  go_ret
  exact ⟨rfl, (Up.refl _).alloc _⟩
abbrev DV : Value := .agg #[.int .i64 (-1), .func (.func 101) #[] #[], .int .i64 0, .func (.func 102) #[] #[], .int .i64 1, .func (.func 103) #[] #[]]
theorem directions_any (w : World) : Calls Try.prog 87 #[] w fun e w' => e = .returned DV ∧ Up w w' := by
  go_enter Try.func87, Try.ntmps87
  go_wp2
  exact bodyPost_ret (v := DV) (by simp [results, Try.results87, go_sem]) rfl ⟨rfl, (Up.refl _).alloc _⟩
theorem against_any (off : Int) (w : World) : Calls Try.prog 97 #[.int .i64 off] w fun e w' => e = .returned (.int .i64 (if 0 < off then 0 else if off < 0 then 2 else 1)) ∧ w = w' := by
  by_cases h1 : 0 < off
  · rw [if_pos h1]
    go_enter Try.func97, Try.ntmps97
    go_wp2
    go_ret
    exact ⟨rfl, rfl⟩
  · rw [if_neg h1]
    by_cases h2 : off < 0
    · rw [if_pos h2]
      go_enter Try.func97, Try.ntmps97
      go_wp2
      go_ret
      exact ⟨rfl, rfl⟩
    · rw [if_neg h2]
      go_enter Try.func97, Try.ntmps97
      go_wp2
      go_ret
      exact ⟨rfl, rfl⟩
theorem isOffset_any (off : Int) (w : World) : Calls Try.prog 55 #[.int .i64 off] w fun e w' => e = .returned (.bool (inB off (-20000) 20000)) ∧ w = w' := by
  go_enter Try.func55, Try.ntmps55
  go_wp2_with fail
  refine (within_any _ _ _ _).mono ?_
  rintro e w1 ⟨rfl, rfl⟩
  go_wp2
  go_ret
  exact ⟨rfl, rfl⟩

theorem lawKey : Maps.Keyed Try.prog 130 := Maps.Keyed.of_law (deep_law_laid (by kernel_rfl) (m := 2) (by omega) (of_decide_eq_true (by kernel_rfl)) (by kernel_rfl) (by rw [Try.underlying130]))
theorem keyKeyType : Try.prog.keyType 130 = true := by kernel_rfl
theorem keyCells : Try.prog.cellsOf 130 = 2 := by kernel_rfl
theorem intCells : Try.prog.cellsOf 3 = 1 := by kernel_rfl
theorem partCells : Try.prog.cellsOf 87 = 1 := by kernel_rfl
theorem typesSize : ∃ m, Try.prog.types.size = m + 1 := ⟨Try.prog.types.size - 1, by kernel_rfl⟩
theorem zeroI (w : World) : (zeroValue 3).run Try.prog w = .ok (.int .i64 0) w := by kernel_rfl
/-- what a key is as a key -/
def S.key (a b : Int) : Lit := .string (keyBytes [.int .i64 a, .int .i64 b])
theorem D.in64.wf {a : Int} (h : D.in64 a) : (Lit.int .i64 a).wf = true := WalkArith.wf_i64 (by have := h.1; have := h.2; omega)
theorem keyOf_key {a b : Int} (ha : D.in64 a) (hb : D.in64 b) : keyOf Try.prog 130 (.agg #[.int .i64 a, .int .i64 b]) = some (S.key a b) := by
  have wa := ha.wf
  have wb := hb.wf
  unfold keyOf
  simp only [Try.underlying130]
  obtain ⟨m, hm⟩ := typesSize
  rw [if_pos (by simp [keyKeyType, Value.formed, Try.underlying130, keyCells]), hm]
  unfold Program.keyLits
  simp only [Try.underlying130, Value.cells]
  clear hm
  simp [keyCells, intCells, partCells, Program.keyLits, Try.underlying3, Try.underlying87, wa, wb, S.key]
/-- what a map of what is known holds -/
def S.MapIs (M : DataW Nat) (f : Int → Int → Int) : Prop := Maps.IsMap M ∧ ∀ a b, D.in64 a → D.in64 b → M.atKey (S.key a b) (.lit (.int .i64 0)) = .lit (.int .i64 (f a b))
theorem S.MapIs.empty : S.MapIs (.map []) (fun _ _ => 0) := ⟨Maps.isMap_empty, fun _ _ _ _ => rfl⟩
def S.upd (f : Int → Int → Int) (a b v : Int) : Int → Int → Int := fun x y => if x = a ∧ y = b then v else f x y
theorem S.MapIs.put {M : DataW Nat} {f : Int → Int → Int} (h : S.MapIs M f) {a b : Int} (ha : D.in64 a) (hb : D.in64 b) (v : Int) :
    S.MapIs (M.put (S.key a b) (.lit (.int .i64 v))) (S.upd f a b v) := by
  have hk := keyOf_key ha hb
  refine ⟨h.1.put _ _, fun x y hx hy => ?_⟩
  by_cases e : x = a ∧ y = b
  · obtain ⟨rfl, rfl⟩ := e
    rw [Maps.atKey_put_same h.1 (lawKey.key hk)]
    simp [S.upd]
  · have hne : S.key x y ≠ S.key a b := fun he => by
      have := lawKey.inj (keyOf_key hx hy) (he ▸ hk)
      simp only [Value.agg.injEq, Array.mk.injEq, List.cons.injEq, Value.int.injEq] at this
      exact e ⟨this.1.2, this.2.1.2⟩
    rw [Maps.atKey_put_other hne, h.2 x y hx hy, S.upd, if_neg e]
theorem S.MapIs.cong {M : DataW Nat} {f g : Int → Int → Int} (h : S.MapIs M f) (e : ∀ a b, f a b = g a b) : S.MapIs M g := ⟨h.1, fun a b ha hb => by rw [← e a b]; exact h.2 a b ha hb⟩

end Go.Proofs.Ytcadpdbadgejfaa
