import Derived.Test.YtlpkheoljbdajaaNew
import Derived.Maps.AppendAt
import Derived.Maps.OwnSet
import Derived.DeepKeys4
/- Maps of two things: of spans. -/
namespace Go.Proofs.Ytlpkheoljbdajaa
open Go.RowKit

theorem lawMo : Maps.Keyed Try.prog 143 := Maps.Keyed.of_law (deep_law_laid (by kernel_rfl) (m := 2) (by omega) (of_decide_eq_true (by kernel_rfl)) (by kernel_rfl) (by rw [Try.underlying143]))
theorem moKeyType : Try.prog.keyType 143 = true := by kernel_rfl
theorem moCells : Try.prog.cellsOf 143 = 2 := by kernel_rfl
theorem intCells : Try.prog.cellsOf 99 = 1 := by kernel_rfl
theorem typesSize : ∃ m, Try.prog.types.size = m + 1 := ⟨Try.prog.types.size - 1, by kernel_rfl⟩
/-- what a moment is as a key -/
def T.key (x : Int × Int) : Lit := .string (keyBytes [.int .i64 x.1, .int .i64 x.2])
def T.in64 (x : Int × Int) : Prop := D.in64 x.1 ∧ D.in64 x.2
theorem D.in64.wf {a : Int} (h : D.in64 a) : (Lit.int .i64 a).wf = true := WalkArith.wf_i64 (by have := h.1; have := h.2; omega)
theorem keyOf_mo {x : Int × Int} (h : T.in64 x) : keyOf Try.prog 143 (TwV x.1 x.2) = some (T.key x) := by
  have wa := h.1.wf
  have wb := h.2.wf
  unfold keyOf
  simp only [Try.underlying143]
  obtain ⟨m, hm⟩ := typesSize
  rw [if_pos (by simp [moKeyType, Value.formed, Try.underlying143, moCells]), hm]
  unfold Program.keyLits
  simp only [Try.underlying143, Value.cells]
  clear hm
  simp [moCells, intCells, Program.keyLits, Try.underlying99, wa, wb, T.key]
theorem T.key_inj {x y : Int × Int} (hx : T.in64 x) (hy : T.in64 y) (h : T.key x = T.key y) : x = y := by
  have := lawMo.inj (keyOf_mo hx) (h ▸ keyOf_mo hy)
  simp only [Value.agg.injEq, Array.mk.injEq, List.cons.injEq, Value.int.injEq] at this
  exact Prod.ext this.1.2 this.2.1.2
/-- what a span is as a datum -/
def T.sd (s : Int × Int) : DataW Nat := .agg [.lit (.int .i64 s.1), .lit (.int .i64 s.2)]
theorem T.sd_inj {a b : Int × Int} (h : T.sd a = T.sd b) : a = b := by
  unfold T.sd at h
  injection h with h
  injection h with h1 h2
  injection h2 with h2 _
  injection h1 with h1; injection h1 with _ h1
  injection h2 with h2; injection h2 with _ h2
  exact Prod.ext h1 h2
/-- how a span reads -/
def T.Rs : Value → Option (DataW Nat × List MemPlace)
  | .agg cs => match cs.toList with
    | [.int .i64 l, .int .i64 h] => some (T.sd (l, h), [])
    | _ => none
  | _ => none
theorem T.Rs_mk (l h : Int) : T.Rs (SpV l h) = some (T.sd (l, h), []) := rfl
theorem T.Rs_inv {v : Value} {s : Int × Int} {ps : List MemPlace} (h : T.Rs v = some (T.sd s, ps)) : v = SpV s.1 s.2 := by
  unfold T.Rs at h
  split at h
  · rename_i cs
    split at h
    · rename_i l u e
      have := T.sd_inj (congrArg Prod.fst (Option.some.inj h))
      subst this
      have e2 : cs = #[.int .i64 l, .int .i64 u] := by rw [← Array.toList_inj]; exact e
      rw [e2]
    · cases h
  · cases h
/-- a map of spans, in memory -/
def T.Inn (w : World) (m n : Nat) (f : Int × Int → Option (Int × Int)) : Prop :=
  ∃ M : DataW Nat, w.ownsMap Try.prog 143 T.Rs m n M ∧ Maps.IsMap M ∧ ∀ x, T.in64 x → ∀ z, M.atKey (T.key x) z = (match f x with | none => z | some s => T.sd s)
def T.upd {β : Type} (f : Int × Int → Option β) (x : Int × Int) (s : β) : Int × Int → Option β := fun y => if y = x then some s else f y
section
variable {w w' : World} {m n : Nat} {f : Int × Int → Option (Int × Int)} {x : Int × Int}
theorem T.Inn.lt (h : T.Inn w m n f) : m < w.heap.size := h.elim fun _ h => h.1.lt
theorem T.Inn.mono (h : T.Inn w m n f) {n' : Nat} (hn : n ≤ n') : T.Inn w m n' f := h.elim fun M h => ⟨M, h.1.mono hn, h.2⟩
theorem T.Inn.same (h : T.Inn w m n f) (e : w'.heap[m]? = w.heap[m]?) : T.Inn w' m n f := by
  obtain ⟨M, ⟨es, clock, hh, F, hs, hD⟩, h2⟩ := h
  exact ⟨M, ⟨es, clock, e.trans hh, F, hs, hD⟩, h2⟩
theorem T.Inn.up (h : T.Inn w m n f) (u : Up w w') : T.Inn w' m n f := h.same (Below.block u m h.lt)
theorem zeroSp (w : World) : (zeroValue 23).run Try.prog w = .ok (SpV 0 0) w := by kernel_rfl
theorem T.Inn.yes (h : T.Inn w m n f) (hx : T.in64 x) {s : Int × Int} (hs : f x = some s) : (Instr.lookup 139 (.map (some m)) (TwV x.1 x.2) true).run Try.prog w = .ok (.tuple #[SpV s.1 s.2, .bool true]) w := by
  obtain ⟨M, ho, _, ha⟩ := h
  have hat := ha x hx
  rw [hs] at hat
  obtain ⟨v, ps, hrun, hv⟩ := ho.look_ok lawMo Try.underlying139 (zeroSp w) (T.Rs_mk 0 0) (keyOf_mo hx)
  rw [hat] at hv
  rw [hrun, T.Rs_inv hv, Maps.has_true_of_atKey hat]
theorem T.Inn.no (h : T.Inn w m n f) (hx : T.in64 x) (hs : f x = none) : (Instr.lookup 139 (.map (some m)) (TwV x.1 x.2) true).run Try.prog w = .ok (.tuple #[SpV 0 0, .bool false]) w := by
  obtain ⟨M, ho, _, ha⟩ := h
  have hat := ha x hx
  rw [hs] at hat
  obtain ⟨v, ps, hrun, hv⟩ := ho.look_ok lawMo Try.underlying139 (zeroSp w) (T.Rs_mk 0 0) (keyOf_mo hx)
  rw [hat] at hv
  rw [hrun, T.Rs_inv hv, Maps.has_false_of_atKey hat]
theorem T.Inn.made (w : World) : T.Inn (w.alloc (.map #[] 0)) w.heap.size 0 fun _ => none :=
  ⟨.map [], World.ownsMap_made w _ _ _, Maps.isMap_empty, fun _ _ _ => rfl⟩
theorem T.Inn.put (h : T.Inn w m n f) (hn : n < 1000000) (hx : T.in64 x) (s : Int × Int) : ∃ w', (Instr.mapUpdate 139 (.map (some m)) (TwV x.1 x.2) (SpV s.1 s.2)).run Try.prog w = .ok () w' ∧ T.Inn w' m (n + 1) (T.upd f x s) ∧ w.grownBy w' (some m) := by
  obtain ⟨M, ho, hi, ha⟩ := h
  obtain ⟨w', hrun, ho', hg⟩ := ho.update lawMo Try.underlying139 (by unfold maxLen; omega) (keyOf_mo hx) (T.Rs_mk s.1 s.2)
  refine ⟨w', hrun, ⟨_, ho', hi.put _ _, fun y hy z => ?_⟩, hg⟩
  unfold T.upd
  by_cases e : y = x
  · subst e
    rw [if_pos rfl, Maps.atKey_put_same hi (lawMo.key (keyOf_mo hx))]
  · rw [if_neg e, Maps.atKey_put_other (fun q => e (T.key_inj hy hx q)), ha y hy z]
end

end Go.Proofs.Ytlpkheoljbdajaa
