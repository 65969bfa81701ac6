import Derived.Test.YtcmdaiklkdeanaaLim
import Derived.Maps.AppendAt
import Derived.Maps.OwnSet
import Derived.DeepKeys4
/- Maps of moments: of spans, and of maps. -/
namespace Go.Proofs.Ytcmdaiklkdeanaa
open Go.RowKit

theorem lawMo : Maps.Keyed Try.prog 100 := Maps.Keyed.of_law (deep_law_laid (by kernel_rfl) (m := 2) (by omega) (of_decide_eq_true (by kernel_rfl)) (by kernel_rfl) (by rw [Try.underlying100]))
theorem moKeyType : Try.prog.keyType 100 = true := by kernel_rfl
theorem moCells : Try.prog.cellsOf 100 = 2 := by kernel_rfl
theorem intCells : Try.prog.cellsOf 3 = 1 := by kernel_rfl
theorem typesSize : ∃ m, Try.prog.types.size = m + 1 := ⟨Try.prog.types.size - 1, by kernel_rfl⟩
/-- what a moment is as a key -/
def T.key (x : Int × Int) : Lit := .string (keyBytes [.int .i64 x.1, .int .i64 x.2])
def T.in64 (x : Int × Int) : Prop := D.in64 x.1 ∧ D.in64 x.2
theorem D.in64.wf {a : Int} (h : D.in64 a) : (Lit.int .i64 a).wf = true := WalkArith.wf_i64 (by have := h.1; have := h.2; omega)
theorem keyOf_mo {x : Int × Int} (h : T.in64 x) : keyOf Try.prog 100 (MoV x.1 x.2) = some (T.key x) := by
  have wa := h.1.wf
  have wb := h.2.wf
  unfold keyOf
  simp only [Try.underlying100]
  obtain ⟨m, hm⟩ := typesSize
  rw [if_pos (by simp [moKeyType, Value.formed, Try.underlying100, moCells]), hm]
  unfold Program.keyLits
  simp only [Try.underlying100, Value.cells]
  clear hm
  simp [moCells, intCells, Program.keyLits, Try.underlying3, wa, wb, T.key]
theorem T.key_inj {x y : Int × Int} (hx : T.in64 x) (hy : T.in64 y) (h : T.key x = T.key y) : x = y := by
  have := lawMo.inj (keyOf_mo hx) (h ▸ keyOf_mo hy)
  simp only [Value.agg.injEq, Array.mk.injEq, List.cons.injEq, Value.int.injEq] at this
  exact Prod.ext this.1.2 this.2.1.2
/-- what a span is as a datum -/
def T.sd (s : Int × Int) : DataW Nat := .agg [.lit (.int .i64 s.1), .lit (.int .i64 s.2)]
theorem T.sd_inj {a b : Int × Int} (h : T.sd a = T.sd b) : a = b := by
  unfold T.sd at h
  injection h with h
  injection h with h1 h2
  injection h2 with h2 _
  injection h1 with h1; injection h1 with _ h1
  injection h2 with h2; injection h2 with _ h2
  exact Prod.ext h1 h2
/-- how a span reads -/
def T.Rs : Value → Option (DataW Nat × List MemPlace)
  | .agg cs => match cs.toList with
    | [.int .i64 l, .int .i64 h] => some (T.sd (l, h), [])
    | _ => none
  | _ => none
theorem T.Rs_mk (l h : Int) : T.Rs (SpV l h) = some (T.sd (l, h), []) := rfl
theorem T.Rs_inv {v : Value} {s : Int × Int} {ps : List MemPlace} (h : T.Rs v = some (T.sd s, ps)) : v = SpV s.1 s.2 := by
  unfold T.Rs at h
  split at h
  · rename_i cs
    split at h
    · rename_i l u e
      have := T.sd_inj (congrArg Prod.fst (Option.some.inj h))
      subst this
      have e2 : cs = #[.int .i64 l, .int .i64 u] := by rw [← Array.toList_inj]; exact e
      rw [e2]
    · cases h
  · cases h
/-- how a map in a map reads: as its block's number -/
def T.Rm : Value → Option (DataW Nat × List MemPlace)
  | .map (some m) => some (.lit (.int .i64 m), [])
  | .map none => some (.lit (.bool false), [])
  | _ => none
theorem T.Rm_inv {v : Value} {b : Nat} {ps : List MemPlace} (h : T.Rm v = some (.lit (.int .i64 b), ps)) : v = .map (some b) := by
  unfold T.Rm at h
  split at h
  · rename_i m
    have := congrArg Prod.fst (Option.some.inj h)
    injection this with this
    injection this with _ this
    rw [show m = b by omega]
  · have := congrArg Prod.fst (Option.some.inj h)
    injection this with this
    injection this
  · cases h
/-- a map of spans, in memory -/
def T.Inn (w : World) (m n : Nat) (f : Int × Int → Option (Int × Int)) : Prop :=
  ∃ M : DataW Nat, w.ownsMap Try.prog 100 T.Rs m n M ∧ Maps.IsMap M ∧ ∀ x, T.in64 x → ∀ z, M.atKey (T.key x) z = (match f x with | none => z | some s => T.sd s)
/-- a map of maps, in memory -/
def T.Out (w : World) (m n : Nat) (g : Int × Int → Option Nat) : Prop :=
  ∃ M : DataW Nat, w.ownsMap Try.prog 100 T.Rm m n M ∧ Maps.IsMap M ∧ ∀ x, T.in64 x → ∀ z, M.atKey (T.key x) z = (match g x with | none => z | some b => .lit (.int .i64 b))
def T.upd {β : Type} (f : Int × Int → Option β) (x : Int × Int) (s : β) : Int × Int → Option β := fun y => if y = x then some s else f y
section
variable {w w' : World} {m n : Nat} {f : Int × Int → Option (Int × Int)} {g : Int × Int → Option Nat} {x : Int × Int}
theorem T.Inn.lt (h : T.Inn w m n f) : m < w.heap.size := h.elim fun _ h => h.1.lt
theorem T.Out.lt (h : T.Out w m n g) : m < w.heap.size := h.elim fun _ h => h.1.lt
theorem T.Inn.mono (h : T.Inn w m n f) {n' : Nat} (hn : n ≤ n') : T.Inn w m n' f := h.elim fun M h => ⟨M, h.1.mono hn, h.2⟩
theorem T.Out.mono (h : T.Out w m n g) {n' : Nat} (hn : n ≤ n') : T.Out w m n' g := h.elim fun M h => ⟨M, h.1.mono hn, h.2⟩
theorem T.Inn.same (h : T.Inn w m n f) (e : w'.heap[m]? = w.heap[m]?) : T.Inn w' m n f := by
  obtain ⟨M, ⟨es, clock, hh, F, hs, hD⟩, h2⟩ := h
  exact ⟨M, ⟨es, clock, e.trans hh, F, hs, hD⟩, h2⟩
theorem T.Out.same (h : T.Out w m n g) (e : w'.heap[m]? = w.heap[m]?) : T.Out w' m n g := by
  obtain ⟨M, ⟨es, clock, hh, F, hs, hD⟩, h2⟩ := h
  exact ⟨M, ⟨es, clock, e.trans hh, F, hs, hD⟩, h2⟩
theorem T.Inn.up (h : T.Inn w m n f) (u : Up w w') : T.Inn w' m n f := h.same (Below.block u m h.lt)
theorem T.Out.up (h : T.Out w m n g) (u : Up w w') : T.Out w' m n g := h.same (Below.block u m h.lt)
theorem zeroSp (w : World) : (zeroValue 34).run Try.prog w = .ok (SpV 0 0) w := by kernel_rfl
theorem zeroIn (w : World) : (zeroValue 141).run Try.prog w = .ok (.map none) w := by kernel_rfl
theorem T.Inn.yes (h : T.Inn w m n f) (hx : T.in64 x) {s : Int × Int} (hs : f x = some s) : (Instr.lookup 141 (.map (some m)) (MoV x.1 x.2) true).run Try.prog w = .ok (.tuple #[SpV s.1 s.2, .bool true]) w := by
  obtain ⟨M, ho, _, ha⟩ := h
  have hat := ha x hx
  rw [hs] at hat
  obtain ⟨v, ps, hrun, hv⟩ := ho.look_ok lawMo Try.underlying141 (zeroSp w) (T.Rs_mk 0 0) (keyOf_mo hx)
  rw [hat] at hv
  rw [hrun, T.Rs_inv hv, Maps.has_true_of_atKey hat]
theorem T.Inn.no (h : T.Inn w m n f) (hx : T.in64 x) (hs : f x = none) : (Instr.lookup 141 (.map (some m)) (MoV x.1 x.2) true).run Try.prog w = .ok (.tuple #[SpV 0 0, .bool false]) w := by
  obtain ⟨M, ho, _, ha⟩ := h
  have hat := ha x hx
  rw [hs] at hat
  obtain ⟨v, ps, hrun, hv⟩ := ho.look_ok lawMo Try.underlying141 (zeroSp w) (T.Rs_mk 0 0) (keyOf_mo hx)
  rw [hat] at hv
  rw [hrun, T.Rs_inv hv, Maps.has_false_of_atKey hat]
theorem T.Out.look (h : T.Out w m n g) (hx : T.in64 x) {b : Nat} (hs : g x = some b) : (Instr.lookup 139 (.map (some m)) (MoV x.1 x.2) false).run Try.prog w = .ok (.map (some b)) w := by
  obtain ⟨M, ho, _, ha⟩ := h
  have hat := ha x hx
  rw [hs] at hat
  obtain ⟨v, ps, hrun, hv⟩ := ho.lookup lawMo Try.underlying139 (zeroIn w) (show T.Rm (.map none) = some (.lit (.bool false), []) from rfl) (keyOf_mo hx)
  rw [hat] at hv
  rw [hrun, T.Rm_inv hv]
theorem T.Inn.made (w : World) : T.Inn (w.alloc (.map #[] 0)) w.heap.size 0 fun _ => none :=
  ⟨.map [], World.ownsMap_made w _ _ _, Maps.isMap_empty, fun _ _ _ => rfl⟩
theorem T.Out.made (w : World) : T.Out (w.alloc (.map #[] 0)) w.heap.size 0 fun _ => none :=
  ⟨.map [], World.ownsMap_made w _ _ _, Maps.isMap_empty, fun _ _ _ => rfl⟩
theorem T.Inn.put (h : T.Inn w m n f) (hn : n < 1000000) (hx : T.in64 x) (s : Int × Int) : ∃ w', (Instr.mapUpdate 141 (.map (some m)) (MoV x.1 x.2) (SpV s.1 s.2)).run Try.prog w = .ok () w' ∧ T.Inn w' m (n + 1) (T.upd f x s) ∧ w.grownBy w' (some m) := by
  obtain ⟨M, ho, hi, ha⟩ := h
  obtain ⟨w', hrun, ho', hg⟩ := ho.update lawMo Try.underlying141 (by unfold maxLen; omega) (keyOf_mo hx) (T.Rs_mk s.1 s.2)
  refine ⟨w', hrun, ⟨_, ho', hi.put _ _, fun y hy z => ?_⟩, hg⟩
  unfold T.upd
  by_cases e : y = x
  · subst e
    rw [if_pos rfl, Maps.atKey_put_same hi (lawMo.key (keyOf_mo hx))]
  · rw [if_neg e, Maps.atKey_put_other (fun q => e (T.key_inj hy hx q)), ha y hy z]
theorem T.Out.put (h : T.Out w m n g) (hn : n < 1000000) (hx : T.in64 x) (b : Nat) : ∃ w', (Instr.mapUpdate 139 (.map (some m)) (MoV x.1 x.2) (.map (some b))).run Try.prog w = .ok () w' ∧ T.Out w' m (n + 1) (T.upd g x b) ∧ w.grownBy w' (some m) := by
  obtain ⟨M, ho, hi, ha⟩ := h
  obtain ⟨w', hrun, ho', hg⟩ := ho.update lawMo Try.underlying139 (by unfold maxLen; omega) (keyOf_mo hx) (show T.Rm (.map (some b)) = some (.lit (.int .i64 b), []) from rfl)
  refine ⟨w', hrun, ⟨_, ho', hi.put _ _, fun y hy z => ?_⟩, hg⟩
  unfold T.upd
  by_cases e : y = x
  · subst e
    rw [if_pos rfl, Maps.atKey_put_same hi (lawMo.key (keyOf_mo hx))]
  · rw [if_neg e, Maps.atKey_put_other (fun q => e (T.key_inj hy hx q)), ha y hy z]
end
/-- what is known of moments, in memory: a map of maps, one for each of some moments -/
structure T.Know (w : World) (m : Nat) (D : List (Int × Int)) (g : Int × Int → Nat) (K : Int × Int → Int × Int → Option (Int × Int)) (N : Nat) : Prop where
  out : T.Out w m 1000 fun x => if x ∈ D then some (g x) else none
  inn : ∀ x, x ∈ D → T.Inn w (g x) N (K x)
  ne : ∀ x, x ∈ D → g x ≠ m
  inj : ∀ x y, x ∈ D → y ∈ D → g x = g y → x = y
  dom : ∀ x, x ∈ D → T.in64 x
theorem T.Know.up {w w' : World} {m : Nat} {D : List (Int × Int)} {g : Int × Int → Nat} {K : Int × Int → Int × Int → Option (Int × Int)} {N : Nat} (h : T.Know w m D g K N) (u : Up w w') : T.Know w' m D g K N :=
  ⟨h.out.up u, fun x hx => (h.inn x hx).up u, h.ne, h.inj, h.dom⟩
/-- one span more is known -/
def T.put2 (K : Int × Int → Int × Int → Option (Int × Int)) (x y : Int × Int) (s : Int × Int) : Int × Int → Int × Int → Option (Int × Int) := fun a => if a = x then T.upd (K x) y s else K a
theorem T.Know.put {w w' : World} {m : Nat} {D : List (Int × Int)} {g : Int × Int → Nat} {K : Int × Int → Int × Int → Option (Int × Int)} {N : Nat} (h : T.Know w m D g K N) {x y s : Int × Int} (hx : x ∈ D) (hi : T.Inn w' (g x) (N + 1) (T.upd (K x) y s)) (hg : w.grownBy w' (some (g x))) : T.Know w' m D g (T.put2 K x y s) (N + 1) := by
  refine ⟨h.out.same (hg.block _ h.out.lt (fun e => h.ne x hx (Option.some.inj e).symm)), fun a ha => ?_, h.ne, h.inj, h.dom⟩
  unfold T.put2
  by_cases e : a = x
  · subst e; rw [if_pos rfl]; exact hi
  · rw [if_neg e]
    exact ((h.inn a ha).same (hg.block _ (h.inn a ha).lt (fun q => e (h.inj a x ha hx (Option.some.inj q))))).mono (Nat.le_succ N)

end Go.Proofs.Ytcmdaiklkdeanaa
