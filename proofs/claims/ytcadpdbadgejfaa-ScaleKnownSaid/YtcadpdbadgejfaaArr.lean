import Derived.Test.YtcadpdbadgejfaaBnd
import Derived.Deep.WholeRow
import Derived.DeepKeys
/- Offsets as a whole: they are read, stored, built, compared. -/
namespace Go.Proofs.Ytcadpdbadgejfaa
open Go.RowKit

def offLoad (v : Value) : Sem Value := Instr.loadAt 108 v
theorem offLoad_eq (v : Value) : Instr.loadAt 108 v = offLoad v := rfl
theorem Try.infoOff : (Try.prog.info? 108).map (·.size) = some 122 := by kernel_rfl
theorem run_offLoad (w : World) (b : Nat) (cs : Array Value) (hg : mblk w b = some (.cells cs 108 (0, 0))) (hs : Hid (cs.size = 122)) : (offLoad (.pointer (some ⟨b, 0, none⟩))).run Try.prog w = .ok (.agg cs) w := by
  have q := run_loadVar_row w b 108 108 cs (0, 0) _ hg Try.underlying108 rfl (by rw [Try.infoOff, hs.out])
  simp only [offLoad, Instr.loadAt, Instr.sureAddr, Sem.run_bind, Sem.run_pure, Result.andThen_ok, q]
def Ok122 (cs : Array Value) : Prop := cs.size = 122 ∧ cs.all (·.oneCell') = true
def offStore (p v : Value) : Sem Unit := Instr.storeAt 108 p v
theorem offStore_eq (p v : Value) : Instr.storeAt 108 p v = offStore p v := rfl
theorem run_offStore (w : World) (c cs : Array Value) (n : Nat) (hn : n = w.heap.size) (hc : Hid (c.size = 122)) (hs : Ok122 cs) :
    (offStore (.pointer (some ⟨n, 0, none⟩)) (.agg cs)).run Try.prog (w.alloc (.cells c 108)) = .ok () (w.alloc (.cells cs 108)) := by
  subst hn
  have q := run_storeVar_new (P := Try.prog) w 108 c cs (by rw [Try.infoOff, hs.1]) (by rw [hc.out, hs.1]) hs.2
  simp only [offStore, Instr.storeAt, Instr.sureAddr, Sem.run_bind, Sem.run_pure, Result.andThen_ok, q]
theorem run_offStore_row (w : World) (b : Nat) (old cs : Array Value) (hg : mblk w b = some (.cells old 108 (0, 0))) (ho : Hid (old.size = 122)) (hs : Ok122 cs) :
    (offStore (.pointer (some ⟨b, 0, none⟩)) (.agg cs)).run Try.prog w = .ok () (w.setRow b cs) := by
  have q := run_storeVar_row (P := Try.prog) w b 108 108 old cs hg (by rw [Try.infoOff, hs.1]) (by rw [ho.out, hs.1]) hs.2
  simp only [offStore, Instr.storeAt, Instr.sureAddr, Sem.run_bind, Sem.run_pure, Result.andThen_ok, q]
/-- the cells of no offsets -/
def OZ : Array Value := Array.replicate 122 (.int .i64 0)
theorem OZ_size : OZ.size = 122 := by unfold OZ; exact Array.size_replicate
theorem OZ_ok : Ok122 OZ := ⟨OZ_size, by unfold OZ; rw [Array.all_replicate]; simp [Value.oneCell']⟩
theorem OZ_at (i : Nat) (hi : i < 122) : OZ[i]? = some (.int .i64 0) := by unfold OZ; rw [Array.getElem?_replicate, if_pos hi]
def offAlloc : Sem Value := Instr.alloc 108 true (.tuple #[])
theorem offAlloc_eq : Instr.alloc 108 true (.tuple #[]) = offAlloc := rfl
theorem run_offAlloc (w : World) : offAlloc.run Try.prog w = .ok (.pointer (some ⟨w.heap.size, 0, none⟩)) (w.alloc (.cells OZ 108)) := by kernel_rfl
def offBuild : Sem Value := Instr.build 108 #[]
theorem offBuild_eq : Instr.build 108 #[] = offBuild := rfl
theorem run_offBuild (w : World) : offBuild.run Try.prog w = .ok (.agg OZ) w := by kernel_rfl
attribute [go_sem ↓] offLoad_eq offStore_eq offAlloc_eq offBuild_eq
attribute [go_sem] run_offLoad run_offStore run_offAlloc run_offBuild
theorem results_off {fn : Func} {p u : Tmp} (h : fn.results = #[.cell p 108, .tmp u]) (tmps : Array Value) (w : World) (g : Nat) (cs : Array Value) (hp : tmps.getD p undef = .pointer (some ⟨g, 0, none⟩)) (hg : mblk w g = some (.cells cs 108 (0, 0))) (hs : cs.size = 122) :
    (results fn tmps).run Try.prog w = .ok (.tuple #[.agg cs, tmps.getD u undef]) w := by
  rw [results_cell_tmp h, hp]
  simp only [asAddr, Sem.run_pure, Result.andThen_ok, run_loadVar_row w g 108 108 cs (0, 0) _ hg Try.underlying108 rfl (by rw [Try.infoOff, hs])]
theorem S.OC.one {cs : Array Value} {o : S.Ofs} (h : S.OC cs o) : Ok122 cs := by
  refine ⟨h.size, ?_⟩
  rw [Array.all_eq_true]
  intro i hi
  have hs := h.size
  have e : cs[i]? = some cs[i] := Array.getElem?_eq_getElem hi
  by_cases h2 : i % 2 = 0
  · have := h.lo (i / 2) (by omega)
    rw [show i / 2 * 2 = i by omega, e] at this
    rw [Option.some.inj this]; rfl
  · have := h.hi (i / 2) (by omega)
    rw [show i / 2 * 2 + 1 = i by omega, e] at this
    rw [Option.some.inj this]; rfl
theorem S.OC.put {cs : Array Value} {o : S.Ofs} (h : S.OC cs o) {t : Nat} (ht : t < 61) (l u : Int) : S.OC ((cs.setIfInBounds (t * 2) (.int .i64 l)).setIfInBounds (t * 2 + 1) (.int .i64 u)) (S.put o t (l, u)) := by
  have hs := h.size
  refine ⟨by rw [Array.size_setIfInBounds, Array.size_setIfInBounds, hs], fun i hi => ?_, fun i hi => ?_⟩
  · by_cases e : i = t
    · subst e
      rw [S.put_self, Array.getElem?_setIfInBounds_ne (by omega), Array.getElem?_setIfInBounds_self_of_lt (by omega)]
    · rw [S.put_ne _ _ e, Array.getElem?_setIfInBounds_ne (by omega), Array.getElem?_setIfInBounds_ne (by omega)]
      exact h.lo i hi
  · by_cases e : i = t
    · subst e
      rw [S.put_self, Array.getElem?_setIfInBounds_self_of_lt (by rw [Array.size_setIfInBounds]; omega)]
    · rw [S.put_ne _ _ e, Array.getElem?_setIfInBounds_ne (by omega), Array.getElem?_setIfInBounds_ne (by omega)]
      exact h.hi i hi
/-- the same cells, the same offsets -/
theorem S.OC.inj {cs : Array Value} {o o' : S.Ofs} (h : S.OC cs o) (h' : S.OC cs o') (i : Nat) (hi : i < 61) : o i = o' i := by
  have a := (h.lo i hi).symm.trans (h'.lo i hi)
  have b := (h.hi i hi).symm.trans (h'.hi i hi)
  injection a with a; injection a with _ a
  injection b with b; injection b with _ b
  exact Prod.ext a b

section
variable {f s j : Int} {a a' : Option Addr} {n1 c n2 c' : Nat}
theorem bounds_any {dl dh ticks : Int} (cs : Array Value) (t : Nat) (w : World) : Calls Try.prog 108 #[BV f s j dl dh ticks (.slice a n1 c) (.slice a' n2 c'), .agg cs, .int .i64 t] w fun e w' =>
    e = .returned (.func (.func 116) #[] #[.pointer (some ⟨w.heap.size, 0, none⟩), .pointer (some ⟨w.heap.size + 1 + 1, 0, none⟩), .pointer (some ⟨w.heap.size + 1, 0, none⟩)]) ∧ ((w.alloc (.cells (BC f s j dl dh ticks (.slice a n1 c) (.slice a' n2 c')) 104)).alloc (.cells cs 108)).alloc (.cells #[.int .i64 t] 3) = w' := by
  go_enter Try.func108, Try.ntmps108
  go_wp2
  go_ret
  exact ⟨rfl, rfl⟩
/-- the iterator's contract -/
theorem bounds_stops {b : S.Bk} (hb : b.Good) {o : S.Ofs} (hF : S.Fine o) {t : Nat} (ht : t ≤ b.ticks) {cs : Array Value} (hcs : S.OC cs o) {n : Nat} (hn : 1 ≤ n) {sb b1 b2 b3 : Nat} {w0 w : World} (hw0 : S.Same w0 w) (hsb : w0.heap.size ≤ sb)
    (k1 : mblk w b1 = some (.cells (BC f s j b.lo b.hi b.ticks (.slice a n1 c) (.slice a' n2 c')) 104 (0, 0))) (k2 : mblk w b2 = some (.cells #[.int .i64 t] 3 (0, 0))) (k3 : mblk w b3 = some (.cells cs 108 (0, 0)))
    (I : Ints w0 (.slice a n1 c) b.steer) (I' : Lks w0 (.slice a' n2 c') b.looks) (hne : b1 ≠ sb ∧ b2 ≠ sb ∧ b3 ≠ sb) :
    SeqStopsK Fence.wide n Try.prog 116 #[.pointer (some ⟨b1, 0, none⟩), .pointer (some ⟨b2, 0, none⟩), .pointer (some ⟨b3, 0, none⟩)]
      (fun x : Int × Int => #[SpV x.1 x.2]) (S.Ky sb w.heap.size) (fun xs => xs = b.bounds o t) (fun pre => pre <+: b.bounds o t) (b.bounds o t).length w := by
  intro l J Jx W hW hJ _ hY h0
  exact bounds1_in hb hF ht hcs hn hw0 hsb k1 k2 k3 I I' hne J Jx W (S.ky_of hW)
    (fun s X Y hX hU => hJ s X Y none hX ⟨hU.os, hU.tape, hU.output, hU.size, fun j hj _ => Below.block hU j hj⟩ (by simp)) hY h0
end

theorem pair_len {α : Type} (g h : Nat → α) (n : Nat) : ((List.range n).flatMap fun i => [g i, h i]).length = 2 * n := by
  induction n with
  | zero => rfl
  | succ n ih => rw [List.range_succ, List.flatMap_append, List.length_append, ih]; simp; omega
theorem pair_at {α : Type} (g h : Nat → α) (n i : Nat) (hi : i < n) : ((List.range n).flatMap fun i => [g i, h i])[i * 2]? = some (g i) ∧ ((List.range n).flatMap fun i => [g i, h i])[i * 2 + 1]? = some (h i) := by
  induction n with
  | zero => omega
  | succ n ih =>
    have hl := pair_len g h n
    rw [List.range_succ, List.flatMap_append]
    by_cases e : i = n
    · subst e
      rw [List.getElem?_append_right (by omega), List.getElem?_append_right (by omega), hl]
      rw [show i * 2 - 2 * i = 0 by omega, show i * 2 + 1 - 2 * i = 1 by omega]
      simp
    · rw [List.getElem?_append_left (by omega), List.getElem?_append_left (by omega)]
      exact ih (by omega)
theorem mapM_some {α β : Type} (f : α → Option β) (g : α → β) (l : List α) (h : ∀ x ∈ l, f x = some (g x)) : l.mapM f = some (l.map g) := by
  induction l with
  | nil => rfl
  | cons x l ih =>
    rw [List.mapM_cons, h x (List.mem_cons_self ..), ih fun y hy => h y (List.mem_cons_of_mem _ hy)]
    rfl
theorem ktOff : Try.prog.keyTypeAt 3 108 = true := by kernel_rfl
theorem cOff : Try.prog.cellsOf 108 = 122 := by kernel_rfl
theorem cSpan : Try.prog.cellsOf 23 = 2 := by kernel_rfl
theorem cInt : Try.prog.cellsOf 3 = 1 := by kernel_rfl
theorem klSpan (x y : Int) (hx : -20000 ≤ x ∧ x ≤ 20000) (hy : -20000 ≤ y ∧ y ≤ 20000) : Try.prog.keyLits 2 23 [.int .i64 x, .int .i64 y] = some [.int .i64 x, .int .i64 y] := by
  have w1 : (Lit.int .i64 x).wf = true := WalkArith.wf_i64 (by omega)
  have w2 : (Lit.int .i64 y).wf = true := WalkArith.wf_i64 (by omega)
  simp [Program.keyLits, Try.underlying23, Try.underlying3, cSpan, cInt, w1, w2]
theorem klOff {cs : Array Value} {o : S.Ofs} (h : S.OC cs o) (F : S.Fine o) : Try.prog.keyLits 3 108 cs.toList = some ((List.range 61).flatMap fun i => [Lit.int .i64 (o i).1, Lit.int .i64 (o i).2]) := by
  have u := Try.underlying108
  unfold Program.keyLits
  simp only [u]
  rw [if_pos (by rw [Array.length_toList, h.size, cOff]), cSpan]
  rw [mapM_some _ (fun i => [Lit.int .i64 (o i).1, Lit.int .i64 (o i).2])]
  · rfl
  · intro i hi
    rw [List.mem_range] at hi
    have f := F i
    have hl : cs.toList.length = 122 := by rw [Array.length_toList, h.size]
    have e0 : cs.toList[i * 2]? = _ := (Array.getElem?_toList).trans (h.lo i hi)
    have e1 : cs.toList[i * 2 + 1]? = _ := (Array.getElem?_toList).trans (h.hi i hi)
    have e : (cs.toList.drop (i * 2)).take 2 = [.int .i64 (o i).1, .int .i64 (o i).2] := by
      rw [List.drop_eq_getElem_cons (by omega), List.drop_eq_getElem_cons (by omega)]
      rw [List.getElem?_eq_getElem (by omega)] at e0 e1
      rw [Option.some.inj e0, Option.some.inj e1]
      rfl
    rw [e]
    exact klSpan _ _ (by omega) (by omega)
theorem flat_inj (o o' : S.Ofs) (n : Nat) : (((List.range n).flatMap fun i => [Lit.int .i64 (o i).1, Lit.int .i64 (o i).2]) = (List.range n).flatMap fun i => [Lit.int .i64 (o' i).1, Lit.int .i64 (o' i).2]) ↔ ∀ i, i < n → o i = o' i := by
  constructor
  · intro e i hlt
    have a := pair_at (fun i => Lit.int .i64 (o i).1) (fun i => Lit.int .i64 (o i).2) n i hlt
    have b := pair_at (fun i => Lit.int .i64 (o' i).1) (fun i => Lit.int .i64 (o' i).2) n i hlt
    rw [e] at a
    have a1 := Option.some.inj (a.1.symm.trans b.1)
    have a2 := Option.some.inj (a.2.symm.trans b.2)
    simp only [Lit.int.injEq, true_and] at a1 a2
    exact Prod.ext a1 a2
  · intro e
    induction n with
    | zero => rfl
    | succ n ih =>
      rw [List.range_succ, List.flatMap_append, List.flatMap_append, ih fun i hi => e i (by omega)]
      simp [e n (by omega)]
theorem eqOff {cs cs' : Array Value} {o o' : S.Ofs} (h : S.OC cs o) (h' : S.OC cs' o') (F : S.Fine o) (F' : S.Fine o') : ∃ r : Bool, (r = true ↔ ∀ i, i < 61 → o i = o' i) ∧ ∀ w, (Op.equalIn 10000 108 (.agg cs) (.agg cs')).run Try.prog w = .ok r w := by
  have hd := run_equalIn_deep (P := Try.prog) 9997 3 108 ktOff
  have u := Try.underlying108
  have f1 : (Value.agg cs).formed Try.prog 108 = true := by unfold Value.formed; simp only [u]; rw [h.size, cOff]; rfl
  have f2 : (Value.agg cs').formed Try.prog 108 = true := by unfold Value.formed; simp only [u]; rw [h'.size, cOff]; rfl
  haveI : Decidable (∀ i, i < 61 → o i = o' i) := Classical.propDecidable _
  refine ⟨decide (∀ i, i < 61 → o i = o' i), by simp, fun w => ?_⟩
  obtain ⟨r, hr, hi⟩ := hd w 3 3 _ _ _ _ f1 f2 (klOff h F) (klOff h' F')
  have e : r = decide (∀ i, i < 61 → o i = o' i) := by
    rw [Bool.eq_iff_iff, hi, decide_eq_true_iff]
    exact flat_inj o o' 61
  rw [e] at hr
  exact hr
end Go.Proofs.Ytcadpdbadgejfaa
