import Derived.Test.YtcmdaiklkdeanaaTtu
/- Offsets as a whole: how they lie in memory; they are read, stored, built, compared; where an offset stands. -/
namespace Go.Proofs.Ytcmdaiklkdeanaa
open Go.RowKit

theorem cell_off {w : World} {b : Nat} {cs : Array Value} (h : mblk w b = some (.cells cs 87 (0, 0))) (j : Nat) : w.cell? ⟨b, j, none⟩ = cs[j]? := cellB h j
attribute [go_sem] cell_off
/-- where the offset of a moment stands -/
def T.pl (m : Int × Int) : Nat := (m.1 + 1).toNat * 13 + m.2.toNat
/-- is a moment one that has a place? -/
def T.in6 (m : Int × Int) : Prop := (-1 ≤ m.1 ∧ m.1 ≤ 4) ∧ (0 ≤ m.2 ∧ m.2 ≤ 12)
theorem T.in6.lt {m : Int × Int} (h : T.in6 m) : T.pl m < 78 := by
  obtain ⟨⟨h1, h2⟩, h3, h4⟩ := h
  unfold T.pl; omega
theorem T.pl_inj {m k : Int × Int} (h : T.in6 m) (h' : T.in6 k) (e : T.pl m = T.pl k) : m = k := by
  obtain ⟨⟨h1, h2⟩, h3, h4⟩ := h
  obtain ⟨⟨k1, k2⟩, k3, k4⟩ := h'
  unfold T.pl at e
  exact Prod.ext (by omega) (by omega)
/-- the moment of a place -/
def T.mo (i : Nat) : Int × Int := ((i / 13 : Nat) - 1, (i % 13 : Nat))
theorem T.mo_in {i : Nat} (h : i < 78) : T.in6 (T.mo i) := by
  unfold T.mo T.in6
  exact ⟨⟨by omega, by omega⟩, by omega, by omega⟩
theorem T.pl_mo {i : Nat} : T.pl (T.mo i) = i := by
  unfold T.mo T.pl
  simp only
  omega
/-- the cells of offsets -/
structure T.OC (cs : Array Value) (o : Int × Int → Int) : Prop where
  size : cs.size = 78
  at_ : ∀ m, T.in6 m → cs[T.pl m]? = some (.int .i64 (o m))
def T.put (o : Int × Int → Int) (m : Int × Int) (v : Int) : Int × Int → Int := fun k => if k = m then v else o k
theorem T.OC.put {cs : Array Value} {o : Int × Int → Int} (h : T.OC cs o) {m : Int × Int} (hm : T.in6 m) (v : Int) : T.OC (cs.setIfInBounds (T.pl m) (.int .i64 v)) (T.put o m v) := by
  refine ⟨by rw [Array.size_setIfInBounds, h.size], fun k hk => ?_⟩
  unfold T.put
  by_cases e : k = m
  · subst e
    rw [if_pos rfl, Array.getElem?_setIfInBounds_self_of_lt (by rw [h.size]; exact hm.lt)]
  · rw [if_neg e, Array.getElem?_setIfInBounds_ne (fun q => e (T.pl_inj hk hm q.symm))]
    exact h.at_ k hk
def Ok78 (cs : Array Value) : Prop := cs.size = 78 ∧ cs.all (·.oneCell') = true
theorem T.OC.one {cs : Array Value} {o : Int × Int → Int} (h : T.OC cs o) : Ok78 cs := by
  refine ⟨h.size, ?_⟩
  rw [Array.all_eq_true]
  intro i hi
  have hs := h.size
  have e : cs[i]? = some cs[i] := Array.getElem?_eq_getElem hi
  have q := h.at_ (T.mo i) (T.mo_in (by omega))
  rw [T.pl_mo, e] at q
  rw [Option.some.inj q]; rfl
theorem T.OC.inj {cs : Array Value} {o o' : Int × Int → Int} (h : T.OC cs o) (h' : T.OC cs o') (m : Int × Int) (hm : T.in6 m) : o m = o' m := by
  have a := (h.at_ m hm).symm.trans (h'.at_ m hm)
  injection a with a; injection a
def offLoad (v : Value) : Sem Value := Instr.loadAt 87 v
theorem offLoad_eq (v : Value) : Instr.loadAt 87 v = offLoad v := rfl
theorem Try.infoOff : (Try.prog.info? 87).map (·.size) = some 78 := by kernel_rfl
theorem run_offLoad (w : World) (b : Nat) (cs : Array Value) (hg : mblk w b = some (.cells cs 87 (0, 0))) (hs : Hid (cs.size = 78)) : (offLoad (.pointer (some ⟨b, 0, none⟩))).run Try.prog w = .ok (.agg cs) w := by
  have q := run_loadVar_row w b 87 87 cs (0, 0) _ hg Try.underlying87 rfl (by rw [Try.infoOff, hs.out])
  simp only [offLoad, Instr.loadAt, Instr.sureAddr, Sem.run_bind, Sem.run_pure, Result.andThen_ok, q]
def offStore (p v : Value) : Sem Unit := Instr.storeAt 87 p v
theorem offStore_eq (p v : Value) : Instr.storeAt 87 p v = offStore p v := rfl
theorem run_offStore (w : World) (c cs : Array Value) (n : Nat) (hn : n = w.heap.size) (hc : Hid (c.size = 78)) (hs : Ok78 cs) :
    (offStore (.pointer (some ⟨n, 0, none⟩)) (.agg cs)).run Try.prog (w.alloc (.cells c 87)) = .ok () (w.alloc (.cells cs 87)) := by
  subst hn
  have q := run_storeVar_new (P := Try.prog) w 87 c cs (by rw [Try.infoOff, hs.1]) (by rw [hc.out, hs.1]) hs.2
  simp only [offStore, Instr.storeAt, Instr.sureAddr, Sem.run_bind, Sem.run_pure, Result.andThen_ok, q]
theorem run_offStore_row (w : World) (b : Nat) (old cs : Array Value) (hg : mblk w b = some (.cells old 87 (0, 0))) (ho : Hid (old.size = 78)) (hs : Ok78 cs) :
    (offStore (.pointer (some ⟨b, 0, none⟩)) (.agg cs)).run Try.prog w = .ok () (w.setRow b cs) := by
  have q := run_storeVar_row (P := Try.prog) w b 87 87 old cs hg (by rw [Try.infoOff, hs.1]) (by rw [ho.out, hs.1]) hs.2
  simp only [offStore, Instr.storeAt, Instr.sureAddr, Sem.run_bind, Sem.run_pure, Result.andThen_ok, q]
/-- the cells of no offsets -/
def OZ : Array Value := Array.replicate 78 (.int .i64 0)
theorem OZ_size : OZ.size = 78 := by unfold OZ; exact Array.size_replicate
theorem OZ_ok : Ok78 OZ := ⟨OZ_size, by unfold OZ; rw [Array.all_replicate]; simp [Value.oneCell']⟩
theorem OZ_at (i : Nat) (hi : i < 78) : OZ[i]? = some (.int .i64 0) := by unfold OZ; rw [Array.getElem?_replicate, if_pos hi]
theorem OZ_oc : T.OC OZ (fun _ => 0) := ⟨OZ_size, fun _ hm => OZ_at _ hm.lt⟩
def offAlloc : Sem Value := Instr.alloc 87 true (.tuple #[])
theorem offAlloc_eq : Instr.alloc 87 true (.tuple #[]) = offAlloc := rfl
theorem run_offAlloc (w : World) : offAlloc.run Try.prog w = .ok (.pointer (some ⟨w.heap.size, 0, none⟩)) (w.alloc (.cells OZ 87)) := by kernel_rfl
def offBuild : Sem Value := Instr.build 87 #[]
theorem offBuild_eq : Instr.build 87 #[] = offBuild := rfl
theorem run_offBuild (w : World) : offBuild.run Try.prog w = .ok (.agg OZ) w := by kernel_rfl
attribute [go_sem ↓] offLoad_eq offStore_eq offAlloc_eq offBuild_eq
attribute [go_sem] run_offLoad run_offStore run_offAlloc run_offBuild
theorem mapM_some {α β : Type} (f : α → Option β) (g : α → β) (l : List α) (h : ∀ x ∈ l, f x = some (g x)) : l.mapM f = some (l.map g) := by
  induction l with
  | nil => rfl
  | cons x l ih =>
    rw [List.mapM_cons, h x (List.mem_cons_self ..), ih fun y hy => h y (List.mem_cons_of_mem _ hy)]
    rfl
theorem ktOff : Try.prog.keyTypeAt 3 87 = true := by kernel_rfl
theorem cOff : Try.prog.cellsOf 87 = 78 := by kernel_rfl
theorem cRow : Try.prog.cellsOf 85 = 13 := by kernel_rfl
/-- no offset goes farther than can be counted -/
def T.Fine (o : Int × Int → Int) : Prop := ∀ m, T.in6 m → D.in64 (o m)
theorem klRow {f : Nat → Int} (hf : ∀ i, i < 13 → D.in64 (f i)) : Try.prog.keyLits 2 85 ((List.range 13).map fun i => Value.int .i64 (f i)) = some ((List.range 13).map fun i => Lit.int .i64 (f i)) := by
  have u := Try.underlying85
  unfold Program.keyLits
  simp only [u]
  rw [if_pos (by rw [List.length_map, List.length_range, cRow]), intCells]
  rw [mapM_some _ (fun i => [Lit.int .i64 (f i)])]
  · rfl
  · intro i hi
    rw [List.mem_range] at hi
    have e : (((List.range 13).map fun i => Value.int .i64 (f i)).drop (i * 1)).take 1 = [.int .i64 (f i)] := by
      rw [Nat.mul_one, List.drop_eq_getElem_cons (by simpa using hi)]
      simp
    rw [e]
    have w1 := (hf i hi).wf
    simp [Program.keyLits, Try.underlying3, w1]
theorem klOff {cs : Array Value} {o : Int × Int → Int} (h : T.OC cs o) (F : T.Fine o) : Try.prog.keyLits 3 87 cs.toList = some ((List.range 6).map fun (r : Nat) => (List.range 13).map fun (i : Nat) => Lit.int .i64 (o ((r : Int) - 1, (i : Int)))).flatten := by
  have u := Try.underlying87
  unfold Program.keyLits
  simp only [u]
  rw [if_pos (by rw [Array.length_toList, h.size, cOff]), cRow]
  rw [mapM_some _ (fun (r : Nat) => (List.range 13).map fun (i : Nat) => Lit.int .i64 (o ((r : Int) - 1, (i : Int))))]
  · rfl
  · intro r hr
    rw [List.mem_range] at hr
    have hin : ∀ i : Nat, i < 13 → T.in6 ((r : Int) - 1, (i : Int)) := fun i hi => ⟨⟨by show -1 ≤ (r : Int) - 1; omega, by show (r : Int) - 1 ≤ 4; omega⟩, by show (0 : Int) ≤ i; omega, by show (i : Int) ≤ 12; omega⟩
    have e : (cs.toList.drop (r * 13)).take 13 = (List.range 13).map fun (i : Nat) => Value.int .i64 (o ((r : Int) - 1, (i : Int))) := by
      refine List.ext_getElem? fun i => ?_
      rw [List.getElem?_take, List.getElem?_drop, Array.getElem?_toList, List.getElem?_map]
      by_cases hi : i < 13
      · have q := h.at_ _ (hin i hi)
        rw [show T.pl ((r : Int) - 1, (i : Int)) = r * 13 + i by unfold T.pl; simp only; omega] at q
        rw [if_pos hi, q, List.getElem?_range hi]
        rfl
      · rw [if_neg hi, List.getElem?_eq_none (by simpa using hi)]
        rfl
    rw [e]
    exact klRow fun i hi => F _ (hin i hi)
theorem flat_inj (o o' : Int × Int → Int) : (((List.range 6).map fun (r : Nat) => (List.range 13).map fun (i : Nat) => Lit.int .i64 (o ((r : Int) - 1, (i : Int)))).flatten = ((List.range 6).map fun (r : Nat) => (List.range 13).map fun (i : Nat) => Lit.int .i64 (o' ((r : Int) - 1, (i : Int)))).flatten) ↔ ∀ m, T.in6 m → o m = o' m := by
  constructor
  · rintro e ⟨c, h⟩ ⟨⟨h1, h2⟩, h3, h4⟩
    simp only at h1 h2 h3 h4
    simp only [List.range_succ, List.range_zero, List.map_nil, List.map_cons, List.nil_append, List.cons_append, List.flatten_cons, List.flatten_nil, List.append_nil, List.cons.injEq, Lit.int.injEq, true_and, and_true] at e
    have hc : c = -1 ∨ c = 0 ∨ c = 1 ∨ c = 2 ∨ c = 3 ∨ c = 4 := by omega
    have hh : h = 0 ∨ h = 1 ∨ h = 2 ∨ h = 3 ∨ h = 4 ∨ h = 5 ∨ h = 6 ∨ h = 7 ∨ h = 8 ∨ h = 9 ∨ h = 10 ∨ h = 11 ∨ h = 12 := by omega
    rcases hc with rfl | rfl | rfl | rfl | rfl | rfl <;> rcases hh with rfl | rfl | rfl | rfl | rfl | rfl | rfl | rfl | rfl | rfl | rfl | rfl | rfl <;> simp_all
  · intro e
    congr 1
    refine List.map_congr_left fun r hr => List.map_congr_left fun i hi => ?_
    rw [List.mem_range] at hr hi
    rw [e _ ⟨⟨by show -1 ≤ (r : Int) - 1; omega, by show (r : Int) - 1 ≤ 4; omega⟩, by show (0 : Int) ≤ i; omega, by show (i : Int) ≤ 12; omega⟩]
theorem eqOff {cs cs' : Array Value} {o o' : Int × Int → Int} (h : T.OC cs o) (h' : T.OC cs' o') (F : T.Fine o) (F' : T.Fine o') : ∃ r : Bool, (r = true ↔ ∀ m, T.in6 m → o m = o' m) ∧ ∀ w, (Op.equalIn 10000 87 (.agg cs) (.agg cs')).run Try.prog w = .ok r w := by
  have hd := run_equalIn_deep (P := Try.prog) 9997 3 87 ktOff
  have u := Try.underlying87
  have f1 : (Value.agg cs).formed Try.prog 87 = true := by unfold Value.formed; simp only [u]; rw [h.size, cOff]; rfl
  have f2 : (Value.agg cs').formed Try.prog 87 = true := by unfold Value.formed; simp only [u]; rw [h'.size, cOff]; rfl
  haveI : Decidable (∀ m, T.in6 m → o m = o' m) := Classical.propDecidable _
  refine ⟨decide (∀ m, T.in6 m → o m = o' m), by simp, fun w => ?_⟩
  obtain ⟨r, hr, hi⟩ := hd w 3 3 _ _ _ _ f1 f2 (klOff h F) (klOff h' F')
  have e : r = decide (∀ m, T.in6 m → o m = o' m) := by
    rw [Bool.eq_iff_iff, hi, decide_eq_true_iff]
    exact flat_inj o o'
  rw [e] at hr
  exact hr

theorem Up.drewN {w w' : World} (h : Up w w') (n : Nat) : Up w (w'.drewN n) := ⟨h.os, h.tape, h.output, h.size, h.block⟩
set_option maxRecDepth 100000 in
theorem oat_nat {r i B : Nat} {w : World} (hr : r < 6) (hi : i < 13) : Calls Try.prog 72 #[.pointer (some ⟨B, 0, none⟩), MoV ((r : Int) - 1) i] w fun e w' => e = .returned (.pointer (some ⟨B, r * 13 + i, none⟩)) ∧ Up w w' := by
  have U := (Up.refl w).alloc (.cells #[.int .i64 ((r : Int) - 1), .int .i64 i] 100)
  have e1 : IntKind.i64.wrap ((r : Int) - 1 + 1) = r := by
    rw [show (r : Int) - 1 + 1 = r by omega]; exact IntWalk.i64_in _ (by omega)
  generalize (r : Int) - 1 = c at *
  go_enter Try.func72, Try.ntmps72
  go_wp2_with fail
  go_quiet (fail)
  rename_i K1 hK1
  refine hK1 _ _ ?_
  go_wp2
  go_ret
  exact ⟨rfl, U.drewN nq⟩
theorem oat_any {m : Int × Int} {B : Nat} {w : World} (hm : T.in6 m) : Calls Try.prog 72 #[.pointer (some ⟨B, 0, none⟩), MoV m.1 m.2] w fun e w' => e = .returned (.pointer (some ⟨B, T.pl m, none⟩)) ∧ Up w w' := by
  obtain ⟨c, h⟩ := m
  obtain ⟨⟨h1, h2⟩, h3, h4⟩ := hm
  simp only at h1 h2 h3 h4
  have q := oat_nat (r := (c + 1).toNat) (i := h.toNat) (B := B) (w := w) (by omega) (by omega)
  rw [show (((c + 1).toNat : Nat) : Int) - 1 = c by omega, show ((h.toNat : Nat) : Int) = h by omega] at q
  exact q
end Go.Proofs.Ytcmdaiklkdeanaa
