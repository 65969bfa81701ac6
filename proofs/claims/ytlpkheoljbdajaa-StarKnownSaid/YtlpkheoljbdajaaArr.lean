import Derived.Test.YtlpkheoljbdajaaNwb
/- Numbers as a whole: how they lie in memory; they are read, stored, built, compared. -/
namespace Go.Proofs.Ytlpkheoljbdajaa
open Go.RowKit

/-- the cells of numbers -/
structure T.OC (cs : Array Value) (d : Int → Int) : Prop where
  size : cs.size = 17
  at_ : ∀ i : Nat, i < 17 → cs[i]? = some (.int .i64 (d i))
def T.put (d : Int → Int) (m v : Int) : Int → Int := fun k => if k = m then v else d k
theorem T.OC.at' {cs : Array Value} {d : Int → Int} (h : T.OC cs d) {m : Int} (h1 : 0 ≤ m) (h2 : m ≤ 16) : cs[m.toNat]? = some (.int .i64 (d m)) := by
  have := h.at_ m.toNat (by omega)
  rw [show ((m.toNat : Nat) : Int) = m by omega] at this
  exact this
theorem T.OC.put {cs : Array Value} {d : Int → Int} (h : T.OC cs d) {m : Int} (h1 : 0 ≤ m) (h2 : m ≤ 16) (v : Int) : T.OC (cs.setIfInBounds m.toNat (.int .i64 v)) (T.put d m v) := by
  refine ⟨by rw [Array.size_setIfInBounds, h.size], fun k hk => ?_⟩
  unfold T.put
  by_cases e : (k : Int) = m
  · rw [if_pos e]
    have : m.toNat = k := by omega
    rw [this, Array.getElem?_setIfInBounds_self_of_lt (by rw [h.size]; exact hk)]
  · rw [if_neg e, Array.getElem?_setIfInBounds_ne (fun q => e (by omega))]
    exact h.at_ k hk
def Ok17 (cs : Array Value) : Prop := cs.size = 17 ∧ cs.all (·.oneCell') = true
theorem T.OC.one {cs : Array Value} {d : Int → Int} (h : T.OC cs d) : Ok17 cs := by
  refine ⟨h.size, ?_⟩
  rw [Array.all_eq_true]
  intro i hi
  have hs := h.size
  have e : cs[i]? = some cs[i] := Array.getElem?_eq_getElem hi
  have q := h.at_ i (by omega)
  rw [e] at q
  rw [Option.some.inj q]; rfl
theorem T.OC.inj {cs : Array Value} {d d' : Int → Int} (h : T.OC cs d) (h' : T.OC cs d') (m : Int) (h1 : 0 ≤ m) (h2 : m ≤ 16) : d m = d' m := by
  have a := (h.at' h1 h2).symm.trans (h'.at' h1 h2)
  injection a with a; injection a
def numLoad (v : Value) : Sem Value := Instr.loadAt 85 v
theorem numLoad_eq (v : Value) : Instr.loadAt 85 v = numLoad v := rfl
theorem infoNum : (Try.prog.info? 85).map (·.size) = some 17 := by kernel_rfl
theorem run_numLoad (w : World) (b : Nat) (cs : Array Value) (hg : mblk w b = some (.cells cs 85 (0, 0))) (hs : Hid (cs.size = 17)) : (numLoad (.pointer (some ⟨b, 0, none⟩))).run Try.prog w = .ok (.agg cs) w := by
  have q := run_loadVar_row w b 85 85 cs (0, 0) _ hg Try.underlying85 rfl (by rw [infoNum, hs.out])
  simp only [numLoad, Instr.loadAt, Instr.sureAddr, Sem.run_bind, Sem.run_pure, Result.andThen_ok, q]
def numStore (p v : Value) : Sem Unit := Instr.storeAt 85 p v
theorem numStore_eq (p v : Value) : Instr.storeAt 85 p v = numStore p v := rfl
theorem run_numStore (w : World) (c cs : Array Value) (n : Nat) (hn : n = w.heap.size) (hc : Hid (c.size = 17)) (hs : Ok17 cs) :
    (numStore (.pointer (some ⟨n, 0, none⟩)) (.agg cs)).run Try.prog (w.alloc (.cells c 85)) = .ok () (w.alloc (.cells cs 85)) := by
  subst hn
  have q := run_storeVar_new (P := Try.prog) w 85 c cs (by rw [infoNum, hs.1]) (by rw [hc.out, hs.1]) hs.2
  simp only [numStore, Instr.storeAt, Instr.sureAddr, Sem.run_bind, Sem.run_pure, Result.andThen_ok, q]
theorem run_numStore_row (w : World) (b : Nat) (old cs : Array Value) (hg : mblk w b = some (.cells old 85 (0, 0))) (ho : Hid (old.size = 17)) (hs : Ok17 cs) :
    (numStore (.pointer (some ⟨b, 0, none⟩)) (.agg cs)).run Try.prog w = .ok () (w.setRow b cs) := by
  have q := run_storeVar_row (P := Try.prog) w b 85 85 old cs hg (by rw [infoNum, hs.1]) (by rw [ho.out, hs.1]) hs.2
  simp only [numStore, Instr.storeAt, Instr.sureAddr, Sem.run_bind, Sem.run_pure, Result.andThen_ok, q]
/-- the cells of no numbers -/
def NZ : Array Value := Array.replicate 17 (.int .i64 0)
theorem NZ_size : NZ.size = 17 := by unfold NZ; exact Array.size_replicate
theorem NZ_ok : Ok17 NZ := ⟨NZ_size, by unfold NZ; rw [Array.all_replicate]; simp [Value.oneCell']⟩
theorem NZ_oc : T.OC NZ (fun _ => 0) := ⟨NZ_size, fun i hi => by unfold NZ; rw [Array.getElem?_replicate, if_pos hi]⟩
def numAlloc : Sem Value := Instr.alloc 85 true (.tuple #[])
theorem numAlloc_eq : Instr.alloc 85 true (.tuple #[]) = numAlloc := rfl
theorem run_numAlloc (w : World) : numAlloc.run Try.prog w = .ok (.pointer (some ⟨w.heap.size, 0, none⟩)) (w.alloc (.cells NZ 85)) := by kernel_rfl
def numBuild : Sem Value := Instr.build 85 #[]
theorem numBuild_eq : Instr.build 85 #[] = numBuild := rfl
theorem run_numBuild (w : World) : numBuild.run Try.prog w = .ok (.agg NZ) w := by kernel_rfl
attribute [go_sem ↓] numLoad_eq numStore_eq numAlloc_eq numBuild_eq
attribute [go_sem] run_numLoad run_numStore run_numAlloc run_numBuild
theorem mapM_some {α β : Type} (f : α → Option β) (g : α → β) (l : List α) (h : ∀ x ∈ l, f x = some (g x)) : l.mapM f = some (l.map g) := by
  induction l with
  | nil => rfl
  | cons x l ih =>
    rw [List.mapM_cons, h x (List.mem_cons_self ..), ih fun y hy => h y (List.mem_cons_of_mem _ hy)]
    rfl
theorem ktNum : Try.prog.keyTypeAt 2 85 = true := by kernel_rfl
theorem cNum : Try.prog.cellsOf 85 = 17 := by kernel_rfl
theorem intCells2 : Try.prog.cellsOf 3 = 1 := by kernel_rfl
/-- no number goes farther than can be counted -/
def T.Fine (d : Int → Int) : Prop := ∀ m : Int, 0 ≤ m → m ≤ 16 → D.in64 (d m)
theorem klNum {cs : Array Value} {d : Int → Int} (h : T.OC cs d) (F : T.Fine d) : Try.prog.keyLits 2 85 cs.toList = some ((List.range 17).map fun (i : Nat) => Lit.int .i64 (d i)) := by
  have u := Try.underlying85
  unfold Program.keyLits
  simp only [u]
  rw [if_pos (by rw [Array.length_toList, h.size, cNum]), intCells2]
  rw [mapM_some _ (fun (i : Nat) => [Lit.int .i64 (d i)])]
  · rfl
  · intro i hi
    rw [List.mem_range] at hi
    have e : (cs.toList.drop (i * 1)).take 1 = [.int .i64 (d i)] := by
      rw [Nat.mul_one, List.drop_eq_getElem_cons (by rw [Array.length_toList, h.size]; exact hi)]
      have q := h.at_ i hi
      rw [Array.getElem?_eq_getElem (by rw [h.size]; exact hi)] at q
      simp only [Array.getElem_toList]
      rw [Option.some.inj q]
      rfl
    rw [e]
    have w1 := (F i (by omega) (by omega)).wf
    simp [Program.keyLits, Try.underlying3, w1]
theorem num_inj (d d' : Int → Int) : ((List.range 17).map fun (i : Nat) => Lit.int .i64 (d i)) = ((List.range 17).map fun (i : Nat) => Lit.int .i64 (d' i)) ↔ ∀ m : Int, 0 ≤ m → m ≤ 16 → d m = d' m := by
  constructor
  · intro e m h1 h2
    have q := congrArg (fun l => l[m.toNat]?) e
    simp only [List.getElem?_map, List.getElem?_range (show m.toNat < 17 by omega), Option.map_some] at q
    have := Option.some.inj q
    injection this with _ this
    rw [show ((m.toNat : Nat) : Int) = m by omega] at this
    exact this
  · intro e
    refine List.map_congr_left fun i hi => ?_
    rw [List.mem_range] at hi
    rw [e i (by omega) (by omega)]
theorem eqNum {cs cs' : Array Value} {d d' : Int → Int} (h : T.OC cs d) (h' : T.OC cs' d') (F : T.Fine d) (F' : T.Fine d') : ∃ r : Bool, (r = true ↔ ∀ m : Int, 0 ≤ m → m ≤ 16 → d m = d' m) ∧ ∀ w, (Op.equalIn 10000 85 (.agg cs) (.agg cs')).run Try.prog w = .ok r w := by
  have hd := run_equalIn_deep (P := Try.prog) 9998 2 85 ktNum
  have u := Try.underlying85
  have f1 : (Value.agg cs).formed Try.prog 85 = true := by unfold Value.formed; simp only [u]; rw [h.size, cNum]; rfl
  have f2 : (Value.agg cs').formed Try.prog 85 = true := by unfold Value.formed; simp only [u]; rw [h'.size, cNum]; rfl
  haveI : Decidable (∀ m : Int, 0 ≤ m → m ≤ 16 → d m = d' m) := Classical.propDecidable _
  refine ⟨decide (∀ m : Int, 0 ≤ m → m ≤ 16 → d m = d' m), by simp, fun w => ?_⟩
  obtain ⟨r, hr, hi⟩ := hd w 2 2 _ _ _ _ f1 f2 (klNum h F) (klNum h' F')
  have e : r = decide (∀ m : Int, 0 ≤ m → m ≤ 16 → d m = d' m) := by
    rw [Bool.eq_iff_iff, hi, decide_eq_true_iff]
    exact num_inj d d'
  rw [e] at hr
  exact hr

end Go.Proofs.Ytlpkheoljbdajaa
