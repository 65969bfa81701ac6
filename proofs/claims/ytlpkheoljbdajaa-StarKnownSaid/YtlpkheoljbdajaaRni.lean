import Derived.Test.YtlpkheoljbdajaaLrn
/- Ranges over iterators whose bodies never leave them. -/
namespace Go.Proofs.Ytlpkheoljbdajaa
open Go.RowKit Go.Shelf
attribute [local go_sem] Oper.semAt_some

theorem range_prefix {a b : Nat} (h : a ≤ b) : List.range a <+: List.range b := by
  obtain ⟨c, rfl⟩ : ∃ c, b = a + c := ⟨b - a, by omega⟩
  rw [List.range_add]
  exact List.prefix_append _ _
/-- all rows of cells are kept, but some -/
def T.Kc (p : Nat → Prop) (A B : World) : Prop := (∀ (b : Nat) (o : Obj), A.heap[b]? = some o → o.isCells = true → ¬ p b → B.heap[b]? = some o) ∧ A.heap.size ≤ B.heap.size
section
variable {p : Nat → Prop} {A B C : World}
theorem T.kc_t (h : T.Kc p A B) (k : T.Kc p B C) : T.Kc p A C := ⟨fun b o h1 h2 h3 => k.1 b o (h.1 b o h1 h2 h3) h2 h3, Nat.le_trans h.2 k.2⟩
theorem T.kc_b (W : World) (l : Nat) (o o' : Obj) (h : W.heap[l]? = some o) (hc : o.isCells = false) : T.Kc p W (W.putObj l o') := by
  refine ⟨fun b x h1 h2 _ => ?_, by simp [World.putObj]⟩
  by_cases e : b = l
  · subst e
    rw [h] at h1
    rw [← Option.some.inj h1, hc] at h2
    cases h2
  · rw [World.putObj_heap_other e]; exact h1
theorem T.kc_up (h : Up A B) : T.Kc p A B := ⟨fun b _ h1 _ _ => (Below.block h b (Array.getElem?_eq_some_iff.1 h1).1).trans h1, h.size⟩
theorem T.kc_refl (A : World) : T.Kc p A A := ⟨fun _ _ h _ _ => h, Nat.le_refl _⟩
theorem T.kc_mono {q : Nat → Prop} (h : T.Kc p A B) (hq : ∀ b, p b → q b) : T.Kc q A B := ⟨fun b o h1 h2 h3 => h.1 b o h1 h2 fun e => h3 (hq b e), h.2⟩
theorem T.kc_set (a : Addr) (v : Value) (ha : p a.block) : T.Kc p A (A.setCell a v) :=
  ⟨fun b o h1 _ h3 => (blk_set A a v b (fun e => h3 (e ▸ ha))).trans h1, by simp [World.setCell]⟩
theorem T.Kc.blk (h : T.Kc p A B) {b : Nat} {cs : Array Value} {t : TypeId} {fr : Nat × Nat} (hb : mblk A b = some (.cells cs t fr)) (hp : ¬ p b) : mblk B b = some (.cells cs t fr) := h.1 b _ hb rfl hp
end
/-- the rows of cells of one world are those of another one, as far as it goes -/
def T.Sm (w w' : World) : Prop := (∀ (b : Nat) (o : Obj), w.heap[b]? = some o → o.isCells = true → w'.heap[b]? = some o) ∧ w.heap.size ≤ w'.heap.size
theorem T.Sm.of {w w' : World} (u : Up w w') : T.Sm w w' := ⟨fun b _ h1 _ => (Below.block u b (Array.getElem?_eq_some_iff.1 h1).1).trans h1, u.size⟩
theorem T.Sm.refl (w : World) : T.Sm w w := ⟨fun _ _ h _ => h, Nat.le_refl _⟩
theorem T.Sm.trans {a b c : World} (h : T.Sm a b) (k : T.Sm b c) : T.Sm a c := ⟨fun n o h1 h2 => k.1 n o (h.1 n o h1 h2) h2, Nat.le_trans h.2 k.2⟩
theorem T.Sm.kc {w0 w Y : World} {p : Nat → Prop} (h : T.Sm w0 w) (hp : ∀ b, p b → w0.heap.size ≤ b) (k : T.Kc p w Y) : T.Sm w0 Y :=
  ⟨fun b o h1 h2 => k.1 b o (h.1 b o h1 h2) h2 fun e => by have := hp b e; have := (Array.getElem?_eq_some_iff.1 h1).1; omega, Nat.le_trans h.2 k.2⟩
theorem T.Sm.cell {w w' : World} (h : T.Sm w w') {b o : Nat} {v : Value} (hc : w.cell? ⟨b, o, none⟩ = some v) : w'.cell? ⟨b, o, none⟩ = some v := by
  cases hb : w.heap[b]? with
  | none => simp [World.cell?, hb] at hc
  | some ob =>
    have hcell : ob.isCells = true := by
      cases ob <;> first | rfl | (simp [World.cell?, hb] at hc)
    have e : w'.heap[b]? = some ob := h.1 b ob hb hcell
    rw [← hc]
    simp only [World.cell?, hb, e]
theorem T.Sm.blk {w w' : World} (h : T.Sm w w') {b : Nat} {cs : Array Value} {t : TypeId} {fr : Nat × Nat} (hb : mblk w b = some (.cells cs t fr)) : mblk w' b = some (.cells cs t fr) := h.1 b _ hb rfl
theorem Tab.sm {α : Type} {k : Nat} {enc : α → Nat → Int} {d : α} {w w' : World} {v : Value} {xs : List α} (h : Tab k enc d w v xs) (u : T.Sm w w') : Tab k enc d w' v xs := by
  obtain ⟨a, c, e, hc, hl, hm⟩ := h.is
  refine ⟨a, c, e, hc, hl, fun h0 => ?_⟩
  obtain ⟨g, off, e1, e2, e3⟩ := hm h0
  exact ⟨g, off, e1, by have := u.2; omega, fun j hj i hi => u.cell (e3 j hj i hi)⟩
theorem Ints.sm {w w' : World} {v : Value} {xs : List Int} (h : Ints w v xs) (u : T.Sm w w') : Ints w' v xs := by
  obtain ⟨a, c, e, hc, hl, hm⟩ := h.is
  refine ⟨a, c, e, hc, hl, fun h0 => ?_⟩
  obtain ⟨g, off, e1, e2, e3⟩ := hm h0
  exact ⟨g, off, e1, by have := u.2; omega, fun j hj => u.cell (e3 j hj)⟩

theorem T.pre_lt {α : Type} {pre L : List α} {x : α} (h : pre ++ [x] <+: L) : pre.length < L.length := by
  have := h.length_le
  rw [List.length_append, List.length_singleton] at this
  omega
/-- all blocks are kept, but some -/
def T.Ks (p : Nat → Prop) (A B : World) : Prop := (∀ (b : Nat) (o : Obj), A.heap[b]? = some o → ¬ p b → B.heap[b]? = some o) ∧ A.heap.size ≤ B.heap.size
section
variable {p : Nat → Prop} {A B C : World}
theorem T.Ks.kc (h : T.Ks p A B) : T.Kc p A B := ⟨fun b o h1 _ h3 => h.1 b o h1 h3, h.2⟩
theorem T.Ks.trans (h : T.Ks p A B) (k : T.Ks p B C) : T.Ks p A C := ⟨fun b o h1 h3 => k.1 b o (h.1 b o h1 h3) h3, Nat.le_trans h.2 k.2⟩
theorem T.ks_up (h : Up A B) : T.Ks p A B := ⟨fun b _ h1 _ => (Below.block h b (Array.getElem?_eq_some_iff.1 h1).1).trans h1, h.size⟩
theorem T.ks_put {l : Nat} (o : Obj) (hl : p l) : T.Ks p A (A.putObj l o) := ⟨fun b _ h1 h3 => (World.putObj_heap_other (fun (e : b = l) => h3 (by rw [e]; exact hl))).trans h1, by simp [World.putObj]⟩
theorem T.ks_set (a : Addr) (v : Value) (ha : p a.block) : T.Ks p A (A.setCell a v) :=
  ⟨fun b o h1 h3 => (blk_set A a v b (fun (e : b = a.block) => h3 (by rw [e]; exact ha))).trans h1, by simp [World.setCell]⟩
theorem T.Ks.mono {q : Nat → Prop} (h : T.Ks p A B) (hq : ∀ b, p b → q b) : T.Ks q A B := ⟨fun b o h1 h3 => h.1 b o h1 fun e => h3 (hq b e), h.2⟩
theorem T.ks_refl (A : World) : T.Ks p A A := ⟨fun _ _ h _ => h, Nat.le_refl _⟩
end
/-- a record of a loop, or of calls that are deferred -/
def T.book : Obj → Bool
  | .loop _ => true
  | .deferred _ => true
  | _ => false
/-- what stays so while new memory is made, and while records from a number on are written -/
def T.OwnF {β : Type} (B : Nat) (I : β → World → Prop) : Prop :=
  ∀ s X Y row, I s X → X.grownBy Y row → (∀ r, row = some r → B ≤ r ∧ ∃ o : Obj, X.heap[r]? = some o ∧ T.book o = true) → I s Y
theorem T.OwnF.putObj {β : Type} {B : Nat} {I : β → World → Prop} (h : T.OwnF B I) {s : β} {X : World} {l : Nat} {o : Obj} (o' : Obj) (hs : I s X) (hB : B ≤ l) (hl : X.heap[l]? = some o) (ho : T.book o = true) : I s (X.putObj l o') :=
  h s X _ (some l) hs ⟨rfl, rfl, rfl, by simp [World.putObj], fun k _ hne => World.putObj_heap_other (fun e => hne (by rw [e]))⟩ (fun r e => by cases e; exact ⟨hB, o, hl, ho⟩)
/-- in the wide fence rounds are asked for nothing -/
theorem T.rnd {m m' l' : Nat} {P : Program} {l : Nat} {f : FuncId} {tmps : Array Value} {assign body : Code} {w : World} {R : Ending → World → Prop} (h : RoundIn Fence.wide m P l f tmps assign body w R) : RoundIn (Fence.wide.inRound l') m' P l f tmps assign body w R :=
  ⟨h.1, fun c cs _ => h.2 c cs (fun d hd => by cases hd)⟩
theorem T.rnd0 {m m' : Nat} {P : Program} {l : Nat} {f : FuncId} {tmps : Array Value} {assign body : Code} {w : World} {R : Ending → World → Prop} (h : RoundIn Fence.wide m P l f tmps assign body w R) : RoundIn Fence.wide m' P l f tmps assign body w R :=
  ⟨h.1, fun c cs _ => h.2 c cs (fun d hd => by cases hd)⟩
theorem wpIn_wideR {l n n' : Nat} {P : Program} {c : Code} {Q : Exit → Act → World → Prop} {a : Act} {w : World} (h : c.wpIn (Fence.wide.inRound l) n P Q a w) : c.wpIn (Fence.wide.inRound l) n' P Q a w :=
  fun b k cs h1 h2 _ => h b k cs h1 h2 (fun d hd => by cases hd)
/-- what an iterator promises whose consumer never leaves it -/
def T.Seq {α : Type} (gf : Nat) (lb : Array Value) (enc : α → Array Value) (L : List α) (p : Nat → Prop) (w : World) : Prop :=
  ∀ (l : Nat) (J : List α → World → Prop) (W : World), Up w W → (∀ b, W.heap.size ≤ b → ¬ p b) → T.OwnF W.heap.size J →
    (∀ pre x X, J pre X → pre ++ [x] <+: L → YieldAt Fence.wide 4 Try.prog l (enc x) X fun e Y => e = .returned (.bool true) ∧ J (pre ++ [x]) Y ∧ T.Ks p X Y) →
    J [] W → CallsIn Fence.wide 5 Try.prog gf (#[.func (.yield l) #[] #[]] ++ lb) W fun e Y => (∃ v, e = .returned v) ∧ J L Y
theorem T.yield_mono {m : Nat} {P : Program} {l : Nat} {args : Array Value} {W : World} {R R' : Ending → World → Prop} (h : YieldAt Fence.wide m P l args W R) (hR : ∀ e Y, R e Y → R' e Y) : YieldAt Fence.wide m P l args W R' := by
  obtain ⟨fn, tmps, assign, body, hy, hr⟩ := h
  exact ⟨fn, tmps, assign, body, hy, hr.mono hR⟩
theorem T.own_up {α : Type} {B : Nat} {I : α → World → Prop} (h : T.OwnF B I) {s : α} {X Y : World} (hX : I s X) (u : Up X Y) : I s Y :=
  h s X Y none hX ⟨u.os, u.tape, u.output, u.size, fun j hj _ => Below.block u j hj⟩ (by simp)
/-- a range over an iterator, whose body is never left early -/
theorem T.rangeAll {α : Type} {n : Nat} {g : Operand} {ps : Array Tmp} {assign body : Code} {Q : Exit → Act → World → Prop} {a : Act} {w : World} {gf : Nat} {lb : Array Value}
    (hg : a.eval g = .func (.func gf) #[] lb) (eg : ∀ args w, (callFunc gf args).run Try.prog w = .ok (.enter gf args) w) {enc : α → Array Value} (hps : ∀ x, (enc x).size = ps.size) {L : List α} {p : Nat → Prop}
    (hseq : T.Seq gf lb enc L p w) (hp1 : p (w.heap.size + 1)) (hp0 : ¬ p w.heap.size) (hp2 : ∀ b, w.heap.size + 2 ≤ b → ¬ p b)
    (I : List α → World → Prop) (hI : T.OwnF w.heap.size I) (h0 : I [] w) (Ax : α → Act → World → Prop) (hAx : ∀ x a', T.OwnF w.heap.size (fun (_ : Unit) W => Ax x a' W))
    (hassign : ∀ (pre : List α) (x : α) (W : World) (K : Act → World → Prop), pre ++ [x] <+: L → I pre W → w.heap.size + 2 ≤ W.heap.size → (∀ a' W', Up W W' → Ax x a' W' → K a' W') →
      assign.wpIn (Fence.wide.inRound (w.heap.size + 1)) 3 Try.prog (Exit.then K (fun _ _ _ => False)) { tmps := (ps.zip (enc x)).foldl (fun t (p, v) => t.setIfInBounds p v) a.tmps, defers := [] } W)
    (hbody : ∀ (pre : List α) (x : α) (a' : Act) (W : World), pre ++ [x] <+: L → I pre W → Ax x a' W → w.heap.size + 2 ≤ W.heap.size → (∃ r, W.heap[w.heap.size + 1]? = some (.loop r)) →
      body.wpIn (Fence.wide.inRound (w.heap.size + 1)) 3 Try.prog (S.Nrm fun _ W' => (∀ (b : Nat) (o : Obj), W.heap[b]? = some o → ¬ (p b ∧ b ≠ w.heap.size + 1) → W'.heap[b]? = some o) ∧ W.heap.size ≤ W'.heap.size ∧ I (pre ++ [x]) W') a' W)
    (hdone : ∀ W : World, I L W → w.heap.size + 2 ≤ W.heap.size → W.heap[w.heap.size]? = some (.deferred (some [])) → Q .normal { a with defers := { target := .collected w.heap.size, args := #[] } :: a.defers } W) :
    (Code.rangeFunc g ps assign body).wpIn Fence.wide n Try.prog Q a w := by
  refine wpIn_rangeFunc fun fn _ => ?_
  let R : LoopState → Option Code → Loop := fun st pe => { state := st, pending := pe, fn := fn, tmps := a.tmps, params := ps, assign := assign, body := body, defers := w.heap.size }
  obtain ⟨W1, hW1⟩ : ∃ x, (w.alloc (.deferred (some []))).alloc (.loop (R .ready none)) = x := ⟨_, rfl⟩
  have u1 : Up w W1 := by rw [← hW1]; exact ((Up.refl w).alloc _).alloc _
  have z1 : W1.heap.size = w.heap.size + 2 := by rw [← hW1]; simp
  have r1 : W1.heap[w.heap.size + 1]? = some (.loop (R .ready none)) := by
    rw [← hW1]
    exact blk_new (w.alloc (.deferred (some []))) _ _ (by simp)
  have d1 : W1.heap[w.heap.size]? = some (.deferred (some [])) := by
    rw [← hW1]
    exact blk_keep (.loop (R .ready none)) (blk_new w (.deferred (some [])) _ rfl)
  refine ⟨w.heap.size + 1, [{ target := .collected w.heap.size, args := #[] }], W1, { target := .fn (.func gf) lb, args := #[.func (.yield (w.heap.size + 1)) #[] #[]] }, W1, gf, #[.func (.yield (w.heap.size + 1)) #[] #[]] ++ lb, W1, ?_, ?_, fun _ _ => trivial, ?_, (fun h => by cases h), ?_⟩
  · rw [← hW1]; exact run_enterLoop_outer _ _ _ _ _
  · simp only [resolve, hg]
    simp [go_sem]
  · simp [invoke, go_sem, eg]
  have key := hseq (w.heap.size + 1) (fun pre W => I pre W ∧ W.heap[w.heap.size + 1]? = some (.loop (R .ready none)) ∧ W.heap[w.heap.size]? = some (.deferred (some []))) W1 u1 (fun b hb => hp2 b (by omega))
    (fun s X Y row h hgr hr => ⟨hI s X Y row h.1 hgr (fun r e => ⟨by have := (hr r e).1; omega, (hr r e).2⟩),
      (hgr.block _ (Array.getElem?_eq_some_iff.1 h.2.1).1 (fun e => by have := (hr _ e.symm).1; omega)).trans h.2.1,
      (hgr.block _ (Array.getElem?_eq_some_iff.1 h.2.2).1 (fun e => by have := (hr _ e.symm).1; omega)).trans h.2.2⟩)
    (fun pre x X ⟨hi, hl, hd⟩ hpre => by
      have hy := run_yield (P := Try.prog) (args := enc x) hl (hps x)
      have sX := (Array.getElem?_eq_some_iff.1 hl).1
      refine ⟨fn, _, assign, body, hy, roundIn_of_wpIn trivial ?_⟩
      refine wpIn_wideR (n := 3) ?_
      refine hassign pre x X _ hpre hi (by omega) fun a' Wa ua hax => ?_
      have hla := (Below.block ua _ sX).trans hl
      have hda := (Below.block ua _ (Array.getElem?_eq_some_iff.1 hd).1).trans hd
      have sa := (Array.getElem?_eq_some_iff.1 hla).1
      refine ⟨_, run_beginRound hla rfl, ?_⟩
      obtain ⟨W2, hW2⟩ : ∃ x, Wa.putObj (w.heap.size + 1) (.loop { R .ready none with state := .busy }) = x := ⟨_, rfl⟩
      have hl2 : W2.heap[w.heap.size + 1]? = some (.loop { R .ready none with state := .busy }) := by rw [← hW2]; exact World.putObj_heap_same sa
      have hd2 : W2.heap[w.heap.size]? = some (.deferred (some [])) := by rw [← hW2]; exact (World.putObj_heap_other (by omega)).trans hda
      have k2 : T.Ks p X W2 := by rw [← hW2]; exact (T.ks_up ua).trans (T.ks_put _ hp1)
      have z2 : w.heap.size + 2 ≤ W2.heap.size := by have := (Array.getElem?_eq_some_iff.1 hl2).1; omega
      have hi2 : I pre W2 := by rw [← hW2]; exact hI.putObj _ (T.own_up hI hi ua) (by omega) hla rfl
      have hx2 : Ax x a' W2 := by rw [← hW2]; exact (hAx x a').putObj (s := ()) _ hax (by omega) hla rfl
      rw [hW2]
      refine wpIn_wideR (n := 3) (wpIn_mono (hbody pre x a' W2 hpre hi2 hx2 z2 ⟨_, hl2⟩) fun e a3 W3 h3 => ?_)
      cases e with
      | normal =>
        obtain ⟨q1, q2, q3⟩ := h3
        have hl3 := q1 _ _ hl2 (fun e => e.2 rfl)
        have hd3 := q1 _ _ hd2 (fun e => hp0 e.1)
        have s3 := (Array.getElem?_eq_some_iff.1 hl3).1
        refine ⟨_, _, run_endRound none hl3, rfl, ⟨hI.putObj _ q3 (by omega) hl3 rfl, World.putObj_heap_same s3, (World.putObj_heap_other (by omega)).trans hd3⟩, k2.trans (T.Ks.trans (B := W3) ⟨fun b o h1 h2 => q1 b o h1 fun e => h2 e.1, q2⟩ (T.ks_put _ hp1))⟩
      | _ => exact h3.elim) ⟨T.own_up hI h0 u1, r1, d1⟩
  refine callsIn_wide.2 ((callsIn_wide.1 key).mono fun e Y ⟨⟨v, he⟩, hi, hl, hd⟩ => ?_)
  subst he
  refine ⟨none, _, run_endLoop hl (by intro e; cases e), ?_⟩
  exact hdone _ (hI.putObj _ hi (by omega) hl rfl) (by have := (Array.getElem?_eq_some_iff.1 hl).1; simp [World.putObj]; omega) ((World.putObj_heap_other (by omega)).trans hd)

def S.mark (d : Nat) : Deferred := { target := .collected d, args := #[] }
theorem leaves_marks {F : Fence} {n : Nat} {P : Program} {fn : Func} {tmps : Array Value} {R : Ending → World → Prop} : ∀ (Ds : List Nat) (W : World), Ds.Nodup → (∀ d, d ∈ Ds → W.heap[d]? = some (.deferred (some []))) →
    (∀ W', W'.os = W.os → W'.tape = W.tape → W'.output = W.output → W'.heap.size = W.heap.size → (∀ b, b ∉ Ds → W'.heap[b]? = W.heap[b]?) → LeavesIn F n P fn tmps R [] .returning W') →
    LeavesInM F n P fn tmps R (Ds.map S.mark) .returning W
  | [], W, _, _, h => h W rfl rfl rfl rfl (fun _ _ => rfl)
  | d :: Ds, W, hn, hd, h => by
    obtain ⟨n1, n2⟩ := List.nodup_cons.1 hn
    refine ⟨by simp, .inl ⟨d, _, rfl, run_takeDeferred (hd d (by simp)), ?_⟩⟩
    refine leaves_marks Ds _ n2 (fun e he => ?_) (fun W' a1 a2 a3 a4 a5 => ?_)
    · exact (World.putObj_heap_other (fun q => n1 (by rw [← q]; exact he))).trans (hd e (by simp [he]))
    · exact h W' (a1.trans rfl) (a2.trans rfl) (a3.trans rfl) (a4.trans (by simp)) (fun b hb => (a5 b (fun q => hb (by simp [q]))).trans (World.putObj_heap_other (fun q => hb (by simp [q]))))



end Go.Proofs.Ytlpkheoljbdajaa
