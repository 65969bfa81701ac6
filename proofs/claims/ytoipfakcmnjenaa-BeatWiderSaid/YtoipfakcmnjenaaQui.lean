import Derived.Test.YtoipfakcmnjenaaHel
/- Drawn regions whose operations before a number leave one value each, and a world of a class, in whatever world of it they come up: calls, too. -/
namespace Go.Proofs.Ytoipfakcmnjenaa
open Go.RowKit

section
variable {F : Fence} {n : Nat} {P : Program} {ops : Array Oper} {Q : Exit → Act → World → Prop} {md : Region.Mode} {S : World → Prop}

/-- one value, and a world of the class -/
def T.qUp (F : Fence) (n : Nat) (P : Program) (S : World → Prop) (v : Value) : Result Next → Prop
  | .ok (.value u) w' => u = v ∧ S w'
  | .ok .skip w' => v = undef ∧ S w'
  | .ok (.enter f args) w' => (F.depth.isSome = true → 1 ≤ n) ∧ CallsIn F (n - 1) P f args w' fun e w'' => e = .returned v ∧ S w''
  | _ => False
theorem T.qUp_value (v u : Value) (w : World) : T.qUp F n P S v (.ok (.value u) w) = (u = v ∧ S w) := rfl
theorem T.qUp_enter (v : Value) (f : FuncId) (args : Array Value) (w : World) : T.qUp F n P S v (.ok (.enter f args) w) = ((F.depth.isSome = true → 1 ≤ n) ∧ CallsIn F (n - 1) P f args w fun e w'' => e = .returned v ∧ S w'') := rfl
theorem T.qVal {v : Value} {w : World} {r : Result Next} (h : r = .ok (.value v) w) (hS : S w) : T.qUp F n P S v r := by rw [h]; exact ⟨rfl, hS⟩
attribute [go_sem] T.qUp_value T.qUp_enter
/-- so in every world of the class -/
structure T.Qt (F : Fence) (n : Nat) (P : Program) (ops : Array Oper) (S : World → Prop) (o : Oper) (v : Value) (a : Act) : Prop where
  ab : ∀ w f, o.about P w a.eval = some f → F.fn f
  is : (Region.wanted o (yielded ops a.tmps) = true ∧ ∀ w, S w → T.qUp F n P S v ((execOp a.eval o).run P w)) ∨ (Region.wanted o (yielded ops a.tmps) = false ∧ v = undef)
theorem T.Qt.same {o : Oper} {v : Value} {a a' : Act} (h : T.Qt F n P ops S o v a) (e1 : execOp a'.eval o = execOp a.eval o) (e2 : Region.wanted o (yielded ops a'.tmps) = Region.wanted o (yielded ops a.tmps)) (e3 : ∀ w, o.about P w a'.eval = o.about P w a.eval) : T.Qt F n P ops S o v a' :=
  ⟨fun w f hf => h.ab w f ((e3 w).symm.trans hf), by rw [e1, e2]; exact h.is⟩
theorem T.Qt.run {i : Nat} {o : Oper} {v : Value} {a : Act} (hd : noDefer ops = true) (hi : ops[i]? = some o) (h : T.Qt F n P ops S o v a) {K : Act → World → Prop} {w : World} (hS : S w) (k : ∀ w', S w' → K (a.put o.dst v) w') : wpOpIn F n P ops Q i K a w := by
  have e := Oper.semAt_eq F.round a.eval o (noDefer_at hd hi)
  have hab := h.ab w
  unfold wpOpIn
  simp only [hi]
  rcases h.is with ⟨hw, hv⟩ | ⟨hw, rfl⟩
  · rw [if_pos hw]
    unfold Oper.wpIn
    rw [e]
    refine ⟨hab, ?_⟩
    have q := hv w hS
    generalize (execOp a.eval o).run P w = r at q
    cases r with
    | halt x w' => exact q.elim
    | ok x w' =>
      cases x with
      | value u => obtain ⟨e1, e2⟩ := q; rw [Oper.uponIn_value, e1]; exact k _ e2
      | skip => obtain ⟨e1, e2⟩ := q; rw [Oper.uponIn_skip, ← e1]; exact k _ e2
      | enter f args =>
        rw [Oper.uponIn_enter]
        exact ⟨q.1, CallsIn.mono q.2 fun e w'' he => by obtain ⟨rfl, he2⟩ := he; exact k _ he2⟩
      | _ => exact q.elim
  · rw [if_neg (by rw [hw]; exact Bool.false_ne_true)]
    exact ⟨hab, k _ hS⟩

/-- whatever order is drawn, up to a number -/
def T.anyQ (F : Fence) (n : Nat) (P : Program) (md : Region.Mode) (ops : Array Oper) (S : World → Prop) (m : Nat) (Z : Array Bool → Act → Prop) : Nat → Array Bool → Act → Prop
  | 0, listed, a => Z listed a
  | f + 1, listed, a => Region.ready md ops listed ≠ [] ∧ ∀ i ∈ Region.ready md ops listed, i < m ∧ ∃ o v, ops[i]? = some o ∧ T.Qt F n P ops S o v a ∧ T.anyQ F n P md ops S m Z f (listed.setIfInBounds i true) (a.put o.dst v)
theorem T.anyQ.any {m g : Nat} {Z : Array Bool → Act → Prop} (hd : noDefer ops = true) (hT : ∀ listed a w, Z listed a → S w → wpAnyIn F n P md ops Q g listed a w) : ∀ (f : Nat) (listed : Array Bool) (a : Act) (w : World), S w → T.anyQ F n P md ops S m Z f listed a → wpAnyIn F n P md ops Q (f + g) listed a w
  | 0, listed, a, w, hS, h => by rw [Nat.zero_add]; exact hT _ _ _ h hS
  | f + 1, listed, a, w, hS, h => by
    rw [show f + 1 + g = (f + g) + 1 by omega]
    refine ⟨fun h0 => absurd h0 h.1, fun i hi => ?_⟩
    obtain ⟨_, o, v, ho, hq, hr⟩ := h.2 i hi
    exact hq.run hd ho hS fun w' hS' => T.anyQ.any hd hT f _ _ w' hS' hr
theorem T.anyQ.first {m i : Nat} {oi : Oper} {v : Value} {Z : Array Bool → Act → Prop} (hm : late md ops m = true) (him : i < m) (hi : ops[i]? = some oi) (hsel : ∀ (j : Nat) (o : Oper) cs b, ops[j]? = some o → o.op ≠ .select cs b) (hT0 : ∀ listed a, Z listed a → ∀ j, j < m → listed.getD j false = true) :
    ∀ (f : Nat) (listed : Array Bool) (a : Act), Closed md ops listed →
      (∀ j oj, ops[j]? = some oj → j ≠ i → listed.getD j true = false → (∀ e ∈ oj.after, Region.binds md e = true → e.on ≠ i) → oi.apart ops oj = true) →
      i ∈ Region.ready md ops listed → T.Qt F n P ops S oi v a → T.anyQ F n P md ops S m Z f (listed.setIfInBounds i true) (a.put oi.dst v) → T.anyQ F n P md ops S m Z (f + 1) listed a := by
  intro f
  have key : ∀ {listed : Array Bool}, i ∈ Region.ready md ops listed → ¬ listed.getD i false = true := fun {listed} hr h1 => by
    have hun := (mem_ready.1 hr).1
    rcases Nat.lt_or_ge i listed.size with h' | h'
    · simp [h'] at hun h1; rw [hun] at h1; cases h1
    · simp [Array.getElem?_eq_none h'] at h1
  induction f with
  | zero =>
    intro listed a hcl _ hr hy H
    refine ⟨fun h => (by rw [h] at hr; cases hr), fun j hj => ?_⟩
    have hjm : j < m := by
      by_cases h : j < m
      · exact h
      · exact absurd (hcl.all hm hj (by omega) i him) (key hr)
    by_cases hji : j = i
    · subst hji; exact ⟨him, oi, v, hi, hy, H⟩
    · have h1 := hT0 _ _ H j hjm
      rw [getD_set_ne false (Ne.symm hji)] at h1
      have hun := (mem_ready.1 hj).1
      rcases Nat.lt_or_ge j listed.size with h' | h'
      · simp [h'] at hun h1; rw [hun] at h1; cases h1
      · simp [Array.getElem?_eq_none h'] at h1
  | succ f ih =>
    intro listed a hcl hfree hr hy H
    refine ⟨fun h => (by rw [h] at hr; cases hr), fun j hj => ?_⟩
    have hjm : j < m := by
      by_cases h : j < m
      · exact h
      · exact absurd (hcl.all hm hj (by omega) i him) (key hr)
    by_cases hji : j = i
    · subst hji; exact ⟨him, oi, v, hi, hy, H⟩
    · obtain ⟨hjun, oj, hoj, hall⟩ := mem_ready.1 hj
      have hnot : ∀ e ∈ oj.after, Region.binds md e = true → e.on ≠ i := fun e he hb heq => key hr (heq ▸ hall e he hb)
      obtain ⟨_, oj', vj, hoj', hqj, hrest⟩ := H.2 j (ready_mono hj hji)
      have : oj' = oj := Option.some.inj (hoj'.symm.trans hoj)
      subst this
      obtain ⟨h1, h2, h3⟩ := Oper.apart_spec (hfree j oj' hoj hji hjun hnot)
      have si := fun cs b => hsel i oi cs b hi
      have sj := fun cs b => hsel j oj' cs b hoj
      refine ⟨hjm, oj', vj, hoj, hqj.same (execOp_put oj' sj a oi.dst v h1).symm (wanted_put oj' a oi.dst v h1).symm (fun w => (about_put oj' w a oi.dst v h1).symm), ?_⟩
      refine ih (listed.setIfInBounds j true) (a.put oj'.dst vj) (hcl.set hj) (fun k ok hk hki hun hno => ?_) (ready_mono hr (Ne.symm hji)) (hy.same (execOp_put oi si a oj'.dst vj h3) (wanted_put oi a oj'.dst vj h3) (fun w => about_put oi w a oj'.dst vj h3)) ?_
      · refine hfree k ok hk hki ?_ hno
        by_cases hjk : j = k
        · subst hjk; exact hjun
        · rw [getD_set_ne true hjk] at hun; exact hun
      · rw [Array.setIfInBounds_comm _ _ hji, ← Act.put_comm a v vj h2]
        exact hrest
/-- what is asked when all before the number have come up -/
def T.tail (F : Fence) (n : Nat) (P : Program) (md : Region.Mode) (ops : Array Oper) (Q : Exit → Act → World → Prop) (S : World → Prop) (m g : Nat) (listed : Array Bool) (a : Act) : Prop :=
  (∀ j, j < m → listed.getD j false = true) ∧ ∀ w, S w → wpAnyG F n P md ops Q S m g listed a w
theorem T.tail_intro {m g : Nat} {listed : Array Bool} {a : Act} (h : (List.range m).all (fun j => listed.getD j false) = true) (k : ∀ w, S w → wpAnyG F n P md ops Q S m g listed a w) : T.anyQ F n P md ops S m (T.tail F n P md ops Q S m g) 0 listed a :=
  ⟨fun j hj => List.all_eq_true.1 h j (List.mem_range.2 hj), k⟩
/-- an operation is taken first -/
theorem T.qTake {i : Nat} {d : Option Tmp} {oi : Oper} {v : Value} {f m g : Nat} {listed : Array Bool} {a : Act} (hi : ops[i]? = some oi) (hd : oi.dst = d) (hm : late md ops m = true) (him : i < m) (hcl : Closed md ops listed)
    (hs : Region.noSelect ops = true) (hf : Region.free md ops listed i = true) (hr : (Region.ready md ops listed).contains i = true)
    (hw : Region.wanted oi (yielded ops a.tmps) = true) (hy : ∀ w, S w → T.qUp F n P S v ((execOp a.eval oi).run P w)) (ha : ∀ w f, oi.about P w a.eval = some f → F.fn f)
    (h : Closed md ops (listed.setIfInBounds i true) → T.anyQ F n P md ops S m (T.tail F n P md ops Q S m g) f (listed.setIfInBounds i true) (a.put d v)) : T.anyQ F n P md ops S m (T.tail F n P md ops Q S m g) (f + 1) listed a := by
  subst hd
  exact T.anyQ.first hm him hi (Region.noSelect_spec hs) (fun _ _ h => h.1) f listed a hcl (Region.free_spec hi hf) (by simpa using hr) ⟨ha, .inl ⟨hw, hy⟩⟩ (h (hcl.set (by simpa using hr)))
/-- one whose guard is false is passed over -/
theorem T.qSkip {i : Nat} {d : Option Tmp} {oi : Oper} {f m g : Nat} {listed : Array Bool} {a : Act} (hi : ops[i]? = some oi) (hd : oi.dst = d) (hm : late md ops m = true) (him : i < m) (hcl : Closed md ops listed)
    (hs : Region.noSelect ops = true) (hf : Region.free md ops listed i = true) (hr : (Region.ready md ops listed).contains i = true)
    (hw : Region.wanted oi (yielded ops a.tmps) = false) (ha : ∀ w f, oi.about P w a.eval = some f → F.fn f)
    (h : Closed md ops (listed.setIfInBounds i true) → T.anyQ F n P md ops S m (T.tail F n P md ops Q S m g) f (listed.setIfInBounds i true) (a.put d undef)) : T.anyQ F n P md ops S m (T.tail F n P md ops Q S m g) (f + 1) listed a := by
  subst hd
  exact T.anyQ.first hm him hi (Region.noSelect_spec hs) (fun _ _ h => h.1) f listed a hcl (Region.free_spec hi hf) (by simpa using hr) ⟨ha, .inr ⟨hw, rfl⟩⟩ (h (hcl.set (by simpa using hr)))
/-- the beginning -/
theorem T.regionQ {id : Nat} {a : Act} {w : World} (S : World → Prop) (m g : Nat) (hm : P.follows .mixedOrders = true) (hd : noDefer ops = true) (hg : m + g = ops.size) (hS : S w.drew)
    (h : Closed .any ops (Array.replicate ops.size false) → T.anyQ F n P .any ops S m (T.tail F n P .any ops Q S m g) m (Array.replicate ops.size false) a) : (Code.region id ops true).wpIn F n P Q a w := by
  refine wpIn_region_any hm ?_
  have q := T.anyQ.any (g := g) (Q := Q) hd (fun listed a w ht hS => wpAnyG.any _ _ _ _ (ht.2 w hS)) m (Array.replicate ops.size false) a w.drew hS (h Closed.start)
  rw [hg] at q
  exact q
end

end Go.Proofs.Ytoipfakcmnjenaa
