import Derived.Test.YtlpkheoljbdajaaNum
/- Drawn regions inside a fence, loads taken first: what is read stands still in all worlds of a class. -/
namespace Go.Proofs.Ytlpkheoljbdajaa
open Go.RowKit

section
variable {F : Fence} {n : Nat} {P : Program} {ops : Array Oper} {Q : Exit → Act → World → Prop} {md : Region.Mode} {S : World → Prop}

/-- the value of an operation in all worlds of a class, and what it can call is in the fence -/
def Still (F : Fence) (P : Program) (ops : Array Oper) (S : World → Prop) (o : Oper) (v : Value) (a : Act) : Prop := YieldsIf P ops S o v a ∧ ∀ w f, o.about P w a.eval = some f → F.fn f
/-- no operation defers -/
def noDefer (ops : Array Oper) : Bool := ops.all fun o => match o.op with | .defer _ => false | _ => true
theorem noDefer_at {j : Nat} {o : Oper} (h : noDefer ops = true) (hj : ops[j]? = some o) : ∀ c, o.op ≠ .defer c := by
  intro c hc
  obtain ⟨hlt, e⟩ := Array.getElem?_eq_some_iff.1 hj
  have := (Array.all_eq_true.1 h) j hlt
  rw [e, hc] at this
  cases this
theorem Still.same {o : Oper} {v : Value} {a a' : Act} (h : Still F P ops S o v a) (e1 : execOp a'.eval o = execOp a.eval o) (e2 : Region.wanted o (yielded ops a'.tmps) = Region.wanted o (yielded ops a.tmps)) (e3 : ∀ w, o.about P w a'.eval = o.about P w a.eval) : Still F P ops S o v a' :=
  ⟨h.1.of_same e1 e2, fun w f hf => h.2 w f ((e3 w).symm.trans hf)⟩
theorem Still.run {i : Nat} {o : Oper} {v : Value} {a : Act} (hd : noDefer ops = true) (hi : ops[i]? = some o) (h : Still F P ops S o v a) {K : Act → World → Prop} {w : World} (hS : S w) (k : K (a.put o.dst v) w) : wpOpIn F n P ops Q i K a w := by
  have e := Oper.semAt_eq F.round a.eval o (noDefer_at hd hi)
  have hab := h.2 w
  unfold wpOpIn
  simp only [hi]
  rcases h.1 with ⟨hw, hv⟩ | ⟨hw, rfl⟩
  · rw [if_pos hw]
    unfold Oper.wpIn
    rw [e, hv w hS]
    exact ⟨hab, k⟩
  · rw [if_neg (by rw [hw]; exact Bool.false_ne_true)]
    exact ⟨hab, k⟩
theorem still_put {j : Nat} {oi oj : Oper} {v : Value} (hd : noDefer ops = true) (hj : ops[j]? = some oj) (hap : oi.apart ops oj = true) (hsi : ∀ cs b, oi.op ≠ .select cs b) (hsj : ∀ cs b, oj.op ≠ .select cs b)
    (hQ : ∀ c a w, Q (.panic c) (a.put oi.dst v) w → Q (.panic c) a w) {K : Act → World → Prop} {a : Act} {w : World} (hy : Still F P ops S oi v a) (h : wpOpIn F n P ops Q j K (a.put oi.dst v) w) :
    wpOpIn F n P ops Q j (fun a' w' => Still F P ops S oi v a' ∧ K (a'.put oi.dst v) w') a w := by
  obtain ⟨h1, h2, h3⟩ := Oper.apart_spec hap
  have kept : ∀ u, Still F P ops S oi v (a.put oj.dst u) := fun u => hy.same (execOp_put oi hsi a oj.dst u h3) (wanted_put oi a oj.dst u h3) (fun w => about_put oi w a oj.dst u h3)
  have nd := noDefer_at hd hj
  unfold wpOpIn at *
  simp only [hj] at *
  rw [wanted_put oj a oi.dst v h1, about_put oj w a oi.dst v h1] at h
  split
  · rename_i hw
    rw [if_pos hw] at h
    unfold Oper.wpIn at *
    rw [about_put oj w a oi.dst v h1, Oper.semAt_eq F.round _ oj nd, execOp_put oj hsj a oi.dst v h1] at h
    rw [Oper.semAt_eq F.round _ oj nd]
    obtain ⟨hab, h⟩ := h
    refine ⟨hab, ?_⟩
    generalize (execOp a.eval oj).run P w = r at *
    cases r with
    | halt x w' =>
      cases x <;> simp only [Oper.uponIn] at h ⊢
      case panic u => exact hQ _ _ _ h
    | ok x w' =>
      cases x <;> simp only [Oper.uponIn] at h ⊢
      case value u => exact ⟨kept u, by rw [← Act.put_comm a v u h2]; exact h⟩
      case skip => exact ⟨kept _, by rw [← Act.put_comm a v undef h2]; exact h⟩
      case defer d =>
        refine ⟨Still.same (a := a) hy ?_ ?_ ?_, ?_⟩
        · exact (execOp_put oi hsi { a with defers := d :: a.defers } oj.dst undef h3).trans rfl
        · exact (wanted_put oi { a with defers := d :: a.defers } oj.dst undef h3).trans rfl
        · exact fun w => (about_put oi w { a with defers := d :: a.defers } oj.dst undef h3).trans rfl
        · rw [← Act.put_comm _ v undef h2, ← Act.put_defers]; exact h
      case enter f args =>
        refine ⟨h.1, CallsIn.mono h.2 fun e w'' he => ?_⟩
        cases e with
        | returned u => exact ⟨kept u, by rw [← Act.put_comm a v u h2]; exact he⟩
        | panicked c => exact hQ _ _ _ he
        | outgrown => exact he
      case row row args => exact ⟨h.1, RowsIn.mono h.2 fun u w'' he => ⟨kept u, by rw [← Act.put_comm a v u h2]; exact he⟩⟩
      case round l f tmps assign body =>
        refine ⟨h.1, RoundIn.mono h.2 fun e w'' he => ?_⟩
        cases e with
        | returned u => exact ⟨kept u, by rw [← Act.put_comm a v u h2]; exact he⟩
        | panicked c => exact hQ _ _ _ he
        | outgrown => exact he
  · rename_i hw
    rw [if_neg hw] at h
    exact ⟨h.1, kept _, by rw [← Act.put_comm a v undef h2]; exact h.2⟩

/-- does an operation wait for another one? -/
def waits (md : Region.Mode) (ops : Array Oper) (j i : Nat) : Bool := match ops[j]? with | some o => o.after.any (fun e => Region.binds md e && e.on == i) | none => false
/-- do all operations from a number on wait for all before it? -/
def late (md : Region.Mode) (ops : Array Oper) (m : Nat) : Bool := (List.range m).all (fun i => (List.range (m + 1)).any fun j => decide (i < j) && waits md ops j i) && (List.range ops.size).all (fun j => decide (j ≤ m) || (List.range j).any fun k => decide (m ≤ k) && waits md ops j k)
/-- what came up, came up behind what it waits for -/
def Closed (md : Region.Mode) (ops : Array Oper) (listed : Array Bool) : Prop := ∀ (j : Nat) (o : Oper), ops[j]? = some o → listed.getD j false = true → ∀ e ∈ o.after, Region.binds md e = true → listed.getD e.on false = true
theorem Closed.start : Closed md ops (Array.replicate ops.size false) := by
  intro j o hj hl
  simp [Array.getElem?_replicate] at hl
  split at hl <;> simp at hl
theorem Closed.set {listed : Array Bool} (h : Closed md ops listed) {i : Nat} (hi : i ∈ Region.ready md ops listed) : Closed md ops (listed.setIfInBounds i true) := by
  intro j o hj hl e he hb
  obtain ⟨_, o', ho', hall⟩ := mem_ready.1 hi
  by_cases hji : i = j
  · subst hji
    rw [hj] at ho'
    cases ho'
    exact getD_set_true (hall e he hb)
  · rw [getD_set_ne false hji] at hl
    exact getD_set_true (h j o hj hl e he hb)
theorem waits_iff {j i : Nat} : waits md ops j i = true ↔ ∃ o, ops[j]? = some o ∧ ∃ e ∈ o.after, Region.binds md e = true ∧ e.on = i := by
  unfold waits
  cases ho : ops[j]? with
  | none => simp
  | some o =>
    simp only [Option.some.injEq, exists_eq_left']
    rw [Array.any_eq_true']
    simp only [Bool.and_eq_true, beq_iff_eq]
theorem Closed.below {m : Nat} (hm : late md ops m = true) {listed : Array Bool} (h : Closed md ops listed) (hw : ∀ i, waits md ops m i = true → listed.getD i false = true) : ∀ i, i < m → listed.getD i false = true := by
  unfold late at hm
  rw [Bool.and_eq_true, List.all_eq_true] at hm
  have key : ∀ k i, m - i ≤ k → i < m → listed.getD i false = true := by
    intro k
    induction k with
    | zero => intro i h1 h2; omega
    | succ k ih =>
      intro i h1 h2
      have := hm.1 i (List.mem_range.2 h2)
      obtain ⟨j, hj, hjw⟩ := List.any_eq_true.1 this
      rw [List.mem_range] at hj
      rw [Bool.and_eq_true, decide_eq_true_eq] at hjw
      by_cases hjm : j = m
      · subst hjm; exact hw i hjw.2
      · have hjl := ih j (by omega) (by omega)
        obtain ⟨o, ho, e, he, hb, rfl⟩ := waits_iff.1 hjw.2
        exact h j o ho hjl e he hb
  exact fun i hi => key (m - i) i (Nat.le_refl _) hi
theorem Closed.later {m : Nat} (hm : late md ops m = true) {listed : Array Bool} (h : Closed md ops listed) : ∀ j, m < j → j < ops.size → (∀ i, waits md ops j i = true → listed.getD i false = true) → listed.getD m false = true := by
  intro j
  induction j using Nat.strongRecOn with
  | ind j ih =>
    intro h1 h2 hw
    have hm' := hm
    unfold late at hm'
    rw [Bool.and_eq_true, List.all_eq_true, List.all_eq_true] at hm'
    have := hm'.2 j (List.mem_range.2 h2)
    rw [Bool.or_eq_true, decide_eq_true_eq] at this
    rcases this with this | this
    · omega
    · obtain ⟨k, hk, hkw⟩ := List.any_eq_true.1 this
      rw [List.mem_range] at hk
      rw [Bool.and_eq_true, decide_eq_true_eq] at hkw
      have hkl := hw k hkw.2
      by_cases hkm : k = m
      · subst hkm; exact hkl
      · refine ih k hk (by omega) (by omega) fun i hi => ?_
        obtain ⟨o, ho, e, he, hb, rfl⟩ := waits_iff.1 hi
        exact h k o ho hkl e he hb
/-- behind the number, all before it has come up -/
theorem Closed.all {m : Nat} (hm : late md ops m = true) {listed : Array Bool} (h : Closed md ops listed) {j : Nat} (hj : j ∈ Region.ready md ops listed) (hmj : m ≤ j) : ∀ i, i < m → listed.getD i false = true := by
  obtain ⟨_, o, ho, hall⟩ := mem_ready.1 hj
  have hw : ∀ i, waits md ops j i = true → listed.getD i false = true := fun i hi => by
    obtain ⟨o', ho', e, he, hb, rfl⟩ := waits_iff.1 hi
    rw [ho] at ho'
    cases ho'
    exact hall e he hb
  by_cases hjm : j = m
  · subst hjm; exact h.below hm hw
  · have hml := h.later hm j (by omega) ((Array.getElem?_eq_some_iff.1 ho).1) hw
    refine h.below hm fun i hi => ?_
    obtain ⟨o', ho', e, he, hb, rfl⟩ := waits_iff.1 hi
    exact h m o' ho' hml e he hb

/-- whatever order is drawn, the class holds behind each operation before the number -/
def wpAnyG (F : Fence) (n : Nat) (P : Program) (md : Region.Mode) (ops : Array Oper) (Q : Exit → Act → World → Prop) (S : World → Prop) (m : Nat) : Nat → Array Bool → Act → World → Prop
  | 0, listed, a, w => Region.ready md ops listed = [] ∧ Q .normal a w
  | fuel + 1, listed, a, w => (Region.ready md ops listed = [] → Q .normal a w) ∧ ∀ i ∈ Region.ready md ops listed, wpOpIn F n P ops Q i (fun a' w' => (i < m → S w') ∧ wpAnyG F n P md ops Q S m fuel (listed.setIfInBounds i true) a' w') a w
theorem wpAnyG.any {m : Nat} : ∀ (fuel : Nat) (listed : Array Bool) (a : Act) (w : World), wpAnyG F n P md ops Q S m fuel listed a w → wpAnyIn F n P md ops Q fuel listed a w
  | 0, _, _, _, h => h
  | fuel + 1, _, _, _, h => ⟨h.1, fun i hi => wpOpIn_mono (fun _ _ k => wpAnyG.any fuel _ _ _ k.2) (h.2 i hi)⟩
theorem wpAnyG.first {m i : Nat} {oi : Oper} {v : Value} (hm : late md ops m = true) (him : i < m) (hd : noDefer ops = true) (hi : ops[i]? = some oi) (hsel : ∀ (j : Nat) (o : Oper) cs b, ops[j]? = some o → o.op ≠ .select cs b) (hQ : ∀ c a w, Q (.panic c) (a.put oi.dst v) w → Q (.panic c) a w) :
    ∀ (fuel : Nat) (listed : Array Bool) (a : Act) (w : World), Closed md ops listed →
      (∀ j oj, ops[j]? = some oj → j ≠ i → listed.getD j true = false → (∀ e ∈ oj.after, Region.binds md e = true → e.on ≠ i) → oi.apart ops oj = true) →
      i ∈ Region.ready md ops listed → Still F P ops S oi v a → S w → wpAnyG F n P md ops Q S m fuel (listed.setIfInBounds i true) (a.put oi.dst v) w → wpAnyG F n P md ops Q S m (fuel + 1) listed a w := by
  intro fuel
  induction fuel with
  | zero =>
    intro listed a w _ _ hr hy hS H
    refine ⟨fun h => (by rw [h] at hr; cases hr), fun j hj => ?_⟩
    by_cases hji : j = i
    · subst hji; exact hy.run hd hi hS ⟨fun _ => hS, H⟩
    · have := ready_mono hj hji
      rw [H.1] at this
      cases this
  | succ fuel ih =>
    intro listed a w hcl hfree hr hy hS H
    refine ⟨fun h => (by rw [h] at hr; cases hr), fun j hj => ?_⟩
    by_cases hji : j = i
    · subst hji; exact hy.run hd hi hS ⟨fun _ => hS, H⟩
    · obtain ⟨hjun, oj, hoj, hall⟩ := mem_ready.1 hj
      have hun := (mem_ready.1 hr).1
      have hno : ¬ listed.getD i false = true := fun h1 => by
        rcases Nat.lt_or_ge i listed.size with h' | h'
        · simp [h'] at hun h1; rw [hun] at h1; cases h1
        · simp [Array.getElem?_eq_none h'] at h1
      have hjm : j < m := by
        by_cases h : j < m
        · exact h
        · exact absurd (hcl.all hm hj (by omega) i him) hno
      have hnot : ∀ e ∈ oj.after, Region.binds md e = true → e.on ≠ i := fun e he hb heq => hno (heq ▸ hall e he hb)
      have h2 := still_put hd hoj (hfree j oj hoj hji hjun hnot) (fun cs b => hsel i oi cs b hi) (fun cs b => hsel j oj cs b hoj) hQ hy (H.2 j (ready_mono hj hji))
      refine wpOpIn_mono (fun a' w' h3 => ⟨fun _ => h3.2.1 hjm, ih (listed.setIfInBounds j true) a' w' (hcl.set hj) (fun k ok hk hki hun hno => ?_) (ready_mono hr (Ne.symm hji)) h3.1 (h3.2.1 hjm) ?_⟩) h2
      · refine hfree k ok hk hki ?_ hno
        by_cases hjk : j = k
        · subst hjk; exact hjun
        · rw [getD_set_ne true hjk] at hun; exact hun
      · rw [Array.setIfInBounds_comm _ _ hji]
        exact h3.2.2
/-- an operation is taken first; the slot that it writes is named -/
theorem takeG {i : Nat} {d : Option Tmp} {oi : Oper} {v : Value} {fuel m : Nat} {listed : Array Bool} {a : Act} {w : World} (hi : ops[i]? = some oi) (hd : oi.dst = d) (hn : noDefer ops = true) (hm : late md ops m = true) (him : i < m) (hcl : Closed md ops listed)
    (hs : Region.noSelect ops = true) (hf : Region.free md ops listed i = true) (hr : (Region.ready md ops listed).contains i = true)
    (hQ : ∀ c a w, Q (.panic c) (a.put oi.dst v) w → Q (.panic c) a w) (hw : Region.wanted oi (yielded ops a.tmps) = true) (hy : ∀ w, S w → (execOp a.eval oi).run P w = .ok (.value v) w) (ha : ∀ w f, oi.about P w a.eval = some f → F.fn f) (hS : S w)
    (h : Closed md ops (listed.setIfInBounds i true) → wpAnyG F n P md ops Q S m fuel (listed.setIfInBounds i true) (a.put d v) w) : wpAnyG F n P md ops Q S m (fuel + 1) listed a w := by
  subst hd
  exact wpAnyG.first hm him hn hi (Region.noSelect_spec hs) hQ fuel listed a w hcl (Region.free_spec hi hf) (by simpa using hr) ⟨.inl ⟨hw, hy⟩, ha⟩ hS (h (hcl.set (by simpa using hr)))
/-- one whose guard is false is passed over -/
theorem skipG {i : Nat} {d : Option Tmp} {oi : Oper} {fuel m : Nat} {listed : Array Bool} {a : Act} {w : World} (hi : ops[i]? = some oi) (hd : oi.dst = d) (hn : noDefer ops = true) (hm : late md ops m = true) (him : i < m) (hcl : Closed md ops listed)
    (hs : Region.noSelect ops = true) (hf : Region.free md ops listed i = true) (hr : (Region.ready md ops listed).contains i = true)
    (hQ : ∀ c a w, Q (.panic c) (a.put oi.dst undef) w → Q (.panic c) a w) (hw : Region.wanted oi (yielded ops a.tmps) = false) (ha : ∀ w f, oi.about P w a.eval = some f → F.fn f) (hS : S w)
    (h : Closed md ops (listed.setIfInBounds i true) → wpAnyG F n P md ops Q S m fuel (listed.setIfInBounds i true) (a.put d undef) w) : wpAnyG F n P md ops Q S m (fuel + 1) listed a w := by
  subst hd
  exact wpAnyG.first hm him hn hi (Region.noSelect_spec hs) hQ fuel listed a w hcl (Region.free_spec hi hf) (by simpa using hr) ⟨.inr ⟨hw, rfl⟩, ha⟩ hS (h (hcl.set (by simpa using hr)))
/-- the one that may come up -/
theorem nextG {i : Nat} {o : Oper} {fuel m : Nat} {listed : Array Bool} {a : Act} {w : World} (hr : Region.ready md ops listed = [i]) (ho : ops[i]? = some o) (hw : Region.wanted o (yielded ops a.tmps) = true) (hcl : Closed md ops listed)
    (h : ∀ K : Act → World → Prop, Hid (∀ a w, S w → (S w → Closed md ops (listed.setIfInBounds i true) → wpAnyG F n P md ops Q S m fuel (listed.setIfInBounds i true) a w) → K a w) → Oper.wpIn F n P o a w K Q) : wpAnyG F n P md ops Q S m (fuel + 1) listed a w := by
  refine ⟨fun h0 => (by rw [hr] at h0; cases h0), fun j hj => ?_⟩
  have hj' := hj
  rw [hr, List.mem_singleton] at hj
  subst hj
  refine wpOpIn_step ho fun K' hK => ?_
  rw [if_pos hw]
  exact h K' (Lib.hid fun a w hS hk => hK a w ⟨fun _ => hS, hk hS (hcl.set hj')⟩)
/-- the one that may come up, behind the number: of the class nothing is asked -/
theorem lastG {i : Nat} {o : Oper} {fuel m : Nat} {listed : Array Bool} {a : Act} {w : World} (hr : Region.ready md ops listed = [i]) (ho : ops[i]? = some o) (hw : Region.wanted o (yielded ops a.tmps) = true) (him : m ≤ i)
    (h : ∀ K : Act → World → Prop, Hid (∀ a w, wpAnyG F n P md ops Q S m fuel (listed.setIfInBounds i true) a w → K a w) → Oper.wpIn F n P o a w K Q) : wpAnyG F n P md ops Q S m (fuel + 1) listed a w := by
  refine ⟨fun h0 => (by rw [hr] at h0; cases h0), fun j hj => ?_⟩
  rw [hr, List.mem_singleton] at hj
  subst hj
  refine wpOpIn_step ho fun K' hK => ?_
  rw [if_pos hw]
  exact h K' (Lib.hid fun a w hk => hK a w ⟨fun h => absurd h (by omega), hk⟩)
theorem doneG {m : Nat} {listed : Array Bool} {a : Act} {w : World} (hr : Region.ready md ops listed = []) (h : Q .normal a w) : ∀ fuel, wpAnyG F n P md ops Q S m fuel listed a w
  | 0 => ⟨hr, h⟩
  | _ + 1 => ⟨fun _ => h, by rw [hr]; simp⟩
/-- the beginning -/
theorem regionG {id : Nat} {a : Act} {w : World} (S : World → Prop) (m : Nat) (hm : P.follows .mixedOrders = true) (hS : S w.drew) (h : S w.drew → Closed .any ops (Array.replicate ops.size false) → wpAnyG F n P .any ops Q S m ops.size (Array.replicate ops.size false) a w.drew) : (Code.region id ops true).wpIn F n P Q a w :=
  wpIn_region_any hm (wpAnyG.any _ _ _ _ (h hS Closed.start))
theorem nextG2 {i j : Nat} {o o' : Oper} {fuel m : Nat} {listed : Array Bool} {a : Act} {w : World} (hr : Region.ready md ops listed = [i, j]) (ho : ops[i]? = some o) (ho' : ops[j]? = some o') (hw : Region.wanted o (yielded ops a.tmps) = true) (hw' : Region.wanted o' (yielded ops a.tmps) = true) (hcl : Closed md ops listed)
    (h : ∀ K : Act → World → Prop, Hid (∀ a w, S w → (S w → Closed md ops (listed.setIfInBounds i true) → wpAnyG F n P md ops Q S m fuel (listed.setIfInBounds i true) a w) → K a w) → Oper.wpIn F n P o a w K Q)
    (h' : ∀ K : Act → World → Prop, Hid (∀ a w, S w → (S w → Closed md ops (listed.setIfInBounds j true) → wpAnyG F n P md ops Q S m fuel (listed.setIfInBounds j true) a w) → K a w) → Oper.wpIn F n P o' a w K Q) : wpAnyG F n P md ops Q S m (fuel + 1) listed a w := by
  refine ⟨fun h0 => (by rw [hr] at h0; cases h0), fun k hk => ?_⟩
  have hk' := hk
  rw [hr, List.mem_cons, List.mem_singleton] at hk
  rcases hk with e | e
  · subst e
    refine wpOpIn_step ho fun K' hK => ?_
    rw [if_pos hw]
    exact h K' (Lib.hid fun a w hS hk => hK a w ⟨fun _ => hS, hk hS (hcl.set hk')⟩)
  · subst e
    refine wpOpIn_step ho' fun K' hK => ?_
    rw [if_pos hw']
    exact h' K' (Lib.hid fun a w hS hk => hK a w ⟨fun _ => hS, hk hS (hcl.set hk')⟩)
end

/-- an end that is normal, and of which something is said -/
def S.Nrm (R : Act → World → Prop) : Exit → Act → World → Prop
  | .normal, a, w => R a w
  | _, _, _ => False
theorem S.nrm_intro {R : Act → World → Prop} {a : Act} {w : World} (h : R a w) : S.Nrm R .normal a w := h
/-- only the normal way is looked at -/
theorem wpIn_nrm {F : Fence} {n : Nat} {P : Program} {c : Code} {Q : Exit → Act → World → Prop} {a : Act} {w : World} (h : c.wpIn F n P (S.Nrm fun a w => Q .normal a w) a w) : c.wpIn F n P Q a w :=
  wpIn_mono h fun e a w h => by cases e <;> first | exact h | exact h.elim
theorem T.merge1 {P : Prop} (R : World → Prop) {G : World → Prop} (h1 : Hid (∀ w', R w' → G w') → P) (h2 : ∀ w', R w' → G w') : P := h1 (Lib.hid h2)
theorem T.mergeN {P : Prop} (R : World → Nat → Prop) {G : World → Nat → Prop} (h1 : Hid (∀ w' b, R w' b → G w' b) → P) (h2 : ∀ w' b, R w' b → G w' b) : P := h1 (Lib.hid h2)

end Go.Proofs.Ytlpkheoljbdajaa

/- Drawn regions whose operations before a number leave one value each, and a world of a class, in whatever world of it they come up: calls, too. -/
namespace Go.Proofs.Ytlpkheoljbdajaa
open Go.RowKit

section
variable {F : Fence} {n : Nat} {P : Program} {ops : Array Oper} {Q : Exit → Act → World → Prop} {md : Region.Mode} {S : World → Prop}

/-- one value, and a world of the class -/
def T.qUp (F : Fence) (n : Nat) (P : Program) (S : World → Prop) (v : Value) : Result Next → Prop
  | .ok (.value u) w' => u = v ∧ S w'
  | .ok .skip w' => v = undef ∧ S w'
  | .ok (.enter f args) w' => (F.depth.isSome = true → 1 ≤ n) ∧ CallsIn F (n - 1) P f args w' fun e w'' => e = .returned v ∧ S w''
  | _ => False
theorem T.qUp_value (v u : Value) (w : World) : T.qUp F n P S v (.ok (.value u) w) = (u = v ∧ S w) := rfl
theorem T.qUp_enter (v : Value) (f : FuncId) (args : Array Value) (w : World) : T.qUp F n P S v (.ok (.enter f args) w) = ((F.depth.isSome = true → 1 ≤ n) ∧ CallsIn F (n - 1) P f args w fun e w'' => e = .returned v ∧ S w'') := rfl
theorem T.qVal {v : Value} {w : World} {r : Result Next} (h : r = .ok (.value v) w) (hS : S w) : T.qUp F n P S v r := by rw [h]; exact ⟨rfl, hS⟩
attribute [go_sem] T.qUp_value T.qUp_enter
/-- so in every world of the class -/
structure T.Qt (F : Fence) (n : Nat) (P : Program) (ops : Array Oper) (S : World → Prop) (o : Oper) (v : Value) (a : Act) : Prop where
  ab : ∀ w f, o.about P w a.eval = some f → F.fn f
  is : (Region.wanted o (yielded ops a.tmps) = true ∧ ∀ w, S w → T.qUp F n P S v ((execOp a.eval o).run P w)) ∨ (Region.wanted o (yielded ops a.tmps) = false ∧ v = undef)
theorem T.Qt.same {o : Oper} {v : Value} {a a' : Act} (h : T.Qt F n P ops S o v a) (e1 : execOp a'.eval o = execOp a.eval o) (e2 : Region.wanted o (yielded ops a'.tmps) = Region.wanted o (yielded ops a.tmps)) (e3 : ∀ w, o.about P w a'.eval = o.about P w a.eval) : T.Qt F n P ops S o v a' :=
  ⟨fun w f hf => h.ab w f ((e3 w).symm.trans hf), by rw [e1, e2]; exact h.is⟩
theorem T.Qt.run {i : Nat} {o : Oper} {v : Value} {a : Act} (hd : noDefer ops = true) (hi : ops[i]? = some o) (h : T.Qt F n P ops S o v a) {K : Act → World → Prop} {w : World} (hS : S w) (k : ∀ w', S w' → K (a.put o.dst v) w') : wpOpIn F n P ops Q i K a w := by
  have e := Oper.semAt_eq F.round a.eval o (noDefer_at hd hi)
  have hab := h.ab w
  unfold wpOpIn
  simp only [hi]
  rcases h.is with ⟨hw, hv⟩ | ⟨hw, rfl⟩
  · rw [if_pos hw]
    unfold Oper.wpIn
    rw [e]
    refine ⟨hab, ?_⟩
    have q := hv w hS
    generalize (execOp a.eval o).run P w = r at q
    cases r with
    | halt x w' => exact q.elim
    | ok x w' =>
      cases x with
      | value u => obtain ⟨e1, e2⟩ := q; rw [Oper.uponIn_value, e1]; exact k _ e2
      | skip => obtain ⟨e1, e2⟩ := q; rw [Oper.uponIn_skip, ← e1]; exact k _ e2
      | enter f args =>
        rw [Oper.uponIn_enter]
        exact ⟨q.1, CallsIn.mono q.2 fun e w'' he => by obtain ⟨rfl, he2⟩ := he; exact k _ he2⟩
      | _ => exact q.elim
  · rw [if_neg (by rw [hw]; exact Bool.false_ne_true)]
    exact ⟨hab, k _ hS⟩

/-- whatever order is drawn, up to a number -/
def T.anyQ (F : Fence) (n : Nat) (P : Program) (md : Region.Mode) (ops : Array Oper) (S : World → Prop) (m : Nat) (Z : Array Bool → Act → Prop) : Nat → Array Bool → Act → Prop
  | 0, listed, a => Z listed a
  | f + 1, listed, a => Region.ready md ops listed ≠ [] ∧ ∀ i ∈ Region.ready md ops listed, i < m ∧ ∃ o v, ops[i]? = some o ∧ T.Qt F n P ops S o v a ∧ T.anyQ F n P md ops S m Z f (listed.setIfInBounds i true) (a.put o.dst v)
theorem T.anyQ.any {m g : Nat} {Z : Array Bool → Act → Prop} (hd : noDefer ops = true) (hT : ∀ listed a w, Z listed a → S w → wpAnyIn F n P md ops Q g listed a w) : ∀ (f : Nat) (listed : Array Bool) (a : Act) (w : World), S w → T.anyQ F n P md ops S m Z f listed a → wpAnyIn F n P md ops Q (f + g) listed a w
  | 0, listed, a, w, hS, h => by rw [Nat.zero_add]; exact hT _ _ _ h hS
  | f + 1, listed, a, w, hS, h => by
    rw [show f + 1 + g = (f + g) + 1 by omega]
    refine ⟨fun h0 => absurd h0 h.1, fun i hi => ?_⟩
    obtain ⟨_, o, v, ho, hq, hr⟩ := h.2 i hi
    exact hq.run hd ho hS fun w' hS' => T.anyQ.any hd hT f _ _ w' hS' hr
theorem T.anyQ.first {m i : Nat} {oi : Oper} {v : Value} {Z : Array Bool → Act → Prop} (hm : late md ops m = true) (him : i < m) (hi : ops[i]? = some oi) (hsel : ∀ (j : Nat) (o : Oper) cs b, ops[j]? = some o → o.op ≠ .select cs b) (hT0 : ∀ listed a, Z listed a → ∀ j, j < m → listed.getD j false = true) :
    ∀ (f : Nat) (listed : Array Bool) (a : Act), Closed md ops listed →
      (∀ j oj, ops[j]? = some oj → j ≠ i → listed.getD j true = false → (∀ e ∈ oj.after, Region.binds md e = true → e.on ≠ i) → oi.apart ops oj = true) →
      i ∈ Region.ready md ops listed → T.Qt F n P ops S oi v a → T.anyQ F n P md ops S m Z f (listed.setIfInBounds i true) (a.put oi.dst v) → T.anyQ F n P md ops S m Z (f + 1) listed a := by
  intro f
  have key : ∀ {listed : Array Bool}, i ∈ Region.ready md ops listed → ¬ listed.getD i false = true := fun {listed} hr h1 => by
    have hun := (mem_ready.1 hr).1
    rcases Nat.lt_or_ge i listed.size with h' | h'
    · simp [h'] at hun h1; rw [hun] at h1; cases h1
    · simp [Array.getElem?_eq_none h'] at h1
  induction f with
  | zero =>
    intro listed a hcl _ hr hy H
    refine ⟨fun h => (by rw [h] at hr; cases hr), fun j hj => ?_⟩
    have hjm : j < m := by
      by_cases h : j < m
      · exact h
      · exact absurd (hcl.all hm hj (by omega) i him) (key hr)
    by_cases hji : j = i
    · subst hji; exact ⟨him, oi, v, hi, hy, H⟩
    · have h1 := hT0 _ _ H j hjm
      rw [getD_set_ne false (Ne.symm hji)] at h1
      have hun := (mem_ready.1 hj).1
      rcases Nat.lt_or_ge j listed.size with h' | h'
      · simp [h'] at hun h1; rw [hun] at h1; cases h1
      · simp [Array.getElem?_eq_none h'] at h1
  | succ f ih =>
    intro listed a hcl hfree hr hy H
    refine ⟨fun h => (by rw [h] at hr; cases hr), fun j hj => ?_⟩
    have hjm : j < m := by
      by_cases h : j < m
      · exact h
      · exact absurd (hcl.all hm hj (by omega) i him) (key hr)
    by_cases hji : j = i
    · subst hji; exact ⟨him, oi, v, hi, hy, H⟩
    · obtain ⟨hjun, oj, hoj, hall⟩ := mem_ready.1 hj
      have hnot : ∀ e ∈ oj.after, Region.binds md e = true → e.on ≠ i := fun e he hb heq => key hr (heq ▸ hall e he hb)
      obtain ⟨_, oj', vj, hoj', hqj, hrest⟩ := H.2 j (ready_mono hj hji)
      have : oj' = oj := Option.some.inj (hoj'.symm.trans hoj)
      subst this
      obtain ⟨h1, h2, h3⟩ := Oper.apart_spec (hfree j oj' hoj hji hjun hnot)
      have si := fun cs b => hsel i oi cs b hi
      have sj := fun cs b => hsel j oj' cs b hoj
      refine ⟨hjm, oj', vj, hoj, hqj.same (execOp_put oj' sj a oi.dst v h1).symm (wanted_put oj' a oi.dst v h1).symm (fun w => (about_put oj' w a oi.dst v h1).symm), ?_⟩
      refine ih (listed.setIfInBounds j true) (a.put oj'.dst vj) (hcl.set hj) (fun k ok hk hki hun hno => ?_) (ready_mono hr (Ne.symm hji)) (hy.same (execOp_put oi si a oj'.dst vj h3) (wanted_put oi a oj'.dst vj h3) (fun w => about_put oi w a oj'.dst vj h3)) ?_
      · refine hfree k ok hk hki ?_ hno
        by_cases hjk : j = k
        · subst hjk; exact hjun
        · rw [getD_set_ne true hjk] at hun; exact hun
      · rw [Array.setIfInBounds_comm _ _ hji, ← Act.put_comm a v vj h2]
        exact hrest
/-- what is asked when all before the number have come up -/
def T.tail (F : Fence) (n : Nat) (P : Program) (md : Region.Mode) (ops : Array Oper) (Q : Exit → Act → World → Prop) (S : World → Prop) (m g : Nat) (listed : Array Bool) (a : Act) : Prop :=
  (∀ j, j < m → listed.getD j false = true) ∧ ∀ w, S w → wpAnyG F n P md ops Q S m g listed a w
theorem T.tail_intro {m g : Nat} {listed : Array Bool} {a : Act} (h : (List.range m).all (fun j => listed.getD j false) = true) (k : ∀ w, S w → wpAnyG F n P md ops Q S m g listed a w) : T.anyQ F n P md ops S m (T.tail F n P md ops Q S m g) 0 listed a :=
  ⟨fun j hj => List.all_eq_true.1 h j (List.mem_range.2 hj), k⟩
/-- an operation is taken first -/
theorem T.qTake {i : Nat} {d : Option Tmp} {oi : Oper} {v : Value} {f m g : Nat} {listed : Array Bool} {a : Act} (hi : ops[i]? = some oi) (hd : oi.dst = d) (hm : late md ops m = true) (him : i < m) (hcl : Closed md ops listed)
    (hs : Region.noSelect ops = true) (hf : Region.free md ops listed i = true) (hr : (Region.ready md ops listed).contains i = true)
    (hw : Region.wanted oi (yielded ops a.tmps) = true) (hy : ∀ w, S w → T.qUp F n P S v ((execOp a.eval oi).run P w)) (ha : ∀ w f, oi.about P w a.eval = some f → F.fn f)
    (h : Closed md ops (listed.setIfInBounds i true) → T.anyQ F n P md ops S m (T.tail F n P md ops Q S m g) f (listed.setIfInBounds i true) (a.put d v)) : T.anyQ F n P md ops S m (T.tail F n P md ops Q S m g) (f + 1) listed a := by
  subst hd
  exact T.anyQ.first hm him hi (Region.noSelect_spec hs) (fun _ _ h => h.1) f listed a hcl (Region.free_spec hi hf) (by simpa using hr) ⟨ha, .inl ⟨hw, hy⟩⟩ (h (hcl.set (by simpa using hr)))
/-- one whose guard is false is passed over -/
theorem T.qSkip {i : Nat} {d : Option Tmp} {oi : Oper} {f m g : Nat} {listed : Array Bool} {a : Act} (hi : ops[i]? = some oi) (hd : oi.dst = d) (hm : late md ops m = true) (him : i < m) (hcl : Closed md ops listed)
    (hs : Region.noSelect ops = true) (hf : Region.free md ops listed i = true) (hr : (Region.ready md ops listed).contains i = true)
    (hw : Region.wanted oi (yielded ops a.tmps) = false) (ha : ∀ w f, oi.about P w a.eval = some f → F.fn f)
    (h : Closed md ops (listed.setIfInBounds i true) → T.anyQ F n P md ops S m (T.tail F n P md ops Q S m g) f (listed.setIfInBounds i true) (a.put d undef)) : T.anyQ F n P md ops S m (T.tail F n P md ops Q S m g) (f + 1) listed a := by
  subst hd
  exact T.anyQ.first hm him hi (Region.noSelect_spec hs) (fun _ _ h => h.1) f listed a hcl (Region.free_spec hi hf) (by simpa using hr) ⟨ha, .inr ⟨hw, rfl⟩⟩ (h (hcl.set (by simpa using hr)))
/-- the beginning -/
theorem T.regionQ {id : Nat} {a : Act} {w : World} (S : World → Prop) (m g : Nat) (hm : P.follows .mixedOrders = true) (hd : noDefer ops = true) (hg : m + g = ops.size) (hS : S w.drew)
    (h : Closed .any ops (Array.replicate ops.size false) → T.anyQ F n P .any ops S m (T.tail F n P .any ops Q S m g) m (Array.replicate ops.size false) a) : (Code.region id ops true).wpIn F n P Q a w := by
  refine wpIn_region_any hm ?_
  have q := T.anyQ.any (g := g) (Q := Q) hd (fun listed a w ht hS => wpAnyG.any _ _ _ _ (ht.2 w hS)) m (Array.replicate ops.size false) a w.drew hS (h Closed.start)
  rw [hg] at q
  exact q
end

end Go.Proofs.Ytlpkheoljbdajaa

/- Quiet regions: an operation whose guard is a Boolean that is not known. -/
namespace Go.Proofs.Ytlpkheoljbdajaa
open Go.RowKit

section
variable {F : Fence} {n : Nat} {P : Program} {ops : Array Oper} {Q : Exit → Act → World → Prop} {md : Region.Mode} {S : World → Prop}
theorem T.qMay (b : Bool) {i : Nat} {d : Option Tmp} {oi : Oper} {v : Value} {f m g : Nat} {listed : Array Bool} {a : Act} (hi : ops[i]? = some oi) (hd : oi.dst = d) (hm : late md ops m = true) (him : i < m) (hcl : Closed md ops listed)
    (hs : Region.noSelect ops = true) (hf : Region.free md ops listed i = true) (hr : (Region.ready md ops listed).contains i = true)
    (hw : Region.wanted oi (yielded ops a.tmps) = b) (hy : b = true → ∀ w, S w → T.qUp F n P S v ((execOp a.eval oi).run P w)) (ha : ∀ w f, oi.about P w a.eval = some f → F.fn f)
    (h : ∀ u, (b = true → u = v) → Closed md ops (listed.setIfInBounds i true) → T.anyQ F n P md ops S m (T.tail F n P md ops Q S m g) f (listed.setIfInBounds i true) (a.put d u)) : T.anyQ F n P md ops S m (T.tail F n P md ops Q S m g) (f + 1) listed a := by
  cases b with
  | false => exact T.qSkip hi hd hm him hcl hs hf hr hw ha (h undef (fun q => by cases q))
  | true => exact T.qTake hi hd hm him hcl hs hf hr hw (hy rfl) ha (h v (fun _ => rfl))
end

end Go.Proofs.Ytlpkheoljbdajaa

/- Calls in great frames: the arguments are read before the frame is looked at. -/
namespace Go.Proofs.Ytlpkheoljbdajaa
open Go.RowKit

section
variable {a : Act} {d : Option Tmp} {f : FuncId} {x y z u v : Operand} {ts : Array TypeId} {t : TypeId} {p : String} {g : Option (Nat × Bool)} {b : Builtin}
theorem T.call0 {af} : execOp a.eval { dst := d, op := .call { callee := .value (.func f), args := #[], argTypes := ts }, type := t, pos := p, after := af, guard := g } = callFunc f #[] := by
  simp [execOp, resolve, invoke, Deferred.ofValue, Act.eval]
theorem T.call1 {af} : execOp a.eval { dst := d, op := .call { callee := .value (.func f), args := #[x], argTypes := ts }, type := t, pos := p, after := af, guard := g } = callFunc f #[a.eval x] := by
  simp [execOp, resolve, invoke, Deferred.ofValue, Act.eval]
theorem T.call2 {af} : execOp a.eval { dst := d, op := .call { callee := .value (.func f), args := #[x, y], argTypes := ts }, type := t, pos := p, after := af, guard := g } = callFunc f #[a.eval x, a.eval y] := by
  simp [execOp, resolve, invoke, Deferred.ofValue, Act.eval]
theorem T.call3 {af} : execOp a.eval { dst := d, op := .call { callee := .value (.func f), args := #[x, y, z], argTypes := ts }, type := t, pos := p, after := af, guard := g } = callFunc f #[a.eval x, a.eval y, a.eval z] := by
  simp [execOp, resolve, invoke, Deferred.ofValue, Act.eval]
theorem T.call4 {af} : execOp a.eval { dst := d, op := .call { callee := .value (.func f), args := #[x, y, z, u], argTypes := ts }, type := t, pos := p, after := af, guard := g } = callFunc f #[a.eval x, a.eval y, a.eval z, a.eval u] := by
  simp [execOp, resolve, invoke, Deferred.ofValue, Act.eval]
theorem T.call5 {af} : execOp a.eval { dst := d, op := .call { callee := .value (.func f), args := #[x, y, z, u, v], argTypes := ts }, type := t, pos := p, after := af, guard := g } = callFunc f #[a.eval x, a.eval y, a.eval z, a.eval u, a.eval v] := by
  simp [execOp, resolve, invoke, Deferred.ofValue, Act.eval]
theorem T.blt1 {af} {m : Tmp} : execOp a.eval { dst := d, op := .call { callee := .builtin b, args := #[.tmp m], argTypes := ts }, type := t, pos := p, after := af, guard := g } = builtin b ts t #[false] #[a.eval (.tmp m)] := by
  simp [execOp, resolve, invoke, Act.eval]
attribute [go_sem ↓] T.call0 T.call1 T.call2 T.call3 T.call4 T.call5 T.blt1
end

end Go.Proofs.Ytlpkheoljbdajaa

/- The steps of a quiet region, with their small conditions met by themselves. -/
namespace Go.Proofs.Ytlpkheoljbdajaa
open Go.RowKit

section
variable {F : Fence} {n : Nat} {P : Program} {ops : Array Oper} {Q : Exit → Act → World → Prop} {md : Region.Mode} {S : World → Prop}
theorem T.qT {oi : Oper} {f m g : Nat} {listed : Array Bool} {a : Act} (i : Nat) (d : Option Tmp) (v : Value) (hi : ops[i]? = some oi) (hd : oi.dst = d) (hcl : Closed md ops listed)
    (hy : ∀ w, S w → T.qUp F n P S v ((execOp a.eval oi).run P w))
    (h : Closed md ops (listed.setIfInBounds i true) → T.anyQ F n P md ops S m (T.tail F n P md ops Q S m g) f (listed.setIfInBounds i true) (a.put d v))
    (hm : late md ops m = true := by kernel_rfl) (him : i < m := by decide)
    (hs : Region.noSelect ops = true := by kernel_rfl) (hf : Region.free md ops listed i = true := by kernel_rfl) (hr : (Region.ready md ops listed).contains i = true := by kernel_rfl)
    (hw : Region.wanted oi (yielded ops a.tmps) = true := by rfl) (ha : ∀ w f, oi.about P w a.eval = some f → F.fn f := by exact fun _ _ _ => trivial) :
    T.anyQ F n P md ops S m (T.tail F n P md ops Q S m g) (f + 1) listed a := T.qTake hi hd hm him hcl hs hf hr hw hy ha h
theorem T.qS {oi : Oper} {f m g : Nat} {listed : Array Bool} {a : Act} (i : Nat) (d : Option Tmp) (hi : ops[i]? = some oi) (hd : oi.dst = d) (hcl : Closed md ops listed)
    (h : Closed md ops (listed.setIfInBounds i true) → T.anyQ F n P md ops S m (T.tail F n P md ops Q S m g) f (listed.setIfInBounds i true) (a.put d undef))
    (hm : late md ops m = true := by kernel_rfl) (him : i < m := by decide)
    (hs : Region.noSelect ops = true := by kernel_rfl) (hf : Region.free md ops listed i = true := by kernel_rfl) (hr : (Region.ready md ops listed).contains i = true := by kernel_rfl)
    (hw : Region.wanted oi (yielded ops a.tmps) = false := by rfl) (ha : ∀ w f, oi.about P w a.eval = some f → F.fn f := by exact fun _ _ _ => trivial) :
    T.anyQ F n P md ops S m (T.tail F n P md ops Q S m g) (f + 1) listed a := T.qSkip hi hd hm him hcl hs hf hr hw ha h
end

end Go.Proofs.Ytlpkheoljbdajaa
