import Derived.Test.YtlpkheoljbdajaaIde
/- An append of a slice of things in memory to a row of the call's own: also of none. -/
namespace Go.Proofs.Ytlpkheoljbdajaa
open Go.RowKit

/-- what is known of a slice's type and of its elements -/
structure T.El (e t : TypeId) (k : Nat) : Prop where
  mk :: (is : ∃ i z bytes, Try.prog.underlying t = some (.slice e) ∧ Try.prog.info? e = some i ∧ i.zero = some z ∧ i.size = k ∧ i.bytes = bytes ∧ z.cells.size = k ∧ 0 < k ∧ bytes ≤ 100)
theorem T.el_of {e t : TypeId} {k b : Nat} {z : Value} (hu : Try.prog.underlying t = some (.slice e)) (h : (Try.prog.info? e).map (fun i => (i.zero, i.size, i.bytes)) = some (some z, k, b)) (hz : z.cells.size = k) (hk : 0 < k) (hb : b ≤ 100) : T.El e t k := by
  obtain ⟨i, hi, h1, h2, h3⟩ := info_parts h
  exact ⟨i, z, b, hu, hi, h1, h2, h3, hz, hk, hb⟩
theorem T.elI : T.El 3 28 1 := T.el_of (z := .int .i64 0) (b := 8) Try.underlying28 (by kernel_rfl) rfl (by decide) (by decide)
theorem run_append_nothing {P : Program} {w : World} (base : Nat) (t ty e : TypeId) (i : TypeInfo) (size c : Nat) (ht : P.underlying t = some (.slice e)) (hi : P.info? e = some i)
    (v : Value) (n : Nat) (xs : List Value) (hown : w.ownsRow base e size v n xs) :
    (Builtin.append_ #[t, t] ty #[v, .slice none 0 c]).run P w = .ok v w := by
  rcases hown.2 with ⟨rfl, rfl⟩ | ⟨g, cap, cur, rfl, _, _, hnc, _⟩
  · simp [Builtin.append_, run_underlying ht, sizeOf, typeInfo, hi, Builtin.lenOf, Builtin.firstCells]
  · simp [Builtin.append_, run_underlying ht, sizeOf, typeInfo, hi, Builtin.lenOf, Builtin.firstCells, hnc, storeCells]
theorem grown_refl (w : World) (row : Option Nat) : w.grownBy w row := ⟨rfl, rfl, rfl, Nat.le_refl _, fun _ _ _ => rfl⟩
abbrev T.encI : Int → Nat → Int := fun x _ => x
theorem T.one_int (w : World) (x : Int) {q : Nat} (h : mblk w q = some (.cells #[.int .i64 x] 3 (0, 0))) : Tab 1 T.encI 0 w (.slice (some ⟨q, 0, none⟩) 1 1) [x] :=
  Tab.new (cap := 1) (xs := [x]) h (Nat.le_refl _) (by simp) (fun j hj i hi => by
    obtain rfl : j = 0 := by simpa using hj
    match i, hi with
    | 0, _ => rfl)
theorem T.flat_int (xs : List Int) : T.flat 1 T.encI xs = xs.map (Value.int .i64) := by
  induction xs with
  | nil => rfl
  | cons x xs ih =>
    unfold T.flat at ih ⊢
    rw [List.flatMap_cons, ih]
    rfl
section
variable {α : Type} {k : Nat} {enc : α → Nat → Int} {d : α} {xs ys : List α} {e t : TypeId} {w : World}
theorem T.run_app (E : T.El e t k) (ty : TypeId) {x : Value} (I : Tab k enc d w x xs) (base : Nat) (v : Value) (n : Nat) (hown : w.ownsRow base e k v n (T.flat k enc ys)) (hn : n ≤ 1000) (hl : xs.length ≤ 1000) (hb : base ≤ w.heap.size) :
    ∃ v' w', (Builtin.append_ #[t, t] ty #[v, x]).run Try.prog w = .ok v' w' ∧ w'.ownsRow base e k v' (n + xs.length) (T.flat k enc (ys ++ xs)) ∧ w.grownBy w' v.ownBlock := by
  obtain ⟨i, z, bytes, hU, hi, hz0, hz1, hz2, hz3, hk, hby⟩ := E.is
  obtain ⟨a, c, rfl, hc, hmx, hm⟩ := I.is
  by_cases h0 : 0 < xs.length
  · obtain ⟨g, off, rfl, gl, hx⟩ := hm h0
    have hnews : ∀ j u, (T.flat k enc xs)[j]? = some u → w.cell? ((⟨g, off, none⟩ : Addr).add j) = some u := by
      intro j u hj
      have hjl := (List.getElem?_eq_some_iff.1 hj).1
      rw [T.flat_len] at hjl
      have e1 : j / k < xs.length := Nat.div_lt_of_lt_mul (by rw [Nat.mul_comm]; exact hjl)
      have e2 : j % k < k := Nat.mod_lt _ hk
      have e3 : j / k * k + j % k = j := by rw [Nat.mul_comm]; exact Nat.div_add_mod j k
      have q := T.flat_at (k := k) (enc := enc) (d := d) e1 e2
      rw [e3, hj] at q
      rw [Option.some.inj q]
      rw [D.add_at, ← hx _ e1 _ e2, Nat.add_assoc, e3]
    obtain ⟨v', w', hr, h1, h2, _⟩ := run_append_own (P := Try.prog) w base t ty e i z k bytes hU hi hz0 hz1 hz2 hz3 hk v n (T.flat k enc ys) hown ⟨g, off, none⟩ xs.length c (T.flat k enc xs) T.flat_len hnews T.flat_one (by unfold maxLen; omega) (by have := Nat.mul_le_mul (show n + xs.length ≤ 2000 by omega) hby; omega) hb
    exact ⟨v', w', hr, by rw [T.flat_app]; exact h1, h2⟩
  · have h1 : xs = [] := List.length_eq_zero_iff.1 (by omega)
    subst h1
    rw [List.append_nil]
    show ∃ v' w', (Builtin.append_ #[t, t] ty #[v, .slice a 0 c]).run Try.prog w = .ok v' w' ∧ _
    cases a with
    | none => exact ⟨v, w, run_append_nothing (P := Try.prog) base t ty e i k c hU hi v n _ hown, hown, grown_refl w _⟩
    | some ad =>
      obtain ⟨v', w', hr, h1, h2, _⟩ := run_append_own (P := Try.prog) w base t ty e i z k bytes hU hi hz0 hz1 hz2 hz3 hk v n (T.flat k enc ys) hown ad 0 c [] (by simp) (by simp) (by simp) (by unfold maxLen; omega) (by have := Nat.mul_le_mul (show n + 0 ≤ 2000 by omega) hby; omega) hb
      exact ⟨v', w', hr, by simpa using h1, h2⟩
theorem T.wpList_app (E : T.El e t k) {ops : Array Oper} {rest : List Oper} {o : Oper} {a : Act} {Q : Exit → Act → World → Prop} (hgd : o.guard = none) (s x : Operand) (ho : o.op = .call { callee := .builtin .append, args := #[s, x], argTypes := #[t, t] })
    {xv : Value} (I : Tab k enc d w xv xs) (hx : a.eval x = xv) (base : Nat) (v : Value) (n : Nat) (hs : a.eval s = v) (hown : w.ownsRow base e k v n (T.flat k enc ys)) (hn : n ≤ 1000) (hl : xs.length ≤ 1000) (hb : base ≤ w.heap.size)
    (h : ∀ v' w', w'.ownsRow base e k v' (n + xs.length) (T.flat k enc (ys ++ xs)) → w.grownBy w' v.ownBlock → wpList Try.prog ops Q rest (a.put o.dst v') w') : wpList Try.prog ops Q (o :: rest) a w := by
  refine wpList_plain hgd fun K hK => ?_
  obtain ⟨v', w', hr, h1, h2⟩ := T.run_app E o.type I base v n hown hn hl hb
  unfold Oper.wp execOp
  simp only [ho, resolve, invoke, builtin, Sem.run_bind, Sem.run_pure, Result.andThen_ok, List.map_toArray, List.map_cons, List.map_nil, hs, hx, hr]
  exact hK _ _ (h v' w' h1 h2)
theorem T.opIn_app (E : T.El e t k) {F : Fence} {m : Nat} {o : Oper} {a : Act} {K : Act → World → Prop} {Q : Exit → Act → World → Prop} (s x : Operand) (ho : o.op = .call { callee := .builtin .append, args := #[s, x], argTypes := #[t, t] })
    {xv : Value} (I : Tab k enc d w xv xs) (hx : a.eval x = xv) (base : Nat) (v : Value) (n : Nat) (hs : a.eval s = v) (hown : w.ownsRow base e k v n (T.flat k enc ys)) (hn : n ≤ 1000) (hl : xs.length ≤ 1000) (hb : base ≤ w.heap.size)
    (h : ∀ v' w', w'.ownsRow base e k v' (n + xs.length) (T.flat k enc (ys ++ xs)) → w.grownBy w' v.ownBlock → K (a.put o.dst v') w') : Oper.wpIn F m Try.prog o a w K Q := by
  obtain ⟨v', w', hr, h1, h2⟩ := T.run_app E o.type I base v n hown hn hl hb
  constructor
  · intro f hf
    simp [Oper.about, ho, resolve, Target.leads, Sem.run_pure] at hf
  · rw [Oper.semAt_plain F _ _ (fun c hc => by rw [ho] at hc; cases hc)]
    simp only [execOp, ho, resolve, invoke, builtin, Sem.run_bind, Sem.run_pure, Result.andThen_ok, List.map_toArray, List.map_cons, List.map_nil, hs, hx, hr]
    exact h v' w' h1 h2
end

end Go.Proofs.Ytlpkheoljbdajaa
