import Derived.Test.YtlpkheoljbdajaaWdm
import Derived.Maps.AppendAt
/- An append to a row of one's own, and in which block the row lies then; a copied list in new memory whose elements can be stored. -/
namespace Go.Proofs.Ytlpkheoljbdajaa
open Go.RowKit

section
variable {α : Type} {k : Nat} {enc : α → Nat → Int} {d : α} {xs ys : List α} {e t : TypeId} {w : World}
theorem T.run_app3 (E : T.El e t k) (ty : TypeId) {x : Value} (I : Tab k enc d w x xs) (base : Nat) (v : Value) (n : Nat) (hown : w.ownsRow base e k v n (T.flat k enc ys)) (hn : n ≤ 1000) (hl : xs.length ≤ 1000) (hb : base ≤ w.heap.size) :
    ∃ v' w', (Builtin.append_ #[t, t] ty #[v, x]).run Try.prog w = .ok v' w' ∧ w'.ownsRow base e k v' (n + xs.length) (T.flat k enc (ys ++ xs)) ∧ w.grownBy w' v.ownBlock ∧ (v'.ownBlock = v.ownBlock ∨ v'.ownBlock = some w.heap.size) := by
  obtain ⟨i, z, bytes, hU, hi, hz0, hz1, hz2, hz3, hk, hby⟩ := E.is
  obtain ⟨a, c, rfl, hc, hmx, hm⟩ := I.is
  by_cases h0 : 0 < xs.length
  · obtain ⟨g, off, rfl, gl, hx⟩ := hm h0
    have hnews : ∀ j u, (T.flat k enc xs)[j]? = some u → w.cell? ((⟨g, off, none⟩ : Addr).add j) = some u := by
      intro j u hj
      have hjl := (List.getElem?_eq_some_iff.1 hj).1
      rw [T.flat_len] at hjl
      have e1 : j / k < xs.length := Nat.div_lt_of_lt_mul (by rw [Nat.mul_comm]; exact hjl)
      have e2 : j % k < k := Nat.mod_lt _ hk
      have e3 : j / k * k + j % k = j := by rw [Nat.mul_comm]; exact Nat.div_add_mod j k
      have q := T.flat_at (k := k) (enc := enc) (d := d) e1 e2
      rw [e3, hj] at q
      rw [Option.some.inj q]
      rw [D.add_at, ← hx _ e1 _ e2, Nat.add_assoc, e3]
    obtain ⟨v', w', hr, h1, h2, _, h3⟩ := run_append_own_at (P := Try.prog) (w := w) base t ty e i z k bytes hU hi hz0 hz1 hz2 hz3 hk v n (T.flat k enc ys) hown ⟨g, off, none⟩ xs.length c (T.flat k enc xs) T.flat_len hnews T.flat_one (by unfold maxLen; omega) (by have := Nat.mul_le_mul (show n + xs.length ≤ 2000 by omega) hby; omega) hb
    exact ⟨v', w', hr, by rw [T.flat_app]; exact h1, h2, h3⟩
  · have h1 : xs = [] := List.length_eq_zero_iff.1 (by omega)
    subst h1
    rw [List.append_nil]
    show ∃ v' w', (Builtin.append_ #[t, t] ty #[v, .slice a 0 c]).run Try.prog w = .ok v' w' ∧ _
    cases a with
    | none => exact ⟨v, w, run_append_nothing (P := Try.prog) base t ty e i k c hU hi v n _ hown, hown, grown_refl w _, .inl rfl⟩
    | some ad =>
      obtain ⟨v', w', hr, h1, h2, _, h3⟩ := run_append_own_at (P := Try.prog) (w := w) base t ty e i z k bytes hU hi hz0 hz1 hz2 hz3 hk v n (T.flat k enc ys) hown ad 0 c [] (by simp) (by simp) (by simp) (by unfold maxLen; omega) (by have := Nat.mul_le_mul (show n + 0 ≤ 2000 by omega) hby; omega) hb
      exact ⟨v', w', hr, by simpa using h1, h2, h3⟩
theorem T.opIn_app3 (E : T.El e t k) {F : Fence} {m : Nat} {o : Oper} {a : Act} {K : Act → World → Prop} {Q : Exit → Act → World → Prop} (s x : Operand) (ho : o.op = .call { callee := .builtin .append, args := #[s, x], argTypes := #[t, t] })
    {xv : Value} (I : Tab k enc d w xv xs) (hx : a.eval x = xv) (base : Nat) (v : Value) (n : Nat) (hs : a.eval s = v) (hown : w.ownsRow base e k v n (T.flat k enc ys)) (hn : n ≤ 1000) (hl : xs.length ≤ 1000) (hb : base ≤ w.heap.size)
    (h : ∀ v' w', w'.ownsRow base e k v' (n + xs.length) (T.flat k enc (ys ++ xs)) → w.grownBy w' v.ownBlock → (v'.ownBlock = v.ownBlock ∨ v'.ownBlock = some w.heap.size) → K (a.put o.dst v') w') : Oper.wpIn F m Try.prog o a w K Q := by
  obtain ⟨v', w', hr, h1, h2, h3⟩ := T.run_app3 E o.type I base v n hown hn hl hb
  constructor
  · intro f hf
    simp [Oper.about, ho, resolve, Target.leads, Sem.run_pure] at hf
  · rw [Oper.semAt_plain F _ _ (fun c hc => by rw [ho] at hc; cases hc)]
    simp only [execOp, ho, resolve, invoke, builtin, Sem.run_bind, Sem.run_pure, Result.andThen_ok, List.map_toArray, List.map_cons, List.map_nil, hs, hx, hr]
    exact h v' w' h1 h2 h3
end
/-- a copied list of spans in new memory, whose elements can be stored -/
def T.Own2 (w : World) (base : Nat) (a : Option Addr) (n c : Nat) (L : List (Int × Int)) : Prop := Sps w (.slice a n c) L ∧ (0 < n → ∃ g cur, a = some ⟨g, 0, none⟩ ∧ base ≤ g ∧ mblk w g = some (.cells cur 23 (0, 0)) ∧ n * 2 ≤ cur.size)
theorem T.Own2.of_row {W : World} {base n c : Nat} {a : Option Addr} {L : List (Int × Int)} (ho : W.ownsRow base 23 2 (.slice a n c) n (T.flat 2 T.encS L)) (hn : n ≤ 1000000) : T.Own2 W base a n c L :=
  ⟨Tab.of_row ho (by decide) hn, fun h => by
    obtain ⟨g, cap, cur, e, hb, hm, hc, hx, hz⟩ := row_open ho h
    injection e with e1 e2 e3
    exact ⟨g, cur, e1, hb, hm, by omega⟩⟩

end Go.Proofs.Ytlpkheoljbdajaa
