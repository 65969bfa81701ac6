import Derived.Test.YtcadpdbadgejfaaRfc
import Derived.Test.YtcadpdbadgejfaaLkL
/- An append to a slice of the call's own, as one operation of a fenced region: of looks in memory, also of none. -/
namespace Go.Proofs.Ytcadpdbadgejfaa
open Go.RowKit

theorem run_append_nothing {P : Program} {w : World} (base : Nat) (t ty e : TypeId) (i : TypeInfo) (size c : Nat) (ht : P.underlying t = some (.slice e)) (hi : P.info? e = some i)
    (v : Value) (n : Nat) (xs : List Value) (hown : w.ownsRow base e size v n xs) :
    (Builtin.append_ #[t, t] ty #[v, .slice none 0 c]).run P w = .ok v w := by
  rcases hown.2 with ⟨rfl, rfl⟩ | ⟨g, cap, cur, rfl, _, _, hnc, _⟩
  · simp [Builtin.append_, run_underlying ht, sizeOf, typeInfo, hi, Builtin.lenOf, Builtin.firstCells]
  · simp [Builtin.append_, run_underlying ht, sizeOf, typeInfo, hi, Builtin.lenOf, Builtin.firstCells, hnc, storeCells]
theorem opIn_append_run {F : Fence} {n : Nat} {P : Program} {w w' : World} {o : Oper} {a : Act} {K : Act → World → Prop} {Q : Exit → Act → World → Prop} (s x : Operand) (t : TypeId) (ho : o.op = .call { callee := .builtin .append, args := #[s, x], argTypes := #[t, t] })
    {v y v' : Value} (hs : a.eval s = v) (hx : a.eval x = y) (hr : (Builtin.append_ #[t, t] o.type #[v, y]).run P w = .ok v' w') (hK : K (a.put o.dst v') w') : Oper.wpIn F n P o a w K Q := by
  constructor
  · intro f hf
    simp [Oper.about, ho, resolve, Target.leads, Sem.run_pure] at hf
  · rw [Oper.semAt_plain F _ _ (fun c hc => by rw [ho] at hc; cases hc)]
    simp only [execOp, ho, resolve, invoke, builtin, Sem.run_bind, Sem.run_pure, Result.andThen_ok, List.map_toArray, List.map_cons, List.map_nil, hs, hx, hr]
    exact hK
theorem grown_refl (w : World) (row : Option Nat) : w.grownBy w row := ⟨rfl, rfl, rfl, Nat.le_refl _, fun _ _ _ => rfl⟩
theorem opIn_append_lks {F : Fence} {n : Nat} {w : World} {o : Oper} {a : Act} {K : Act → World → Prop} {Q : Exit → Act → World → Prop} (s x : Operand) (ho : o.op = .call { callee := .builtin .append, args := #[s, x], argTypes := #[42, 42] })
    {a' : Option Addr} {n' c' : Nat} {ls : List (Int × Int × Int)} (IA : Lks w (.slice a' n' c') ls) (hx : a.eval x = .slice a' n' c')
    (base : Nat) (v : Value) (k : Nat) (xs : List Value) (hs : a.eval s = v) (hown : w.ownsRow base 71 3 v k xs) (hk : k ≤ 1000) (hl : ls.length ≤ 1000) (hb : base ≤ w.heap.size)
    (h : ∀ v' w', w'.ownsRow base 71 3 v' (k + ls.length) (xs ++ S.flat ls) → w.grownBy w' v.ownBlock → K (a.put o.dst v') w') : Oper.wpIn F n Try.prog o a w K Q := by
  obtain ⟨i0, hi, hz0, hz1, hz2⟩ := info_parts infoLook
  have hU := Try.underlying42
  have hln := IA.len.1
  subst hln
  cases a' with
  | none =>
    have h0 : ls.length = 0 := by
      refine Decidable.byContradiction fun hn => ?_
      obtain ⟨a1, c1, e, _, _, hm⟩ := IA.is
      obtain ⟨g, off, rfl, _⟩ := hm (by omega)
      simp at e
    obtain rfl : ls = [] := List.length_eq_zero_iff.1 h0
    have hr := run_append_nothing (P := Try.prog) base 42 o.type 71 i0 3 c' hU hi v k xs hown
    have := h v w (by simpa [S.flat] using hown) (grown_refl w _)
    exact opIn_append_run s x 42 ho hs hx hr this
  | some ad =>
    have hn : ∀ j u, (S.flat ls)[j]? = some u → w.cell? (ad.add j) = some u := by
      intro j u hj
      obtain ⟨a1, c1, e, _, _, hm⟩ := id IA.is
      have hp : 0 < ls.length := by
        have := (List.getElem?_eq_some_iff.1 hj).1
        rw [S.flat_len] at this
        omega
      obtain ⟨g, off, rfl, _⟩ := hm hp
      simp only [Value.slice.injEq, Option.some.injEq] at e
      obtain ⟨rfl, _, _⟩ := e
      exact IA.flat j u hj
    obtain ⟨v', w', hr, h1, h2, _⟩ := run_append_own (P := Try.prog) w base 42 o.type 71 i0 (.agg #[.int .i64 0, .int .i64 0, .int .i64 0]) 3 24 hU hi hz0 hz1 hz2 rfl (by decide) v k xs hown ad ls.length c' (S.flat ls) (S.flat_len ls) hn (S.flat_one ls) (by unfold maxLen; omega) (by omega) hb
    exact opIn_append_run s x 42 ho hs hx hr (h v' w' h1 h2)
theorem opIn_append_look {F : Fence} {n : Nat} {w : World} {o : Oper} {a : Act} {K : Act → World → Prop} {Q : Exit → Act → World → Prop} (s x : Operand) (ho : o.op = .call { callee := .builtin .append, args := #[s, x], argTypes := #[42, 42] })
    (p : Nat) {t l hh : Int} (hp : mblk w p = some (.cells #[.int .i64 t, .int .i64 l, .int .i64 hh] 71 (0, 0))) (hx : a.eval x = .slice (some ⟨p, 0, none⟩) 1 1)
    (base : Nat) (v : Value) (k : Nat) (ls : List (Int × Int × Int)) (hs : a.eval s = v) (hown : w.ownsRow base 71 3 v k (S.flat ls)) (hk : k ≤ 1000) (hb : base ≤ w.heap.size)
    (h : ∀ v' w', w'.ownsRow base 71 3 v' (k + 1) (S.flat (ls ++ [(t, l, hh)])) → w.grownBy w' v.ownBlock → K (a.put o.dst v') w') : Oper.wpIn F n Try.prog o a w K Q := by
  have IA : Lks w (.slice (some ⟨p, 0, none⟩) 1 1) [(t, l, hh)] := ⟨_, 1, rfl, Nat.le_refl _, by simp, fun _ => ⟨p, 0, rfl, blk_lt hp, fun j hj => by
    obtain rfl : j = 0 := by simp at hj; omega
    exact ⟨cellB hp _, cellB hp _, cellB hp _⟩⟩⟩
  refine opIn_append_lks s x ho IA hx base v k (S.flat ls) hs hown hk (by simp) hb fun v' w' h1 h2 => h v' w' ?_ h2
  rw [S.flat_app]
  exact h1

end Go.Proofs.Ytcadpdbadgejfaa
