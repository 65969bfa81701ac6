import Derived.Test.YtlpkheoljbdajaaTel
import Derived.Test.YtlpkheoljbdajaaIdl
import Derived.Test.YtlpkheoljbdajaaFwL
/- When a book and one with looks left out tell the same of all things. -/
namespace Go.Proofs.Ytlpkheoljbdajaa
open Go.RowKit

section
variable {N : Nat} {bl bh rl rh : Int} {ps qs : List (Int × Int)} {ls : List T.T5} {o o' : Nat → Bool}
/-- more looks left out: fewer demands -/
theorem T.Tru.less {y : Int → Int} (h : T.Tru N bl bh rl rh ps qs ls o y) (hm : ∀ k, o' k = false → o k = false) : T.Tru N bl bh rl rh ps qs ls o' y :=
  ⟨h.beg, h.rat, h.per, h.pth, fun k hk ho => h.lok k hk (hm k ho)⟩
theorem T.SC.vals {cs : Array Value} {lo hi lo' hi' : Int → Int} (h : T.SC cs lo hi) (h' : T.SC cs lo' hi') {i : Int} (h1 : 0 ≤ i) (h2 : i ≤ 16) : lo i = lo' i ∧ hi i = hi' i := by
  obtain ⟨n, rfl⟩ := Int.eq_ofNat_of_zero_le h1
  have a := (h.lo_ n (by omega)).symm.trans (h'.lo_ n (by omega))
  have b := (h.hi_ n (by omega)).symm.trans (h'.hi_ n (by omega))
  injection a with a
  injection a with _ a
  injection b with b
  injection b with _ b
  exact ⟨a, b⟩
theorem T.same_tells (hv : T.valid N bl bh rl rh ps qs ls = true) (hx : ∃ y, T.Tru N bl bh rl rh ps qs ls o y) (hm : ∀ y, T.Tru N bl bh rl rh ps qs ls o y → T.Tru N bl bh rl rh ps qs ls o' y) :
    T.Same (T.web N bl bh rl rh ps qs ls o) (T.web N bl bh rl rh ps qs ls o') ↔ ∀ i, T.Alive N ps.length qs.length i → ∃ l h, -200000000 ≤ l ∧ T.Tells (T.Tru N bl bh rl rh ps qs ls o) 0 i l h 0 ∧ T.Tells (T.Tru N bl bh rl rh ps qs ls o') 0 i l h 0 := by
  have B := T.valid_bok hv
  have W := T.valid_web hv o
  have W' := T.valid_web hv o'
  obtain ⟨y, hy⟩ := hx
  have told : ∀ {o : Nat → Bool} {i l h : Int}, T.Told (T.web N bl bh rl rh ps qs ls o) 0 i l h → T.Tells (T.Tru N bl bh rl rh ps qs ls o) 0 i l h 0 := fun q => (T.tells_asked B).1 (.inl ⟨rfl, q⟩)
  have al0 : T.Alive N ps.length qs.length 0 := .inl rfl
  have get : ∀ {o : Nat → Bool} {cs : Array Value} {r : Bool}, (∃ y, T.Tru N bl bh rl rh ps qs ls o y) → T.FromIs (T.web N bl bh rl rh ps qs ls o) 0 cs r → ∃ lo hi, T.SC cs lo hi ∧ (∀ i, T.Alive N ps.length qs.length i → T.Tells (T.Tru N bl bh rl rh ps qs ls o) 0 i (lo i) (hi i) 0 ∧ -200000000 ≤ lo i) ∧ ∀ i, ¬ T.Alive N ps.length qs.length i → 0 ≤ i ∧ i ≤ 16 → lo i = -T.M ∧ hi i = T.M := fun {o cs r} hz hF => by
    rcases hF.told (T.valid_web hv o) al0 with ⟨_, lo, hi, q1, q2, q3⟩ | ⟨_, _, hno⟩
    · exact ⟨lo, hi, q1, fun i hi => ⟨told (q2 i hi).1, (q2 i hi).2.1⟩, q3⟩
    · obtain ⟨z, hz⟩ := hz
      exact absurd ((T.sat_tru B).2 hz) (hno z)
  constructor
  · intro hs i hi
    obtain ⟨cs, r, hF⟩ := T.from_ex W.tin W.len 0
    obtain ⟨cs', r', hF'⟩ := T.from_ex W'.tin W'.len 0
    have e := hs _ _ _ _ hF hF'
    subst e
    obtain ⟨lo, hi', q1, q2, _⟩ := get ⟨y, hy⟩ hF
    obtain ⟨lo', hi'', p1, p2, _⟩ := get ⟨y, hm y hy⟩ hF'
    have hb := W.ain i hi
    obtain ⟨e1, e2⟩ := q1.vals p1 hb.1 hb.2
    refine ⟨lo i, hi' i, (q2 i hi).2, (q2 i hi).1, ?_⟩
    rw [e1, e2]
    exact (p2 i hi).1
  · intro ha cs r cs' r' hF hF'
    obtain ⟨lo, hi, q1, q2, q3⟩ := get ⟨y, hy⟩ hF
    obtain ⟨lo', hi', p1, p2, p3⟩ := get ⟨y, hm y hy⟩ hF'
    have key : ∀ i : Int, 0 ≤ i → i ≤ 16 → lo i = lo' i ∧ hi i = hi' i := fun i h1 h2 => by
      by_cases hA : T.Alive N ps.length qs.length i
      · obtain ⟨l, h, _, t1, t2⟩ := ha i hA
        have u1 := (q2 i hA).1.uniq t1
        have u2 := (p2 i hA).1.uniq t2
        exact ⟨u1.1.trans u2.1.symm, u1.2.1.trans u2.2.1.symm⟩
      · rw [(q3 i hA ⟨h1, h2⟩).1, (q3 i hA ⟨h1, h2⟩).2, (p3 i hA ⟨h1, h2⟩).1, (p3 i hA ⟨h1, h2⟩).2]
        exact ⟨rfl, rfl⟩
    exact q1.uniq p1 (fun i h1 h2 => (key i h1 h2).1) (fun i h1 h2 => (key i h1 h2).2)
theorem T.same_of (hv : T.valid N bl bh rl rh ps qs ls = true) (hm : ∀ y, T.Tru N bl bh rl rh ps qs ls o y ↔ T.Tru N bl bh rl rh ps qs ls o' y) : T.Same (T.web N bl bh rl rh ps qs ls o) (T.web N bl bh rl rh ps qs ls o') := by
  by_cases hx : ∃ y, T.Tru N bl bh rl rh ps qs ls o y
  · refine (T.same_tells hv hx fun y hy => (hm y).1 hy).2 fun i hi => ?_
    obtain ⟨l, h, e, t, b, _⟩ := T.Tells.ex (o := o) hv T.al_0 hi
    obtain ⟨y, hy⟩ := hx
    obtain rfl := t.has hy
    exact ⟨l, h, b, t, t.congr hm⟩
  · intro cs r cs' r' hF hF'
    have al0 : T.Alive N ps.length qs.length 0 := .inl rfl
    have B := T.valid_bok hv
    have no : ∀ {o : Nat → Bool} {cs : Array Value} {r : Bool}, (¬ ∃ y, T.Tru N bl bh rl rh ps qs ls o y) → T.FromIs (T.web N bl bh rl rh ps qs ls o) 0 cs r → cs = SZ := fun {o cs r} hn hF => by
      rcases hF.told (T.valid_web hv o) al0 with ⟨_, lo, hi, _, q2, _⟩ | ⟨_, e, _⟩
      · obtain ⟨⟨_, ⟨z, hz, _⟩, _⟩, _⟩ := q2 0 al0
        exact absurd ⟨z, (T.sat_tru B).1 hz⟩ hn
      · exact e
    rw [no hx hF, no (fun ⟨y, hy⟩ => hx ⟨y, (hm y).2 hy⟩) hF']
end

end Go.Proofs.Ytlpkheoljbdajaa
