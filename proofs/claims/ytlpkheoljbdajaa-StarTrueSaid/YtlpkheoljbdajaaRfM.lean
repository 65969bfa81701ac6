import Derived.Test.YtlpkheoljbdajaaHeQ
import Derived.Test.YtlpkheoljbdajaaNum
import Derived.Test.YtlpkheoljbdajaaCst
import Derived.Test.YtlpkheoljbdajaaSou
import Derived.Test.YtlpkheoljbdajaaHst
import Derived.Laws.MakeOwn
/- Short names for the steps of drawn regions. -/
namespace Go.Proofs.Ytlpkheoljbdajaa
open Go.RowKit

theorem T.pa {α : Type} {l : List α} {i : Nat} {a : α} : l.toArray.setIfInBounds i a = (l.set i a).toArray := List.setIfInBounds_toArray ..
theorem T.pb {α : Type} {x a : α} {l : List α} : (x :: l).set 0 a = a :: l := rfl
theorem T.pc {α : Type} {x a : α} {l : List α} {n : Nat} : (x :: l).set (n + 1) a = x :: l.set n a := rfl
section
variable {F : Fence} {n : Nat} {P : Program} {ops : Array Oper} {Q : Exit → Act → World → Prop} {md : Region.Mode} {S : World → Prop}
theorem T.gT {oi : Oper} {fuel m : Nat} {listed : Array Bool} {a : Act} {w : World} (i : Nat) (d : Option Tmp) (v : Value) (hi : ops[i]? = some oi) (hd : oi.dst = d) (hcl : Closed md ops listed) (hS : S w) (hy : ∀ w, S w → (execOp a.eval oi).run P w = .ok (.value v) w)
    (h : Closed md ops (listed.setIfInBounds i true) → wpAnyG F n P md ops Q S m fuel (listed.setIfInBounds i true) (a.put d v) w)
    (hn : noDefer ops = true := by kernel_rfl) (hm : late md ops m = true := by kernel_rfl) (him : i < m := by decide)
    (hs : Region.noSelect ops = true := by kernel_rfl) (hf : Region.free md ops listed i = true := by kernel_rfl) (hr : (Region.ready md ops listed).contains i = true := by kernel_rfl)
    (hQ : ∀ c a w, Q (.panic c) (a.put oi.dst v) w → Q (.panic c) a w := by exact fun _ _ _ h => h) (hw : Region.wanted oi (yielded ops a.tmps) = true := by rfl) (ha : ∀ w f, oi.about P w a.eval = some f → F.fn f := by exact fun _ _ _ => trivial) :
    wpAnyG F n P md ops Q S m (fuel + 1) listed a w := takeG hi hd hn hm him hcl hs hf hr hQ hw hy ha hS h
theorem T.gS {oi : Oper} {fuel m : Nat} {listed : Array Bool} {a : Act} {w : World} (i : Nat) (d : Option Tmp) (hi : ops[i]? = some oi) (hd : oi.dst = d) (hcl : Closed md ops listed) (hS : S w)
    (h : Closed md ops (listed.setIfInBounds i true) → wpAnyG F n P md ops Q S m fuel (listed.setIfInBounds i true) (a.put d undef) w)
    (hn : noDefer ops = true := by kernel_rfl) (hm : late md ops m = true := by kernel_rfl) (him : i < m := by decide)
    (hs : Region.noSelect ops = true := by kernel_rfl) (hf : Region.free md ops listed i = true := by kernel_rfl) (hr : (Region.ready md ops listed).contains i = true := by kernel_rfl)
    (hQ : ∀ c a w, Q (.panic c) (a.put oi.dst undef) w → Q (.panic c) a w := by exact fun _ _ _ h => h) (hw : Region.wanted oi (yielded ops a.tmps) = false := by rfl) (ha : ∀ w f, oi.about P w a.eval = some f → F.fn f := by exact fun _ _ _ => trivial) :
    wpAnyG F n P md ops Q S m (fuel + 1) listed a w := skipG hi hd hn hm him hcl hs hf hr hQ hw ha hS h
end

end Go.Proofs.Ytlpkheoljbdajaa

/- Floyd and Warshall, in place, where not all is told: at most by how much each number can be above each other one. -/
namespace Go.Proofs.Ytlpkheoljbdajaa

abbrev T.Mt := Nat → Nat → Int
def T.mup (M : T.Mt) (a b : Nat) (v : Int) : T.Mt := fun x y => if x = a ∧ y = b then v else M x y
theorem T.mup_at (M : T.Mt) (a b : Nat) (v : Int) : T.mup M a b v a b = v := if_pos ⟨rfl, rfl⟩
theorem T.mup_ne (M : T.Mt) {a b x y : Nat} (v : Int) (h : ¬ (x = a ∧ y = b)) : T.mup M a b v x y = M x y := if_neg h
/-- numbers that keep to all of a matrix -/
def T.MF (n : Nat) (M : T.Mt) (y : Nat → Int) : Prop := ∀ a b, a < n → b < n → y b - y a ≤ M a b
theorem T.MF.mup {n : Nat} {M : T.Mt} {y : Nat → Int} {a b : Nat} {v : Int} (ha : a < n) (hb : b < n) (hv : v ≤ M a b) : T.MF n (T.mup M a b v) y ↔ T.MF n M y ∧ y b - y a ≤ v := by
  constructor
  · intro h
    have h0 := h a b ha hb
    rw [T.mup_at] at h0
    refine ⟨fun p q hp hq => ?_, h0⟩
    by_cases e : p = a ∧ q = b
    · obtain ⟨rfl, rfl⟩ := e
      omega
    · have := h p q hp hq
      rwa [T.mup_ne _ _ e] at this
  · intro ⟨h, h0⟩ p q hp hq
    by_cases e : p = a ∧ q = b
    · obtain ⟨rfl, rfl⟩ := e
      rw [T.mup_at]
      exact h0
    · rw [T.mup_ne _ _ e]
      exact h p q hp hq
def T.lo2 (q : Nat) : Int := -(32000 * 2 ^ q)
def T.up2 (q : Nat) : Int := if q ≤ 9 then 32000 * 2 ^ q else 16384000
theorem T.lo2_all : ∀ q : Nat, q ≤ 17 → T.lo2 (q + 1) = 2 * T.lo2 q ∧ -4400000000 ≤ T.lo2 q ∧ T.lo2 q ≤ -32000 := by decide
theorem T.up2_all : ∀ q : Nat, q ≤ 17 → (q < 9 → T.up2 (q + 1) = 2 * T.up2 q) ∧ 32000 ≤ T.up2 q ∧ T.up2 q ≤ 16384000 ∧ (9 ≤ q → T.up2 (q + 1) = 16384000) := by decide
/-- what is told of each two: the things all hang together -/
structure T.Con (n N : Nat) (E : Nat → Nat → Prop) : Prop where
  n1 : 1 ≤ N
  n8 : N ≤ 8
  le : N + 1 ≤ n
  n17 : n ≤ 17
  one : E 0 1 ∧ E 1 0
  nxt : ∀ k, 1 ≤ k → k + 1 ≤ N → E k (k + 1) ∧ E (k + 1) k
  oth : ∀ a, N < a → a < n → E a 0 ∧ E 0 a
/-- a matrix as it is before the places from q on are gone over -/
structure T.Cln (n q : Nat) (E : Nat → Nat → Prop) (M : T.Mt) : Prop where
  dg : ∀ a, a < n → 0 ≤ M a a
  dz : ∀ a, a < n → M a a ≤ 0
  hi : ∀ a b, a < n → b < n → M a b ≤ 1073741824
  lo : ∀ a b, a < n → b < n → T.lo2 q ≤ M a b
  fi : ∀ a b, a < n → b < n → M a b < 1073741824 → M a b ≤ T.up2 q
  ed : ∀ a b, a < n → b < n → E a b → M a b ≤ 32000
  tri : ∀ p, p < q → ∀ a b, a < n → b < n → M a p < 1073741824 → M p b < 1073741824 → M a b ≤ M a p + M p b
section
variable {n N q : Nat} {E : Nat → Nat → Prop} {M : T.Mt}
/-- behind the nights each two things are tied -/
theorem T.Cln.conn (h : T.Cln n q E M) (c : T.Con n N E) (hq : N + 1 ≤ q) : ∀ a b, a < n → b < n → M a b ≤ 600000 := by
  have n8 := c.n8
  have le := c.le
  have h0 : ∀ k, k < N → M 0 (k + 1) ≤ 32000 * (k + 1) ∧ M (k + 1) 0 ≤ 32000 * (k + 1) := by
    intro k
    induction k with
    | zero => exact fun hk => ⟨by have := h.ed 0 1 (by omega) (by omega) c.one.1; show M 0 1 ≤ _; omega, by have := h.ed 1 0 (by omega) (by omega) c.one.2; show M 1 0 ≤ _; omega⟩
    | succ k ih =>
      intro hk
      obtain ⟨i1, i2⟩ := ih (by omega)
      obtain ⟨e1, e2⟩ := c.nxt (k + 1) (by omega) (by omega)
      have d1 := h.ed (k + 1) (k + 1 + 1) (by omega) (by omega) e1
      have d2 := h.ed (k + 1 + 1) (k + 1) (by omega) (by omega) e2
      have t1 := h.tri (k + 1) (by omega) 0 (k + 1 + 1) (by omega) (by omega) (by omega) (by omega)
      have t2 := h.tri (k + 1) (by omega) (k + 1 + 1) 0 (by omega) (by omega) (by omega) (by omega)
      omega
  have hA : ∀ a, a < n → M 0 a ≤ 300000 ∧ M a 0 ≤ 300000 := fun a ha => by
    by_cases ez : a = 0
    · subst ez
      have := h.dz 0 ha
      omega
    · by_cases en : N < a
      · obtain ⟨e1, e2⟩ := c.oth a en ha
        have d1 := h.ed a 0 ha (by omega) e1
        have d2 := h.ed 0 a (by omega) ha e2
        omega
      · obtain ⟨k, rfl⟩ : ∃ k, a = k + 1 := ⟨a - 1, by omega⟩
        have := h0 k (by omega)
        omega
  intro a b ha hb
  have a1 := hA a ha
  have b1 := hA b hb
  have := h.tri 0 (by omega) a b ha hb (by omega) (by omega)
  omega
end
/-- in the midst of going over a place -/
def T.Mid (n q a b : Nat) (M0 M : T.Mt) : Prop := ∀ x y, x < n → y < n → M x y = if (x < a ∨ (x = a ∧ y < b)) ∧ M0 x q < 1073741824 ∧ M0 q y < 1073741824 then Min.min (M0 x y) (M0 x q + M0 q y) else M0 x y
def T.Neg (n : Nat) (F : (Nat → Int) → Prop) (M : T.Mt) : Prop := (∃ x, x < n ∧ M x x < 0) ∧ ∀ y, ¬ F y
def T.St (n : Nat) (E : Nat → Nat → Prop) (F : (Nat → Int) → Prop) (q : Nat) (M : T.Mt) : Prop := T.Neg n F M ∨ (T.Cln n q E M ∧ ∀ y, F y ↔ T.MF n M y)
def T.SM (n : Nat) (E : Nat → Nat → Prop) (F : (Nat → Int) → Prop) (q a b : Nat) (M : T.Mt) : Prop := T.Neg n F M ∨ ∃ M0, T.Cln n q E M0 ∧ (∀ y, F y ↔ T.MF n M0 y) ∧ T.Mid n q a b M0 M
section
variable {n N q : Nat} {E : Nat → Nat → Prop} {F : (Nat → Int) → Prop} {M : T.Mt}
theorem T.St.start (h : T.St n E F q M) : T.SM n E F q 0 0 M := by
  rcases h with h | ⟨h1, h2⟩
  · exact .inl h
  · exact .inr ⟨M, h1, h2, fun x y _ _ => (if_neg (by omega)).symm⟩
theorem T.SM.row {a : Nat} (h : T.SM n E F q a n M) : T.SM n E F q (a + 1) 0 M := by
  rcases h with h | ⟨M0, h1, h2, h3⟩
  · exact .inl h
  · refine .inr ⟨M0, h1, h2, fun x y hx hy => ?_⟩
    rw [h3 x y hx hy]
    by_cases e : (x < a ∨ (x = a ∧ y < n)) ∧ M0 x q < 1073741824 ∧ M0 q y < 1073741824
    · rw [if_pos e, if_pos ⟨by omega, e.2⟩]
    · rw [if_neg e, if_neg (by omega)]
/-- the row and the column of the place itself stay -/
theorem T.Mid.self {a b : Nat} {M0 : T.Mt} (h1 : T.Cln n q E M0) (h3 : T.Mid n q a b M0 M) (hq : q < n) : (∀ x, x < n → M x q = M0 x q) ∧ ∀ y, y < n → M q y = M0 q y := by
  have dq := h1.dg q hq
  have zq := h1.dz q hq
  refine ⟨fun x hx => ?_, fun y hy => ?_⟩
  · rw [h3 x q hx hq]
    split
    · omega
    · rfl
  · rw [h3 q y hq hy]
    split
    · omega
    · rfl
/-- what the place says nothing of -/
theorem T.SM.stop {a b : Nat} (hq : q < n) (ha : a < n) (h : T.SM n E F q a b M) (hs : ¬ M a q < 1073741824) : T.SM n E F q (a + 1) 0 M := by
  rcases h with h | ⟨M0, h1, h2, h3⟩
  · exact .inl h
  · have e2 := (h3.self h1 hq).1 a ha
    refine .inr ⟨M0, h1, h2, fun x y hx hy => ?_⟩
    rw [h3 x y hx hy]
    by_cases c : x = a
    · subst c
      rw [if_neg (by omega), if_neg (by omega)]
    · by_cases e : (x < a ∨ (x = a ∧ y < b)) ∧ M0 x q < 1073741824 ∧ M0 q y < 1073741824
      · rw [if_pos e, if_pos ⟨by omega, e.2⟩]
      · rw [if_neg e, if_neg (by omega)]
theorem T.SM.skip {a b : Nat} (hq : q < n) (hb : b < n) (h : T.SM n E F q a b M) (hs : ¬ M q b < 1073741824) : T.SM n E F q a (b + 1) M := by
  rcases h with h | ⟨M0, h1, h2, h3⟩
  · exact .inl h
  · have e2 := (h3.self h1 hq).2 b hb
    refine .inr ⟨M0, h1, h2, fun x y hx hy => ?_⟩
    rw [h3 x y hx hy]
    by_cases c : y = b
    · subst c
      rw [if_neg (by omega), if_neg (by omega)]
    · by_cases e : (x < a ∨ (x = a ∧ y < b)) ∧ M0 x q < 1073741824 ∧ M0 q y < 1073741824
      · rw [if_pos e, if_pos ⟨by omega, e.2⟩]
      · rw [if_neg e, if_neg (by omega)]
theorem T.SM.step {a b : Nat} (hq : q < n) (hq17 : q ≤ 17) (ha : a < n) (hb : b < n) (h : T.SM n E F q a b M) (c1 : M a q < 1073741824) (c2 : M q b < 1073741824) {s : Int} (hs : D.in64 (M a q + M q b) → s = M a q + M q b) : T.SM n E F q a (b + 1) (T.mup M a b (Min.min (M a b) s)) := by
  rcases h with ⟨⟨x, hx, h1⟩, h2⟩ | ⟨M0, h1, h2, h3⟩
  · refine .inl ⟨⟨x, hx, ?_⟩, h2⟩
    unfold T.mup
    split
    · rename_i e
      obtain ⟨rfl, e2⟩ := e
      rw [← e2]
      omega
    · exact h1
  · have e1 : M a b = M0 a b := by rw [h3 a b ha hb, if_neg (by omega)]
    have e2 := (h3.self h1 hq).1 a ha
    have e3 := (h3.self h1 hq).2 b hb
    have b1 := h1.hi a q ha hq
    have b2 := h1.hi q b hq hb
    have b3 := h1.lo a q ha hq
    have b4 := h1.lo q b hq hb
    have l2 := T.lo2_all q hq17
    have es : s = M0 a q + M0 q b := by rw [hs (by rw [e2, e3]; unfold D.in64; omega), e2, e3]
    subst es
    refine .inr ⟨M0, h1, h2, fun x y hx hy => ?_⟩
    by_cases e : x = a ∧ y = b
    · obtain ⟨rfl, rfl⟩ := e
      rw [T.mup_at, if_pos ⟨by omega, by omega, by omega⟩, e1]
    · rw [T.mup_ne _ _ e, h3 x y hx hy]
      by_cases c : (x < a ∨ (x = a ∧ y < b)) ∧ M0 x q < 1073741824 ∧ M0 q y < 1073741824
      · rw [if_pos c, if_pos ⟨by omega, c.2⟩]
      · rw [if_neg c, if_neg (by omega)]
theorem T.SM.done (C : T.Con n N E) (hq : q < n) (h : T.SM n E F q n 0 M) : T.St n E F (q + 1) M := by
  rcases h with h | ⟨M0, h1, h2, h3⟩
  · exact .inl h
  · have hq17 : q ≤ 17 := by have := C.n17; omega
    have n8 := C.n8
    have l2 := T.lo2_all q hq17
    have u2 := T.up2_all q hq17
    have e : ∀ x y, x < n → y < n → (M0 x q < 1073741824 ∧ M0 q y < 1073741824 ∧ M x y = Min.min (M0 x y) (M0 x q + M0 q y)) ∨ ((1073741824 ≤ M0 x q ∨ 1073741824 ≤ M0 q y) ∧ M x y = M0 x y) := fun x y hx hy => by
      have a := h3 x y hx hy
      by_cases c : M0 x q < 1073741824 ∧ M0 q y < 1073741824
      · rw [if_pos ⟨.inl hx, c⟩] at a
        exact .inl ⟨c.1, c.2, a⟩
      · rw [if_neg (by omega)] at a
        exact .inr ⟨by omega, a⟩
    have le : ∀ x y, x < n → y < n → M x y ≤ M0 x y := fun x y hx hy => by have := e x y hx hy; omega
    have fe : ∀ y, F y ↔ T.MF n M y := fun y => by
      rw [h2]
      constructor
      · intro f a b ha hb
        have f1 := f a b ha hb
        have f2 := f a q ha hq
        have f3 := f q b hq hb
        have := e a b ha hb
        omega
      · intro f a b ha hb
        have f1 := f a b ha hb
        have := le a b ha hb
        omega
    by_cases c : ∃ x, x < n ∧ M x x < 0
    · refine .inl ⟨c, fun y hy => ?_⟩
      obtain ⟨x, hx, h⟩ := c
      have := (fe y).1 hy x x hx hx
      omega
    · have dg : ∀ a, a < n → 0 ≤ M a a := fun a ha => by
        by_cases c' : 0 ≤ M a a
        · exact c'
        · exact absurd ⟨a, ha, by omega⟩ c
      have dq := h1.dg q hq
      have zq := h1.dz q hq
      refine .inr ⟨⟨dg, fun a ha => by have := h1.dz a ha; have := le a a ha ha; omega, fun a b ha hb => by have := h1.hi a b ha hb; have := le a b ha hb; omega, fun a b ha hb => ?_, fun a b ha hb hf => ?_, fun a b ha hb he => by have := h1.ed a b ha hb he; have := le a b ha hb; omega, fun p hp a b ha hb f1 f2 => ?_⟩, fe⟩
      · have a1 := h1.lo a b ha hb
        have a2 := h1.lo a q ha hq
        have a3 := h1.lo q b hq hb
        have := e a b ha hb
        omega
      · by_cases c9 : 9 ≤ q
        · have := h1.conn C (by omega) a b ha hb
          have := le a b ha hb
          have := u2.2.2.2 c9
          omega
        · have a1 := h1.fi a b ha hb
          have a2 := h1.fi a q ha hq
          have a3 := h1.fi q b hq hb
          have u3 := u2.1 (by omega)
          rcases e a b ha hb with ⟨g1, g2, g3⟩ | ⟨_, g3⟩
          · have := a2 g1
            have := a3 g2
            omega
          · have := a1 (by omega)
            omega
      · by_cases hpq : p = q
        · subst hpq
          have g1 := e a b ha hb
          have g2 := e a p ha hq
          have g3 := e p b hq hb
          omega
        · have hp' : p < q := by omega
          have hpn : p < n := by omega
          have t1 := h1.tri p hp' a b ha hb
          have t2 := h1.tri p hp' q b hq hb
          have t3 := h1.tri p hp' a q ha hq
          have t4 := h1.tri p hp' q q hq hq
          have k1 := h1.fi a p ha hpn
          have k2 := h1.fi p b hpn hb
          have k3 := h1.fi q p hq hpn
          have k4 := h1.fi p q hpn hq
          have k5 := h1.fi a q ha hq
          have k6 := h1.fi q b hq hb
          have g0 := e a b ha hb
          rcases e a p ha hpn with ⟨x1, x2, x3⟩ | ⟨x1, x3⟩ <;> rcases e p b hpn hb with ⟨y1, y2, y3⟩ | ⟨y1, y3⟩
          · by_cases m1 : M0 a p ≤ M0 a q + M0 q p
            · have z1 := t1 (by omega)
              by_cases m2 : M0 p b ≤ M0 p q + M0 q b
              · have := z1 (by omega)
                have := le a b ha hb
                omega
              · have := t3 (by omega) (by omega)
                omega
            · by_cases m2 : M0 p b ≤ M0 p q + M0 q b
              · have := t2 (by omega) (by omega)
                omega
              · have := t4 (by omega) (by omega)
                omega
          · by_cases m1 : M0 a p ≤ M0 a q + M0 q p
            · have := t1 (by omega) (by omega)
              have := le a b ha hb
              omega
            · have := t2 (by omega) (by omega)
              have := k3 (by omega)
              have := k2 (by omega)
              omega
          · by_cases m2 : M0 p b ≤ M0 p q + M0 q b
            · have := t1 (by omega) (by omega)
              have := le a b ha hb
              omega
            · have := t3 (by omega) (by omega)
              have := k1 (by omega)
              have := k4 (by omega)
              omega
          · have := t1 (by omega) (by omega)
            have := le a b ha hb
            omega
/-- at the end: the most that one can be above another one, which is so -/
theorem T.St.done (C : T.Con n N E) (h : T.St n E F n M) (hd : ∀ x, x < n → 0 ≤ M x x) : ∀ a b, a < n → b < n → (-600000 ≤ M a b ∧ M a b ≤ 600000) ∧ (∀ y, F y → y b - y a ≤ M a b) ∧ ∃ y, F y ∧ y b - y a = M a b := by
  rcases h with ⟨⟨x, hx, h1⟩, _⟩ | ⟨h1, h2⟩
  · have := hd x hx
    omega
  · have cn := h1.conn C C.le
    intro a b ha hb
    have c1 := cn a b ha hb
    have c2 := cn b a hb ha
    have t0 := h1.tri b hb a a ha ha (by omega) (by omega)
    have d0 := h1.dg a ha
    refine ⟨⟨by omega, c1⟩, fun y hy => (h2 y).1 hy a b ha hb, ?_⟩
    have ym : T.MF n M (fun x => M a x) := fun p q hp hq => by
      have k1 := cn a p ha hp
      have k2 := cn p q hp hq
      have := h1.tri p hp a q ha hq (by omega) (by omega)
      show M a q - M a p ≤ M p q
      omega
    have d' := h1.dz a ha
    exact ⟨_, (h2 _).2 ym, by show M a b - M a a = M a b; omega⟩
/-- or there is none -/
theorem T.St.none (h : T.St n E F n M) {x : Nat} (hx : x < n) (hd : M x x < 0) : ∀ y, ¬ F y := by
  rcases h with ⟨_, h⟩ | ⟨h1, _⟩
  · exact h
  · have := h1.dg x hx
    omega
end

end Go.Proofs.Ytlpkheoljbdajaa

/- What the reference says of each two things of a book, and what follows from it. -/
namespace Go.Proofs.Ytlpkheoljbdajaa
open Go.RowKit

structure T.Ini (n : Nat) (E : Nat → Nat → Prop) (M : T.Mt) (C : (Nat → Int) → Prop) : Prop where
  dg : ∀ a, a < n → M a a = 0
  hi : ∀ a b, a < n → b < n → M a b ≤ 1073741824
  lo : ∀ a b, a < n → b < n → -32000 ≤ M a b
  fi : ∀ a b, a < n → b < n → M a b < 1073741824 → M a b ≤ 32000
  ed : ∀ a b, a < n → b < n → E a b → M a b ≤ 32000
  is : ∀ y, T.MF n M y ↔ (∀ a b, a < n → b < n → y b - y a ≤ 1073741824) ∧ C y
def T.mt0 : T.Mt := fun x y => if x = y then 0 else 1073741824
/-- the second lies above the first by what lies in a span -/
def T.sayM (M : T.Mt) (a b : Nat) (l h : Int) : T.Mt := T.mup (T.mup M a b (Min.min (M a b) h)) b a (Min.min (M b a) (-l))
section
variable {n : Nat} {E E' : Nat → Nat → Prop} {M : T.Mt} {C C' : (Nat → Int) → Prop}
theorem T.Ini.zero : T.Ini n (fun _ _ => False) T.mt0 (fun _ => True) where
  dg a _ := if_pos rfl
  hi a b _ _ := by unfold T.mt0; split <;> omega
  lo a b _ _ := by unfold T.mt0; split <;> omega
  fi a b _ _ := by unfold T.mt0; split <;> omega
  ed _ _ _ _ h := h.elim
  is y := by
    constructor
    · intro h
      refine ⟨fun a b ha hb => ?_, trivial⟩
      have := h a b ha hb
      unfold T.mt0 at this
      split at this <;> omega
    · intro h a b ha hb
      have := h.1 a b ha hb
      unfold T.mt0
      split
      · rename_i e
        subst e
        omega
      · exact this
theorem T.Ini.congr (h : T.Ini n E M C) (hE : ∀ a b, E' a b → E a b) (e : ∀ y, C y ↔ C' y) : T.Ini n E' M C' := ⟨h.dg, h.hi, h.lo, h.fi, fun a b ha hb q => h.ed a b ha hb (hE a b q), fun y => by rw [h.is, e]⟩
theorem T.Ini.min (h : T.Ini n E M C) {a b : Nat} (ha : a < n) (hb : b < n) (hab : a ≠ b) {v : Int} (hv : -32000 ≤ v) (hv' : v ≤ 32000) : T.Ini n (fun x y => E x y ∨ (x = a ∧ y = b)) (T.mup M a b (Min.min (M a b) v)) (fun y => C y ∧ y b - y a ≤ v) where
  dg c hc := by rw [T.mup_ne _ _ (fun e => hab (e.1.symm.trans e.2))]; exact h.dg c hc
  hi c d hc hd := by
    have := h.hi c d hc hd
    unfold T.mup
    split
    · rename_i e
      obtain ⟨rfl, rfl⟩ := e
      omega
    · exact this
  lo c d hc hd := by
    have := h.lo c d hc hd
    unfold T.mup
    split
    · rename_i e
      obtain ⟨rfl, rfl⟩ := e
      omega
    · exact this
  fi c d hc hd := by
    have := h.fi c d hc hd
    unfold T.mup
    split
    · rename_i e
      obtain ⟨rfl, rfl⟩ := e
      omega
    · exact this
  ed c d hc hd q := by
    unfold T.mup
    split
    · omega
    · rename_i e
      rcases q with q | q
      · exact h.ed c d hc hd q
      · exact absurd q e
  is y := by
    rw [T.MF.mup ha hb (by omega), h.is]
    constructor
    · intro ⟨⟨p, q⟩, r⟩
      exact ⟨p, q, by omega⟩
    · intro ⟨p, q, r⟩
      have := (h.is y).2 ⟨p, q⟩ a b ha hb
      exact ⟨⟨p, q⟩, by omega⟩
theorem T.Ini.say (h : T.Ini n E M C) {a b : Nat} (ha : a < n) (hb : b < n) (hab : a ≠ b) {l u : Int} (hl : -32000 ≤ l ∧ l ≤ 32000) (hu : -32000 ≤ u ∧ u ≤ 32000) (hE : ∀ x y, E' x y → E x y ∨ (x = a ∧ y = b) ∨ (x = b ∧ y = a)) (e : ∀ y, C y ∧ l ≤ y b - y a ∧ y b - y a ≤ u ↔ C' y) : T.Ini n E' (T.sayM M a b l u) C' := by
  have a1 := h.min ha hb hab (v := u) hu.1 hu.2
  have a2 := a1.min hb ha (fun q => hab q.symm) (v := -l) (by omega) (by omega)
  rw [T.mup_ne _ _ (fun q => hab q.2)] at a2
  refine a2.congr (fun x y q => ?_) (fun y => ?_)
  · rcases hE x y q with q | q | q
    · exact .inl (.inl q)
    · exact .inl (.inr q)
    · exact .inr q
  · rw [← e]
    constructor
    · intro ⟨⟨p, q⟩, r⟩
      exact ⟨p, by omega, q⟩
    · intro ⟨p, q, r⟩
      exact ⟨⟨p, r⟩, by omega⟩
theorem T.Ini.st (h : T.Ini n E M C) : T.St n E (fun y => (∀ a b, a < n → b < n → y b - y a ≤ 1073741824) ∧ C y) 0 M :=
  .inr ⟨⟨fun a ha => by rw [h.dg a ha]; omega, fun a ha => by rw [h.dg a ha]; omega, h.hi, fun a b ha hb => h.lo a b ha hb, fun a b ha hb => h.fi a b ha hb, h.ed, fun p hp => absurd hp (Nat.not_lt_zero p)⟩, fun y => (h.is y).symm⟩
end
/-- which thing has a number, and back -/
def T.th (N np a : Nat) : Int := if a ≤ N then a else if a < 1 + N + np then 9 + ((a - 1 - N : Nat) : Int) else 13 + ((a - 1 - N - np : Nat) : Int)
def T.rx (N np : Nat) (i : Int) : Nat := if i < 9 then i.toNat else if i < 13 then 1 + N + (i - 9).toNat else 1 + N + np + (i - 13).toNat
/-- the thing that a look is read against -/
def T.rfr (N np : Nat) (x : T.T5) : Nat := if x.2.1 = 1 then 1 + N + np + x.2.2.1.toNat else 1 + N + x.2.2.1.toNat
/-- what is tied so far: so many nights, so many other things -/
def T.rE (N i j : Nat) (a b : Nat) : Prop := (a = 0 ∧ b = 1) ∨ (a = 1 ∧ b = 0) ∨ (1 ≤ a ∧ a + 1 ≤ i ∧ b = a + 1) ∨ (1 ≤ b ∧ b + 1 ≤ i ∧ a = b + 1) ∨ (b = 0 ∧ N < a ∧ a < 1 + N + j) ∨ (a = 0 ∧ N < b ∧ b < 1 + N + j)
/-- what is said so far -/
def T.rC (N np : Nat) (bl bh rl rh : Int) (ps qs : List (Int × Int)) (ls : List T.T5) (z : Nat) (i j k m : Nat) (y : Nat → Int) : Prop :=
  ((bl ≤ y 1 - y 0 ∧ y 1 - y 0 ≤ bh) ∧ (∀ t, t + 1 < i → rl ≤ y (t + 2) - y (t + 1) ∧ y (t + 2) - y (t + 1) ≤ rh)) ∧ (∀ t, t < j → (ps.getD t (0, 0)).1 ≤ y 0 - y (1 + N + t) ∧ y 0 - y (1 + N + t) ≤ (ps.getD t (0, 0)).2) ∧ (∀ t, t < k → (qs.getD t (0, 0)).1 ≤ y (1 + N + np + t) - y 0 ∧ y (1 + N + np + t) - y 0 ≤ (qs.getD t (0, 0)).2) ∧
    ∀ t, t < m → z.testBit t = false → (ls.getD t (0, 0, 0, 0, 0)).2.2.2.1 - (ls.getD t (0, 0, 0, 0, 0)).2.2.2.2 ≤ y (1 + (ls.getD t (0, 0, 0, 0, 0)).1.toNat) - y (T.rfr N np (ls.getD t (0, 0, 0, 0, 0))) ∧ y (1 + (ls.getD t (0, 0, 0, 0, 0)).1.toNat) - y (T.rfr N np (ls.getD t (0, 0, 0, 0, 0))) ≤ (ls.getD t (0, 0, 0, 0, 0)).2.2.2.1 + (ls.getD t (0, 0, 0, 0, 0)).2.2.2.2
section
variable {N np nq : Nat}
theorem T.th_n {a : Nat} (h : a ≤ N) : T.th N np a = a := if_pos h
theorem T.th_p {k : Nat} (h : k < np) : T.th N np (1 + N + k) = 9 + (k : Int) := by
  unfold T.th
  rw [if_neg (by omega), if_pos (by omega), show 1 + N + k - 1 - N = k by omega]
theorem T.th_q {k : Nat} : T.th N np (1 + N + np + k) = 13 + (k : Int) := by
  unfold T.th
  rw [if_neg (by omega), if_neg (by omega), show 1 + N + np + k - 1 - N - np = k by omega]
theorem T.rx_n {k : Nat} (h : k ≤ 8) : T.rx N np (k : Int) = k := by
  unfold T.rx
  rw [if_pos (by omega)]
  rfl
theorem T.rx_1 {k : Nat} (h : k < 8) : T.rx N np (1 + (k : Int)) = k + 1 := by
  unfold T.rx
  rw [if_pos (by omega)]
  omega
theorem T.rx_p {k : Nat} (h : k < 4) : T.rx N np (9 + (k : Int)) = 1 + N + k := by
  unfold T.rx
  rw [if_neg (by omega), if_pos (by omega)]
  omega
theorem T.rx_q {k : Nat} : T.rx N np (13 + (k : Int)) = 1 + N + np + k := by
  unfold T.rx
  rw [if_neg (by omega), if_neg (by omega)]
  omega
theorem T.th_rx {i : Int} (h8 : N ≤ 8) (p4 : np ≤ 4) (hi : T.Alive N np nq i) : T.th N np (T.rx N np i) = i ∧ T.rx N np i < 1 + N + np + nq := by
  rcases hi with rfl | ⟨h1, h2⟩ | ⟨h1, h2⟩ | ⟨h1, h2⟩
  · exact ⟨T.th_n (by show (0 : Nat) ≤ N; omega), by show 0 < _; omega⟩
  · obtain ⟨k, rfl⟩ := Int.eq_ofNat_of_zero_le (show 0 ≤ i by omega)
    rw [T.rx_n (by omega)]
    exact ⟨T.th_n (by omega), by omega⟩
  · obtain ⟨k, rfl⟩ : ∃ k : Nat, i = 9 + k := ⟨(i - 9).toNat, by omega⟩
    rw [T.rx_p (by omega)]
    exact ⟨T.th_p (by omega), by omega⟩
  · obtain ⟨k, rfl⟩ : ∃ k : Nat, i = 13 + k := ⟨(i - 13).toNat, by omega⟩
    rw [T.rx_q]
    exact ⟨T.th_q, by omega⟩
theorem T.th_al {a : Nat} (ha : a < 1 + N + np + nq) : T.Alive N np nq (T.th N np a) := by
  unfold T.th
  split
  · by_cases e : a = 0
    · subst e
      exact .inl rfl
    · exact .inr (.inl ⟨by omega, by omega⟩)
  · split
    · exact .inr (.inr (.inl ⟨by omega, by omega⟩))
    · exact .inr (.inr (.inr ⟨by omega, by omega⟩))
theorem T.con_all {n : Nat} (h1 : 1 ≤ N) (h8 : N ≤ 8) (p4 : np ≤ 4) (q4 : nq ≤ 4) (hn : n = 1 + N + np + nq) : T.Con n N (T.rE N N (np + nq)) where
  n1 := h1
  n8 := h8
  le := by omega
  n17 := by omega
  one := ⟨by unfold T.rE; omega, by unfold T.rE; omega⟩
  nxt k a b := ⟨by unfold T.rE; omega, by unfold T.rE; omega⟩
  oth a b c := ⟨by unfold T.rE; omega, by unfold T.rE; omega⟩
end
section
variable {N : Nat} {bl bh rl rh : Int} {ps qs : List (Int × Int)} {ls : List T.T5} {z : Nat} {o : Nat → Bool}
theorem T.look_pl (hv : T.valid N bl bh rl rh ps qs ls = true) {k : Nat} (hk : k < ls.length) : ∃ (n w : Nat) (kd r e : Int), ls.getD k (0, 0, 0, 0, 0) = ((n : Int), kd, (w : Int), r, e) ∧ n < N ∧ ((kd = 0 ∧ w < ps.length) ∨ (kd = 1 ∧ w < qs.length)) ∧ (-30000 ≤ r ∧ r ≤ 30000) ∧ (0 ≤ e ∧ e ≤ 2000) := by
  obtain ⟨_, _, _, _, hL⟩ := T.valid_parts hv
  have g := hL _ (T.getD_mem (d := (0, 0, 0, 0, 0)) hk)
  unfold T.lookOk at g
  simp only [Bool.and_eq_true, inB_iff] at g
  obtain ⟨⟨n, kd, w, r, e⟩, hx⟩ : ∃ x, ls.getD k (0, 0, 0, 0, 0) = x := ⟨_, rfl⟩
  rw [hx] at g ⊢
  obtain ⟨g1, g2, g3, g4, g5⟩ := g
  dsimp only at g1 g2 g3 g4 g5
  obtain ⟨n, rfl⟩ := Int.eq_ofNat_of_zero_le g1.1
  obtain ⟨w, rfl⟩ := Int.eq_ofNat_of_zero_le g3.1
  refine ⟨n, w, kd, r, e, rfl, by omega, ?_, g4, g5⟩
  have c : kd = 0 ∨ kd = 1 := by omega
  rcases c with rfl | rfl
  · have g3' : (w : Int) ≤ (ps.length : Int) - 1 := g3.2
    exact .inl ⟨rfl, by omega⟩
  · have g3' : (w : Int) ≤ (qs.length : Int) - 1 := g3.2
    exact .inr ⟨rfl, by omega⟩
theorem T.tru_rc (hv : T.valid N bl bh rl rh ps qs ls = true) (ho : ∀ k, k < ls.length → o k = z.testBit k) {y : Int → Int} (h : T.Tru N bl bh rl rh ps qs ls o y) :
    (∀ a b, a < 1 + N + ps.length + qs.length → b < 1 + N + ps.length + qs.length → y (T.th N ps.length b) - y (T.th N ps.length a) ≤ 1073741824) ∧ T.rC N ps.length bl bh rl rh ps qs ls z N ps.length qs.length ls.length (fun a => y (T.th N ps.length a)) := by
  have B := T.valid_bok hv
  have n1 := B.n1
  refine ⟨fun a b ha hb => ?_, ⟨?_, fun t ht => ?_⟩, fun t ht => ?_, fun t ht => ?_, fun t ht hb => ?_⟩
  · have h1 := T.tru_bd hv h (T.th_al ha)
    have h2 := T.tru_bd hv h (T.th_al hb)
    omega
  · have := h.beg
    simp only [T.th_n (show 1 ≤ N by omega), T.th_n (show 0 ≤ N by omega)]
    exact this
  · have := h.rat t ht
    simp only [T.th_n (show t + 2 ≤ N by omega), T.th_n (show t + 1 ≤ N by omega)]
    rw [show ((t + 2 : Nat) : Int) = 1 + ((t : Int) + 1) by omega, show ((t + 1 : Nat) : Int) = 1 + (t : Int) by omega]
    exact this
  · have := h.per t ht
    simp only [T.th_p ht, T.th_n (show 0 ≤ N by omega)]
    exact this
  · have := h.pth t ht
    simp only [T.th_q, T.th_n (show 0 ≤ N by omega)]
    exact this
  · have q := h.lok t ht (by rw [ho t ht]; exact hb)
    obtain ⟨n, w, kd, r, e, hx, hn, hk, _, _⟩ := T.look_pl hv ht
    rw [hx] at q ⊢
    unfold T.HL at q
    unfold T.rfr
    dsimp only at q ⊢
    rw [Int.toNat_natCast, Int.toNat_natCast, T.th_n (show 1 + n ≤ N by omega), show ((1 + n : Nat) : Int) = 1 + (n : Int) by omega]
    rcases hk with ⟨rfl, hw⟩ | ⟨rfl, hw⟩
    · rw [if_neg (by decide), T.th_p hw]
      exact q
    · rw [if_pos rfl, T.th_q]
      exact q
theorem T.rc_tru (hv : T.valid N bl bh rl rh ps qs ls = true) (ho : ∀ k, k < ls.length → o k = z.testBit k) {y : Nat → Int} (h : T.rC N ps.length bl bh rl rh ps qs ls z N ps.length qs.length ls.length y) : T.Tru N bl bh rl rh ps qs ls o (fun i => y (T.rx N ps.length i)) := by
  have B := T.valid_bok hv
  have n8 := B.n8
  have p4 := B.p4
  obtain ⟨⟨h1, h2⟩, h3, h4, h5⟩ := h
  have r0 : T.rx N ps.length 0 = 0 := T.rx_n (k := 0) (by omega)
  have r1 : T.rx N ps.length 1 = 1 := T.rx_n (k := 1) (by omega)
  refine ⟨?_, fun k hk => ?_, fun k hk => ?_, fun k hk => ?_, fun k hk hok => ?_⟩
  · show bl ≤ y (T.rx N ps.length 1) - y (T.rx N ps.length 0) ∧ _
    rw [r0, r1]
    exact h1
  · have := h2 k hk
    show rl ≤ y (T.rx N ps.length (1 + ((k : Int) + 1))) - y (T.rx N ps.length (1 + (k : Int))) ∧ y (T.rx N ps.length (1 + ((k : Int) + 1))) - y (T.rx N ps.length (1 + (k : Int))) ≤ rh
    rw [show (1 : Int) + ((k : Int) + 1) = 1 + ((k + 1 : Nat) : Int) by omega, T.rx_1 (show k + 1 < 8 by omega), T.rx_1 (show k < 8 by omega)]
    exact this
  · have := h3 k hk
    show (ps.getD k (0, 0)).1 ≤ y (T.rx N ps.length 0) - y (T.rx N ps.length (9 + (k : Int))) ∧ y (T.rx N ps.length 0) - y (T.rx N ps.length (9 + (k : Int))) ≤ (ps.getD k (0, 0)).2
    rw [r0, T.rx_p (by omega)]
    exact this
  · have := h4 k hk
    show (qs.getD k (0, 0)).1 ≤ y (T.rx N ps.length (13 + (k : Int))) - y (T.rx N ps.length 0) ∧ y (T.rx N ps.length (13 + (k : Int))) - y (T.rx N ps.length 0) ≤ (qs.getD k (0, 0)).2
    rw [r0, T.rx_q]
    exact this
  · have q := h5 k hk (by rw [← ho k hk]; exact hok)
    obtain ⟨n, w, kd, r, e, hx, hn, hkd, _, _⟩ := T.look_pl hv hk
    rw [hx] at q ⊢
    unfold T.rfr at q
    unfold T.HL
    dsimp only at q ⊢
    rw [Int.toNat_natCast, Int.toNat_natCast, Nat.add_comm 1 n] at q
    rw [T.rx_1 (show n < 8 by omega)]
    rcases hkd with ⟨rfl, hw⟩ | ⟨rfl, hw⟩
    · rw [if_neg (by decide)] at q
      show r - e ≤ y (n + 1) - y (T.rx N ps.length (9 + (w : Int))) ∧ y (n + 1) - y (T.rx N ps.length (9 + (w : Int))) ≤ r + e
      rw [T.rx_p (by omega)]
      exact q
    · rw [if_pos rfl] at q
      show r - e ≤ y (n + 1) - y (T.rx N ps.length (13 + (w : Int))) ∧ y (n + 1) - y (T.rx N ps.length (13 + (w : Int))) ≤ r + e
      rw [T.rx_q]
      exact q
/-- what the reference holds of a book's truths, as numbers of things -/
abbrev T.rF (N : Nat) (bl bh rl rh : Int) (ps qs : List (Int × Int)) (ls : List T.T5) (z : Nat) (y : Nat → Int) : Prop :=
  (∀ a b, a < 1 + N + ps.length + qs.length → b < 1 + N + ps.length + qs.length → y b - y a ≤ 1073741824) ∧ T.rC N ps.length bl bh rl rh ps qs ls z N ps.length qs.length ls.length y
/-- the matrix at its end tells of each two things what the program tells -/
theorem T.ref_tells (hv : T.valid N bl bh rl rh ps qs ls = true) (ho : ∀ k, k < ls.length → o k = z.testBit k) {M : T.Mt} (h : ∀ a b, a < 1 + N + ps.length + qs.length → b < 1 + N + ps.length + qs.length → (∀ y, T.rF N bl bh rl rh ps qs ls z y → y b - y a ≤ M a b) ∧ ∃ y, T.rF N bl bh rl rh ps qs ls z y ∧ y b - y a = M a b) {m i : Int} (hm : T.Alive N ps.length qs.length m) (hi : T.Alive N ps.length qs.length i) :
    T.Tells (T.Tru N bl bh rl rh ps qs ls o) m i (-(M (T.rx N ps.length i) (T.rx N ps.length m))) (M (T.rx N ps.length m) (T.rx N ps.length i)) 0 := by
  have B := T.valid_bok hv
  obtain ⟨m1, m2⟩ := T.th_rx B.n8 B.p4 hm
  obtain ⟨i1, i2⟩ := T.th_rx B.n8 B.p4 hi
  obtain ⟨a1, y1, b1, c1⟩ := h _ _ m2 i2
  obtain ⟨a2, y2, b2, c2⟩ := h _ _ i2 m2
  refine .inl ⟨rfl, fun y hy => ?_, ⟨fun i => y2 (T.rx N ps.length i), T.rc_tru hv ho b2.2, ?_⟩, fun i => y1 (T.rx N ps.length i), T.rc_tru hv ho b1.2, c1⟩
  · have q := T.tru_rc hv ho hy
    have e1 := a1 _ q
    have e2 := a2 _ q
    rw [m1, i1] at e1 e2
    omega
  · show y2 (T.rx N ps.length i) - y2 (T.rx N ps.length m) = _
    omega
theorem T.ref_none (hv : T.valid N bl bh rl rh ps qs ls = true) (ho : ∀ k, k < ls.length → o k = z.testBit k) (h : ∀ y, ¬ T.rF N bl bh rl rh ps qs ls z y) : ∀ y, ¬ T.Tru N bl bh rl rh ps qs ls o y := fun _ hy => h _ (T.tru_rc hv ho hy)
theorem T.ref_some (hv : T.valid N bl bh rl rh ps qs ls = true) (ho : ∀ k, k < ls.length → o k = z.testBit k) {y : Nat → Int} (h : T.rF N bl bh rl rh ps qs ls z y) : ∃ y, T.Tru N bl bh rl rh ps qs ls o y := ⟨_, T.rc_tru hv ho h.2⟩
end

end Go.Proofs.Ytlpkheoljbdajaa

/- The reference's matrix, said by said. -/
namespace Go.Proofs.Ytlpkheoljbdajaa
open Go.RowKit

section
variable {N D z : Nat} {bl bh rl rh : Int} {ps qs : List (Int × Int)} {ls : List T.T5} {M : T.Mt} {E : Nat → Nat → Prop} {j : Nat}
theorem T.ini_beg (hD : 2 ≤ D) (hb : -20000 ≤ bl ∧ bl ≤ bh ∧ bh ≤ 20000) : T.Ini D (T.rE N 1 0) (T.sayM T.mt0 0 1 bl bh) (T.rC N ps.length bl bh rl rh ps qs ls z 1 0 0 0) :=
  T.Ini.zero.say (by omega) (by omega) (by omega) (by omega) (by omega) (fun x y q => by unfold T.rE at q; omega) (fun y => by
    unfold T.rC
    exact ⟨fun h => ⟨⟨h.2, fun t ht => by omega⟩, fun t ht => by omega, fun t ht => by omega, fun t ht => by omega⟩, fun h => ⟨trivial, h.1.1⟩⟩)
theorem T.ini_night (h : T.Ini D (T.rE N j 0) M (T.rC N ps.length bl bh rl rh ps qs ls z j 0 0 0)) (h1 : 1 ≤ j) (hD : j + 1 < D) (hb : -1000 ≤ rl ∧ rl ≤ rh ∧ rh ≤ 1000) : T.Ini D (T.rE N (j + 1) 0) (T.sayM M j (j + 1) rl rh) (T.rC N ps.length bl bh rl rh ps qs ls z (j + 1) 0 0 0) :=
  h.say (by omega) (by omega) (by omega) (by omega) (by omega) (fun x y q => by
    unfold T.rE at q ⊢
    rcases q with q | q | ⟨q1, q2, q3⟩ | ⟨q1, q2, q3⟩ | ⟨q1, q2, q3⟩ | ⟨q1, q2, q3⟩
    · exact .inl (.inl q)
    · exact .inl (.inr (.inl q))
    · by_cases c : x + 1 ≤ j
      · exact .inl (.inr (.inr (.inl ⟨q1, c, q3⟩)))
      · exact .inr (.inl ⟨by omega, by omega⟩)
    · by_cases c : y + 1 ≤ j
      · exact .inl (.inr (.inr (.inr (.inl ⟨q1, c, q3⟩))))
      · exact .inr (.inr ⟨by omega, by omega⟩)
    · omega
    · omega) (fun y => by
    unfold T.rC
    refine ⟨fun ⟨⟨⟨p1, p2⟩, p3⟩, p4⟩ => ⟨⟨p1, fun t ht => ?_⟩, p3⟩, fun ⟨⟨p1, p2⟩, p3⟩ => ⟨⟨⟨p1, fun t ht => p2 t (by omega)⟩, p3⟩, ?_⟩⟩
    · by_cases e : t + 1 = j
      · subst e
        exact p4
      · exact p2 t (by omega)
    · have := p2 (j - 1) (by omega)
      rw [show j - 1 + 2 = j + 1 by omega, show j - 1 + 1 = j by omega] at this
      exact this)
theorem T.ini_per (h : T.Ini D (T.rE N N j) M (T.rC N ps.length bl bh rl rh ps qs ls z N j 0 0)) (hD : 1 + N + j < D) {l u : Int} (hs : ps.getD j (0, 0) = (l, u)) (hb : -2000 ≤ l ∧ l ≤ u ∧ u ≤ 2000) : T.Ini D (T.rE N N (j + 1)) (T.sayM M (1 + N + j) 0 l u) (T.rC N ps.length bl bh rl rh ps qs ls z N (j + 1) 0 0) :=
  h.say (by omega) (by omega) (by omega) (by omega) (by omega) (fun x y q => by
    unfold T.rE at q ⊢
    rcases q with q | q | q | q | ⟨q1, q2, q3⟩ | ⟨q1, q2, q3⟩
    · exact .inl (.inl q)
    · exact .inl (.inr (.inl q))
    · exact .inl (.inr (.inr (.inl q)))
    · exact .inl (.inr (.inr (.inr (.inl q))))
    · by_cases c : x < 1 + N + j
      · exact .inl (.inr (.inr (.inr (.inr (.inl ⟨q1, q2, c⟩)))))
      · exact .inr (.inl ⟨by omega, by omega⟩)
    · by_cases c : y < 1 + N + j
      · exact .inl (.inr (.inr (.inr (.inr (.inr ⟨q1, q2, c⟩)))))
      · exact .inr (.inr ⟨by omega, by omega⟩)) (fun y => by
    unfold T.rC
    refine ⟨fun ⟨⟨p1, p2, p3⟩, p4⟩ => ⟨p1, fun t ht => ?_, p3⟩, fun ⟨p1, p2, p3⟩ => ⟨⟨p1, fun t ht => p2 t (by omega), p3⟩, ?_⟩⟩
    · by_cases e : t = j
      · subst e
        rw [hs]
        exact p4
      · exact p2 t (by omega)
    · have := p2 j (by omega)
      rw [hs] at this
      exact this)
theorem T.ini_pth (h : T.Ini D (T.rE N N (ps.length + j)) M (T.rC N ps.length bl bh rl rh ps qs ls z N ps.length j 0)) (hD : 1 + N + ps.length + j < D) {l u : Int} (hs : qs.getD j (0, 0) = (l, u)) (hb : 0 ≤ l ∧ l ≤ u ∧ u ≤ 5000) : T.Ini D (T.rE N N (ps.length + (j + 1))) (T.sayM M 0 (1 + N + ps.length + j) l u) (T.rC N ps.length bl bh rl rh ps qs ls z N ps.length (j + 1) 0) :=
  h.say (by omega) (by omega) (by omega) (by omega) (by omega) (fun x y q => by
    unfold T.rE at q ⊢
    rcases q with q | q | q | q | ⟨q1, q2, q3⟩ | ⟨q1, q2, q3⟩
    · exact .inl (.inl q)
    · exact .inl (.inr (.inl q))
    · exact .inl (.inr (.inr (.inl q)))
    · exact .inl (.inr (.inr (.inr (.inl q))))
    · by_cases c : x < 1 + N + (ps.length + j)
      · exact .inl (.inr (.inr (.inr (.inr (.inl ⟨q1, q2, c⟩)))))
      · exact .inr (.inr ⟨by omega, by omega⟩)
    · by_cases c : y < 1 + N + (ps.length + j)
      · exact .inl (.inr (.inr (.inr (.inr (.inr ⟨q1, q2, c⟩)))))
      · exact .inr (.inl ⟨by omega, by omega⟩)) (fun y => by
    unfold T.rC
    refine ⟨fun ⟨⟨p1, p2, p3, p5⟩, p4⟩ => ⟨p1, p2, fun t ht => ?_, p5⟩, fun ⟨p1, p2, p3, p5⟩ => ⟨⟨p1, p2, fun t ht => p3 t (by omega), p5⟩, ?_⟩⟩
    · by_cases e : t = j
      · subst e
        rw [hs]
        exact p4
      · exact p3 t (by omega)
    · have := p3 j (by omega)
      rw [hs] at this
      exact this)
theorem T.ini_look (h : T.Ini D E M (T.rC N ps.length bl bh rl rh ps qs ls z N ps.length qs.length j)) {n f : Nat} {kd w r e : Int} (hs : ls.getD j (0, 0, 0, 0, 0) = ((n : Int), kd, w, r, e)) (hf : T.rfr N ps.length ((n : Int), kd, w, r, e) = f) (hz : z.testBit j = false) (hf1 : f < D) (hn : 1 + n < D) (hne : f ≠ 1 + n) (hr : -30000 ≤ r ∧ r ≤ 30000) (he : 0 ≤ e ∧ e ≤ 2000) :
    T.Ini D E (T.sayM M f (1 + n) (r - e) (r + e)) (T.rC N ps.length bl bh rl rh ps qs ls z N ps.length qs.length (j + 1)) :=
  h.say (by omega) (by omega) (by omega) (by omega) (by omega) (fun x y q => .inl q) (fun y => by
    unfold T.rC
    refine ⟨fun ⟨⟨p1, p2, p3, p5⟩, p4⟩ => ⟨p1, p2, p3, fun t ht hb => ?_⟩, fun ⟨p1, p2, p3, p5⟩ => ⟨⟨p1, p2, p3, fun t ht => p5 t (by omega)⟩, ?_⟩⟩
    · by_cases q : t = j
      · subst q
        rw [hs, hf]
        dsimp only
        rw [Int.toNat_natCast]
        exact p4
      · exact p5 t (by omega) hb
    · have := p5 j (by omega) hz
      rw [hs, hf] at this
      dsimp only at this
      rw [Int.toNat_natCast] at this
      exact this)
theorem T.ini_skip (h : T.Ini D E M (T.rC N ps.length bl bh rl rh ps qs ls z N ps.length qs.length j)) (hz : z.testBit j = true) : T.Ini D E M (T.rC N ps.length bl bh rl rh ps qs ls z N ps.length qs.length (j + 1)) :=
  h.congr (fun _ _ q => q) (fun y => by
    unfold T.rC
    refine ⟨fun ⟨p1, p2, p3, p5⟩ => ⟨p1, p2, p3, fun t ht hb => ?_⟩, fun ⟨p1, p2, p3, p5⟩ => ⟨p1, p2, p3, fun t ht => p5 t (by omega)⟩⟩
    by_cases q : t = j
    · subst q
      rw [hz] at hb
      cases hb
    · exact p5 t (by omega) hb)
end

end Go.Proofs.Ytlpkheoljbdajaa

/- A matrix of numbers in memory, a block a row. -/
namespace Go.Proofs.Ytlpkheoljbdajaa
open Go.RowKit

/-- the first k rows of a matrix, each in a block of its own -/
structure T.Mx (w : World) (g N : Nat) (rw : Nat → Nat) (M : T.Mt) (k : Nat) : Prop where
  top : ∃ cs, mblk w g = some (.cells cs 28 (0, 0)) ∧ cs.size = N ∧ ∀ a, a < k → cs[a]? = some (.slice (some ⟨rw a, 0, none⟩) N N)
  row : ∀ a, a < k → ∃ cs, mblk w (rw a) = some (.cells cs 3 (0, 0)) ∧ cs.size = N ∧ ∀ b, b < N → cs[b]? = some (.int .i64 (M a b))
  inj : ∀ a b, a < k → b < k → rw a = rw b → a = b
section
variable {w w' : World} {g N k : Nat} {rw : Nat → Nat} {M M' : T.Mt}
theorem T.Mx.up (h : T.Mx w g N rw M k) (u : Up w w') : T.Mx w' g N rw M k where
  top := by
    obtain ⟨cs, h1, h2⟩ := h.top
    exact ⟨cs, u.blk h1, h2⟩
  row a ha := by
    obtain ⟨cs, h1, h2⟩ := h.row a ha
    exact ⟨cs, u.blk h1, h2⟩
  inj := h.inj
theorem T.Mx.congr (h : T.Mx w g N rw M k) (e : ∀ a b, a < k → b < N → M a b = M' a b) : T.Mx w g N rw M' k where
  top := h.top
  row a ha := by
    obtain ⟨cs, h1, h2, h3⟩ := h.row a ha
    exact ⟨cs, h1, h2, fun b hb => by rw [h3 b hb, e a b ha hb]⟩
  inj := h.inj
theorem T.Mx.cell1 (h : T.Mx w g N rw M k) {a : Nat} (ha : a < k) : w.cell? ⟨g, a, none⟩ = some (.slice (some ⟨rw a, 0, none⟩) N N) := by
  obtain ⟨cs, h1, _, h2⟩ := h.top
  rw [cellB h1, h2 a ha]
theorem T.Mx.cell2 (h : T.Mx w g N rw M k) {a b : Nat} (ha : a < k) (hb : b < N) : w.cell? ⟨rw a, b, none⟩ = some (.int .i64 (M a b)) := by
  obtain ⟨cs, h1, _, h2⟩ := h.row a ha
  rw [cellB h1, h2 b hb]
theorem T.Mx.froz (h : T.Mx w g N rw M k) {a : Nat} (ha : a < k) (b : Nat) : w.frozen? ⟨rw a, b, none⟩ = false := by
  obtain ⟨cs, h1, _, _⟩ := h.row a ha
  exact frozB h1 b
theorem T.Mx.frozG (h : T.Mx w g N rw M k) (b : Nat) : w.frozen? ⟨g, b, none⟩ = false := by
  obtain ⟨cs, h1, _, _⟩ := h.top
  exact frozB h1 b
theorem T.Mx.cellG (h : T.Mx w g N rw M k) {b : Nat} (hb : b < N) : ∃ v, w.cell? ⟨g, b, none⟩ = some v := by
  obtain ⟨cs, h1, h2, _⟩ := h.top
  rw [cellB h1]
  exact ⟨cs[b]'(by omega), by simp [h2, hb]⟩
theorem T.Mx.lt (h : T.Mx w g N rw M k) {a : Nat} (ha : a < k) : rw a < w.heap.size := by
  obtain ⟨cs, h1, _, _⟩ := h.row a ha
  exact blk_lt h1
theorem T.Mx.ne (h : T.Mx w g N rw M k) {a : Nat} (ha : a < k) : g ≠ rw a := fun e => by
  obtain ⟨cs, h1, _, _⟩ := h.row a ha
  obtain ⟨cs', h2, _, _⟩ := h.top
  rw [e, h1] at h2
  cases h2
/-- a cell is written anew -/
theorem T.Mx.put (h : T.Mx w g N rw M k) {a b : Nat} (ha : a < k) (v : Int) : T.Mx (w.setCell ⟨rw a, b, none⟩ (.int .i64 v)) g N rw (T.mup M a b v) k where
  top := by
    obtain ⟨cs, h1, h2⟩ := h.top
    exact ⟨cs, by rw [blk_set _ _ _ _ (h.ne ha)]; exact h1, h2⟩
  row c hc := by
    obtain ⟨cs, h1, h2, h3⟩ := h.row c hc
    by_cases e : c = a
    · subst e
      refine ⟨cs.setIfInBounds b (.int .i64 v), blk_put h1 b _, by rw [Array.size_setIfInBounds]; exact h2, fun d hd => ?_⟩
      by_cases e2 : d = b
      · subst e2
        rw [T.mup_at, Array.getElem?_setIfInBounds_self_of_lt (by omega)]
      · rw [T.mup_ne _ _ (fun q => e2 q.2), Array.getElem?_setIfInBounds_ne (fun q => e2 q.symm)]
        exact h3 d hd
    · refine ⟨cs, by rw [blk_set _ _ _ _ (fun q => e (h.inj c a hc ha q))]; exact h1, h2, fun d hd => ?_⟩
      rw [T.mup_ne _ _ (fun q => e q.1)]
      exact h3 d hd
  inj := h.inj
/-- a row more -/
theorem T.Mx.add {cs : Array Value} {q : Nat} (h : T.Mx w g N rw M k) (hk : k < N) (hq : mblk w q = some (.cells cs 3 (0, 0))) (hs : cs.size = N) (hc : ∀ b, b < N → cs[b]? = some (.int .i64 (M' k b))) (hn : ∀ a, a < k → rw a ≠ q) (he : ∀ a b, a < k → b < N → M a b = M' a b) :
    T.Mx (w.setCell ⟨g, k, none⟩ (.slice (some ⟨q, 0, none⟩) N N)) g N (fun a => if a = k then q else rw a) M' (k + 1) where
  top := by
    obtain ⟨ct, h1, h2, h3⟩ := h.top
    refine ⟨ct.setIfInBounds k (.slice (some ⟨q, 0, none⟩) N N), blk_put h1 k _, by rw [Array.size_setIfInBounds]; exact h2, fun a ha => ?_⟩
    by_cases e : a = k
    · subst e
      rw [if_pos rfl, Array.getElem?_setIfInBounds_self_of_lt (by omega)]
    · rw [if_neg e, Array.getElem?_setIfInBounds_ne (fun x => e x.symm)]
      exact h3 a (by omega)
  row a ha := by
    by_cases e : a = k
    · subst e
      rw [if_pos rfl]
      refine ⟨cs, ?_, hs, hc⟩
      rw [blk_set _ _ _ _ (fun x => by
        obtain ⟨ct, h1, _⟩ := h.top
        have x' : q = g := x
        rw [← x', hq] at h1
        cases h1)]
      exact hq
    · rw [if_neg e]
      obtain ⟨ct, h1, h2, h3⟩ := h.row a (by omega)
      refine ⟨ct, ?_, h2, fun b hb => by rw [h3 b hb, he a b (by omega) hb]⟩
      rw [blk_set _ _ _ _ (fun x => h.ne (show a < k by omega) x.symm)]
      exact h1
  inj a b ha hb e := by
    by_cases e1 : a = k
    · by_cases e2 : b = k
      · omega
      · simp only [e1, e2, if_true, if_false] at e
        exact absurd e.symm (hn b (by omega))
    · by_cases e2 : b = k
      · simp only [e1, e2, if_true, if_false] at e
        exact absurd e (hn a (by omega))
      · simp only [e1, e2, if_false] at e
        exact h.inj a b (by omega) (by omega) e
end
/-- a row that is being filled -/
def T.mtk (k b : Nat) : T.Mt := fun x y => if x = k then (if y < b then 1073741824 else 0) else T.mt0 x y
theorem T.mtk_0 (k x y : Nat) (h : x < k) : T.mt0 x y = T.mtk k 0 x y := by
  unfold T.mtk
  rw [if_neg (by omega)]
theorem T.mtk_self (k y : Nat) : T.mtk k 0 k y = 0 := by
  unfold T.mtk
  rw [if_pos rfl, if_neg (by omega)]
theorem T.mtk_put {k b : Nat} (x y : Nat) : T.mup (T.mtk k b) k b 1073741824 x y = T.mtk k (b + 1) x y := by
  by_cases e : x = k ∧ y = b
  · obtain ⟨rfl, rfl⟩ := e
    rw [T.mup_at]
    unfold T.mtk
    rw [if_pos rfl, if_pos (by omega)]
  · rw [T.mup_ne _ _ e]
    unfold T.mtk
    by_cases c : x = k
    · rw [if_pos c, if_pos c]
      by_cases d : y < b
      · rw [if_pos d, if_pos (by omega)]
      · rw [if_neg d, if_neg (by omega)]
    · rw [if_neg c, if_neg c]
theorem T.mtk_end {k N x y : Nat} (hy : y < N) : T.mup (T.mtk k N) k k 0 x y = T.mt0 x y := by
  by_cases e : x = k ∧ y = k
  · obtain ⟨rfl, rfl⟩ := e
    rw [T.mup_at]
    unfold T.mt0
    rw [if_pos rfl]
  · rw [T.mup_ne _ _ e]
    unfold T.mtk
    by_cases c : x = k
    · rw [if_pos c, if_pos hy]
      unfold T.mt0
      rw [if_neg (by omega)]
    · rw [if_neg c]
theorem infoInts : (Try.prog.info? 28).map (fun i => (i.zero, i.size, i.bytes)) = some (some (.slice none 0 0), 1, 24) := by kernel_rfl
theorem T.zcell (n b : Nat) (h : b < n) : (madeCells (Value.cells (.int .i64 0)) (n * 1))[b]? = some (.int .i64 0) := by
  have e := toList_madeCells_one (.int .i64 0) (n * 1)
  rw [← Array.getElem?_toList]
  show (madeCells #[.int .i64 0] (n * 1)).toList[b]? = _
  rw [e, List.getElem?_replicate, if_pos (by omega)]
theorem T.zsize (z : Array Value) (n : Nat) : (madeCells z (n * 1)).size = n := by rw [size_madeCells, Nat.mul_one]

end Go.Proofs.Ytlpkheoljbdajaa

/- What the reference asks of a truth, in its order. -/
namespace Go.Proofs.Ytlpkheoljbdajaa
open Go.RowKit

def T.rB (xs : List (Int × Int)) (vs : List Int) (k : Nat) : Prop := ∀ m, m < k → (xs.getD m (0, 0)).1 ≤ vs.getD m 0 ∧ vs.getD m 0 ≤ (xs.getD m (0, 0)).2
def T.rD (rl rh : Int) (os : List Int) (k : Nat) : Prop := ∀ m, m + 1 < k → rl ≤ os.getD (m + 1) 0 - os.getD m 0 ∧ os.getD (m + 1) 0 - os.getD m 0 ≤ rh
def T.rSeen (os pe pa : List Int) (x : T.T5) : Int := if x.2.1 = 0 then os.getD x.1.toNat 0 + pe.getD x.2.2.1.toNat 0 else os.getD x.1.toNat 0 - pa.getD x.2.2.1.toNat 0
def T.rL (ls : List T.T5) (os pe pa : List Int) (k : Nat) : Prop := ∀ m, m < k → (ls.getD m (0, 0, 0, 0, 0)).2.2.2.1 - (ls.getD m (0, 0, 0, 0, 0)).2.2.2.2 ≤ T.rSeen os pe pa (ls.getD m (0, 0, 0, 0, 0)) ∧ T.rSeen os pe pa (ls.getD m (0, 0, 0, 0, 0)) ≤ (ls.getD m (0, 0, 0, 0, 0)).2.2.2.1 + (ls.getD m (0, 0, 0, 0, 0)).2.2.2.2
/-- what is asked so far -/
def T.rX (bl bh rl rh : Int) (ps qs : List (Int × Int)) (ls : List T.T5) (os pe pa : List Int) (i j k m : Nat) : Prop :=
  (bl ≤ os.getD 0 0 ∧ os.getD 0 0 ≤ bh) ∧ T.rB ps pe i ∧ T.rB qs pa j ∧ T.rD rl rh os k ∧ T.rL ls os pe pa m
section
variable {N : Nat} {bl bh rl rh : Int} {ps qs : List (Int × Int)} {ls : List T.T5} {os pe pa : List Int} {i j k m i' j' k' m' : Nat}
theorem T.rX.mono (h : T.rX bl bh rl rh ps qs ls os pe pa i j k m) (hi : i' ≤ i) (hj : j' ≤ j) (hk : k' ≤ k) (hm : m' ≤ m) : T.rX bl bh rl rh ps qs ls os pe pa i' j' k' m' :=
  ⟨h.1, fun t ht => h.2.1 t (by omega), fun t ht => h.2.2.1 t (by omega), fun t ht => h.2.2.2.1 t (by omega), fun t ht => h.2.2.2.2 t (by omega)⟩
theorem T.rB_succ {xs : List (Int × Int)} {vs : List Int} : T.rB xs vs (k + 1) ↔ T.rB xs vs k ∧ (xs.getD k (0, 0)).1 ≤ vs.getD k 0 ∧ vs.getD k 0 ≤ (xs.getD k (0, 0)).2 := by
  constructor
  · intro h
    exact ⟨fun t ht => h t (by omega), h k (by omega)⟩
  · intro ⟨h, q⟩ t ht
    by_cases e : t = k
    · subst e
      exact q
    · exact h t (by omega)
theorem T.rD_succ : T.rD rl rh os (k + 1 + 1) ↔ T.rD rl rh os (k + 1) ∧ rl ≤ os.getD (k + 1) 0 - os.getD k 0 ∧ os.getD (k + 1) 0 - os.getD k 0 ≤ rh := by
  constructor
  · intro h
    exact ⟨fun t ht => h t (by omega), h k (by omega)⟩
  · intro ⟨h, q⟩ t ht
    by_cases e : t = k
    · subst e
      exact q
    · exact h t (by omega)
theorem T.rL_succ : T.rL ls os pe pa (k + 1) ↔ T.rL ls os pe pa k ∧ (ls.getD k (0, 0, 0, 0, 0)).2.2.2.1 - (ls.getD k (0, 0, 0, 0, 0)).2.2.2.2 ≤ T.rSeen os pe pa (ls.getD k (0, 0, 0, 0, 0)) ∧ T.rSeen os pe pa (ls.getD k (0, 0, 0, 0, 0)) ≤ (ls.getD k (0, 0, 0, 0, 0)).2.2.2.1 + (ls.getD k (0, 0, 0, 0, 0)).2.2.2.2 := by
  constructor
  · intro h
    exact ⟨fun t ht => h t (by omega), h k (by omega)⟩
  · intro ⟨h, q⟩ t ht
    by_cases e : t = k
    · subst e
      exact q
    · exact h t (by omega)
theorem T.rX_bd (hb : -20000 ≤ bl ∧ bh ≤ 20000) (hr : -1000 ≤ rl ∧ rh ≤ 1000) (h : T.rX bl bh rl rh ps qs ls os pe pa i j k m) : ∀ t, t < k → t ≤ 8 → -30000 ≤ os.getD t 0 ∧ os.getD t 0 ≤ 30000 := by
  have q : ∀ t : Nat, t < k → -20000 - 1000 * (t : Int) ≤ os.getD t 0 ∧ os.getD t 0 ≤ 20000 + 1000 * (t : Int) := by
    intro t
    induction t with
    | zero => exact fun _ => by have := h.1; omega
    | succ t ih =>
      intro ht
      have := ih (by omega)
      have := h.2.2.2.1 t ht
      omega
  intro t ht h8
  have := q t ht
  omega
/-- it is just what a truth is -/
theorem T.rX_tru (hv : T.valid N bl bh rl rh ps qs ls = true) (h1 : os.length = N) (h2 : pe.length = ps.length) (h3 : pa.length = qs.length) (b : ∀ x ∈ pe, D.in64 x) : T.rX bl bh rl rh ps qs ls os pe pa ps.length qs.length N ls.length ↔ T.Tr N bl bh rl rh ps qs ls (T.nto os pe pa 3) := by
  have B := T.valid_bok hv
  obtain ⟨e0, e1, e2, e3⟩ := T.nto_at (N := N) (np := ps.length) (nq := qs.length) (os := os) (pe := pe) (pa := pa) B.n8 B.p4 h1 h2 h3
  have e1' : T.nto os pe pa 3 1 = os.getD 0 0 := e1 0 (by have := B.n1; omega)
  have en : ∀ x, D.in64 x → (x = -9223372036854775808 ∧ T.neg x = -9223372036854775808) ∨ T.neg x = -x := fun x hx => by
    unfold D.in64 at hx
    unfold T.neg
    rw [IntKind.wrap_i64]
    omega
  obtain ⟨_, _, hP, _, _⟩ := T.valid_parts hv
  have pb : ∀ t, t < ps.length → -2000 ≤ (ps.getD t (0, 0)).1 ∧ (ps.getD t (0, 0)).2 ≤ 2000 := fun t ht => by
    have := S.spanOk_iff.1 (hP _ (T.getD_mem (d := (0, 0)) ht))
    omega
  have look : ∀ t, t < ls.length → (T.HL (T.nto os pe pa 3) (ls.getD t (0, 0, 0, 0, 0)) ↔ (ls.getD t (0, 0, 0, 0, 0)).2.2.2.1 - (ls.getD t (0, 0, 0, 0, 0)).2.2.2.2 ≤ T.nto os pe pa 3 (1 + (ls.getD t (0, 0, 0, 0, 0)).1) - T.nto os pe pa 3 (T.fst (ls.getD t (0, 0, 0, 0, 0)).2.1 + (ls.getD t (0, 0, 0, 0, 0)).2.2.1) ∧ T.nto os pe pa 3 (1 + (ls.getD t (0, 0, 0, 0, 0)).1) - T.nto os pe pa 3 (T.fst (ls.getD t (0, 0, 0, 0, 0)).2.1 + (ls.getD t (0, 0, 0, 0, 0)).2.2.1) ≤ (ls.getD t (0, 0, 0, 0, 0)).2.2.2.1 + (ls.getD t (0, 0, 0, 0, 0)).2.2.2.2) := fun t _ => Iff.rfl
  have seen : (∀ t, t < ps.length → T.neg (pe.getD t 0) = -(pe.getD t 0)) → ∀ t, t < ls.length → T.nto os pe pa 3 (1 + (ls.getD t (0, 0, 0, 0, 0)).1) - T.nto os pe pa 3 (T.fst (ls.getD t (0, 0, 0, 0, 0)).2.1 + (ls.getD t (0, 0, 0, 0, 0)).2.2.1) = T.rSeen os pe pa (ls.getD t (0, 0, 0, 0, 0)) := fun hn t ht => by
    obtain ⟨n, w, kd, r, e, hx, hnN, hk, _, _⟩ := T.look_pl hv ht
    rw [hx]
    unfold T.rSeen
    dsimp only
    rw [e1 n hnN, Int.toNat_natCast, Int.toNat_natCast]
    rcases hk with ⟨rfl, hw⟩ | ⟨rfl, hw⟩
    · rw [if_pos rfl, show T.fst 0 = 9 from rfl, e2 w hw, hn w hw]
      omega
    · rw [if_neg (by decide), show T.fst 1 = 13 from rfl, e3 w hw]
  constructor
  · rintro ⟨c0, c1, c2, c3, c4⟩
    have hn : ∀ t, t < ps.length → T.neg (pe.getD t 0) = -(pe.getD t 0) := fun t ht => by
      have a := pb t ht
      have c := c1 t ht
      rcases en (pe.getD t 0) (b _ (T.getD_mem (by omega))) with q | q
      · omega
      · exact q
    refine ⟨by rw [e1', e0]; omega, fun t ht => ?_, fun t ht => ?_, fun t ht => ?_, fun t ht _ => ?_⟩
    · have := c3 t ht
      have q1 := e1 (t + 1) (by omega)
      have q2 := e1 t (by omega)
      rw [show (1 : Int) + ((t + 1 : Nat) : Int) = 1 + ((t : Int) + 1) by omega] at q1
      rw [q1, q2]
      exact this
    · rw [e2 t ht, e0, hn t ht]
      have := c1 t ht
      omega
    · rw [e3 t ht, e0]
      have := c2 t ht
      omega
    · have := c4 t ht
      rw [← seen hn t ht] at this
      exact this
  · intro h
    have hn : ∀ t, t < ps.length → T.neg (pe.getD t 0) = -(pe.getD t 0) := fun t ht => by
      have a := pb t ht
      have c := h.per t ht
      rw [e2 t ht, e0] at c
      rcases en (pe.getD t 0) (b _ (T.getD_mem (by omega))) with q | q
      · omega
      · exact q
    refine ⟨?_, fun t ht => ?_, fun t ht => ?_, fun t ht => ?_, fun t ht => ?_⟩
    · have := h.beg
      rw [e1', e0] at this
      omega
    · have := h.per t ht
      rw [e2 t ht, e0, hn t ht] at this
      omega
    · have := h.pth t ht
      rw [e3 t ht, e0] at this
      omega
    · have := h.rat t ht
      have q1 := e1 (t + 1) (by omega)
      have q2 := e1 t (by omega)
      rw [show (1 : Int) + ((t + 1 : Nat) : Int) = 1 + ((t : Int) + 1) by omega] at q1
      rw [q1, q2] at this
      exact this
    · have := h.lok t ht rfl
      rw [← seen hn t ht]
      exact this
end

end Go.Proofs.Ytlpkheoljbdajaa
