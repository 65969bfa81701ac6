import Derived.Test.YtonklhfpjooheaaNum
import Derived.Test.YtonklhfpjooheaaHsI
import Derived.Laws.MakeOwn
import Derived.Test.YtonklhfpjooheaaTeR
import Derived.Test.YtonklhfpjooheaaHeQ
/- Floyd and Warshall, in place: by how much each number can be above each other one. -/
namespace Go.Proofs.Ytonklhfpjooheaa

abbrev T.Mt := Nat → Nat → Int
def T.mup (M : T.Mt) (a b : Nat) (v : Int) : T.Mt := fun x y => if x = a ∧ y = b then v else M x y
theorem T.mup_at (M : T.Mt) (a b : Nat) (v : Int) : T.mup M a b v a b = v := if_pos ⟨rfl, rfl⟩
theorem T.mup_ne (M : T.Mt) {a b x y : Nat} (v : Int) (h : ¬ (x = a ∧ y = b)) : T.mup M a b v x y = M x y := if_neg h
/-- numbers that keep to all of a matrix -/
def T.MF (n : Nat) (M : T.Mt) (y : Nat → Int) : Prop := ∀ a b, a < n → b < n → y a - y b ≤ M a b
theorem T.MF.mup {n : Nat} {M : T.Mt} {y : Nat → Int} {a b : Nat} {v : Int} (ha : a < n) (hb : b < n) (hv : v ≤ M a b) : T.MF n (T.mup M a b v) y ↔ T.MF n M y ∧ y a - y b ≤ v := by
  constructor
  · intro h
    have h0 := h a b ha hb
    rw [T.mup_at] at h0
    refine ⟨fun p q hp hq => ?_, h0⟩
    by_cases e : p = a ∧ q = b
    · obtain ⟨rfl, rfl⟩ := e
      omega
    · have := h p q hp hq
      rwa [T.mup_ne _ _ e] at this
  · intro ⟨h, h0⟩ p q hp hq
    by_cases e : p = a ∧ q = b
    · obtain ⟨rfl, rfl⟩ := e
      rw [T.mup_at]
      exact h0
    · rw [T.mup_ne _ _ e]
      exact h p q hp hq
/-- a matrix as it is before the places from q on are gone over -/
structure T.Cln (n q : Nat) (M : T.Mt) : Prop where
  dg : ∀ a, a < n → 0 ≤ M a a
  dz : ∀ a, a < n → M a a ≤ 0
  hi : ∀ a b, a < n → b < n → M a b ≤ 1099511627776
  lo : ∀ a b, a < n → b < n → -2199023255552 ≤ M a b
  tri : ∀ p, p < q → ∀ a b, a < n → b < n → M a b ≤ M a p + M p b
/-- in the midst of going over a place -/
def T.Mid (n q a b : Nat) (M0 M : T.Mt) : Prop := ∀ x y, x < n → y < n → M x y = if x < a ∨ (x = a ∧ y < b) then Min.min (M0 x y) (M0 x q + M0 q y) else M0 x y
def T.Neg (n : Nat) (F : (Nat → Int) → Prop) (M : T.Mt) : Prop := (∃ x, x < n ∧ M x x < 0) ∧ ∀ y, ¬ F y
def T.St (n : Nat) (F : (Nat → Int) → Prop) (q : Nat) (M : T.Mt) : Prop := T.Neg n F M ∨ (T.Cln n q M ∧ ∀ y, F y ↔ T.MF n M y)
def T.SM (n : Nat) (F : (Nat → Int) → Prop) (q a b : Nat) (M : T.Mt) : Prop := T.Neg n F M ∨ ∃ M0, T.Cln n q M0 ∧ (∀ y, F y ↔ T.MF n M0 y) ∧ T.Mid n q a b M0 M
section
variable {n q : Nat} {F : (Nat → Int) → Prop} {M : T.Mt}
theorem T.St.start (h : T.St n F q M) : T.SM n F q 0 0 M := by
  rcases h with h | ⟨h1, h2⟩
  · exact .inl h
  · exact .inr ⟨M, h1, h2, fun x y _ _ => (if_neg (by omega)).symm⟩
theorem T.SM.row {a : Nat} (h : T.SM n F q a n M) : T.SM n F q (a + 1) 0 M := by
  rcases h with h | ⟨M0, h1, h2, h3⟩
  · exact .inl h
  · refine .inr ⟨M0, h1, h2, fun x y hx hy => ?_⟩
    rw [h3 x y hx hy]
    by_cases e : x < a ∨ (x = a ∧ y < n)
    · rw [if_pos e, if_pos (by omega)]
    · rw [if_neg e, if_neg (by omega)]
theorem T.SM.step {a b : Nat} (hq : q < n) (ha : a < n) (hb : b < n) (h : T.SM n F q a b M) {s : Int} (hs : D.in64 (M a q + M q b) → s = M a q + M q b) : T.SM n F q a (b + 1) (T.mup M a b (Min.min (M a b) s)) := by
  rcases h with ⟨⟨x, hx, h1⟩, h2⟩ | ⟨M0, h1, h2, h3⟩
  · refine .inl ⟨⟨x, hx, ?_⟩, h2⟩
    unfold T.mup
    split
    · rename_i e
      obtain ⟨rfl, e2⟩ := e
      rw [← e2]
      omega
    · exact h1
  · have dq := h1.dg q hq
    have e1 : M a b = M0 a b := by rw [h3 a b ha hb, if_neg (by omega)]
    have e2 : M a q = M0 a q := by
      rw [h3 a q ha hq]
      split
      · omega
      · rfl
    have e3 : M q b = M0 q b := by
      rw [h3 q b hq hb]
      split
      · omega
      · rfl
    have b1 := h1.hi a q ha hq
    have b2 := h1.hi q b hq hb
    have b3 := h1.lo a q ha hq
    have b4 := h1.lo q b hq hb
    have es : s = M0 a q + M0 q b := by rw [hs (by rw [e2, e3]; unfold D.in64; omega), e2, e3]
    subst es
    refine .inr ⟨M0, h1, h2, fun x y hx hy => ?_⟩
    by_cases e : x = a ∧ y = b
    · obtain ⟨rfl, rfl⟩ := e
      rw [T.mup_at, if_pos (by omega), e1]
    · rw [T.mup_ne _ _ e, h3 x y hx hy]
      by_cases c : x < a ∨ (x = a ∧ y < b)
      · rw [if_pos c, if_pos (by omega)]
      · rw [if_neg c, if_neg (by omega)]
theorem T.SM.done (hq : q < n) (h : T.SM n F q n 0 M) : T.St n F (q + 1) M := by
  rcases h with h | ⟨M0, h1, h2, h3⟩
  · exact .inl h
  · have e : ∀ x y, x < n → y < n → M x y = Min.min (M0 x y) (M0 x q + M0 q y) := fun x y hx hy => by rw [h3 x y hx hy, if_pos (.inl hx)]
    have fe : ∀ y, F y ↔ T.MF n M y := fun y => by
      rw [h2]
      constructor
      · intro f a b ha hb
        have f1 := f a b ha hb
        have f2 := f a q ha hq
        have f3 := f q b hq hb
        rw [e a b ha hb]
        omega
      · intro f a b ha hb
        have f1 := f a b ha hb
        rw [e a b ha hb] at f1
        omega
    by_cases c : ∃ x, x < n ∧ M x x < 0
    · refine .inl ⟨c, fun y hy => ?_⟩
      obtain ⟨x, hx, h⟩ := c
      have := (fe y).1 hy x x hx hx
      omega
    · have dg : ∀ a, a < n → 0 ≤ M a a := fun a ha => by
        by_cases c' : 0 ≤ M a a
        · exact c'
        · exact absurd ⟨a, ha, by omega⟩ c
      have dq := h1.dg q hq
      have bq : ∀ a, a < n → -1099511627776 ≤ M0 a q ∧ -1099511627776 ≤ M0 q a := fun a ha => by
        have g := dg a ha
        rw [e a a ha ha] at g
        have u1 := h1.hi a q ha hq
        have u2 := h1.hi q a hq ha
        omega
      refine .inr ⟨⟨dg, fun a ha => by have := h1.dz a ha; rw [e a a ha ha]; omega, fun a b ha hb => ?_, fun a b ha hb => ?_, fun p hp a b ha hb => ?_⟩, fe⟩
      · have := h1.hi a b ha hb
        rw [e a b ha hb]
        omega
      · have := h1.lo a b ha hb
        have u1 := (bq a ha).1
        have u2 := (bq b hb).2
        rw [e a b ha hb]
        omega
      · by_cases hpq : p = q
        · subst hpq
          rw [e a b ha hb, e a p ha hq, e p b hq hb]
          omega
        · have hp' : p < q := by omega
          have hpn : p < n := by omega
          have t1 := h1.tri p hp' a b ha hb
          have t2 := h1.tri p hp' q b hq hb
          have t3 := h1.tri p hp' a q ha hq
          have t4 := h1.tri p hp' q q hq hq
          rw [e a b ha hb, e a p ha hpn, e p b hpn hb]
          omega
/-- at the end: the greatest that one can be above another one, which is so -/
theorem T.St.done (h : T.St n F n M) (hd : ∀ x, x < n → 0 ≤ M x x) : ∀ a b, a < n → b < n → (∀ y, F y → y a - y b ≤ M a b) ∧ ∃ y, F y ∧ y a - y b = M a b := by
  rcases h with ⟨⟨x, hx, h1⟩, _⟩ | ⟨h1, h2⟩
  · have := hd x hx
    omega
  · intro a b ha hb
    refine ⟨fun y hy => (h2 y).1 hy a b ha hb, ?_⟩
    -- what lies below the number b by as much as it can
    have ym : T.MF n M (fun x => M x b) := fun p q hp hq => by
      have := h1.tri q hq p b hp hb
      show M p b - M q b ≤ M p q
      omega
    have d := h1.dg b hb
    have d' := h1.dz b hb
    exact ⟨_, (h2 _).2 ym, by show M a b - M b b = M a b; omega⟩
/-- or there is none -/
theorem T.St.none (h : T.St n F n M) {x : Nat} (hx : x < n) (hd : M x x < 0) : ∀ y, ¬ F y := by
  rcases h with ⟨_, h⟩ | ⟨h1, _⟩
  · exact h
  · have := h1.dg x hx
    omega
end

end Go.Proofs.Ytonklhfpjooheaa

/- The matrix of a cellar, as the reference fills it, and what it says of truths. -/
namespace Go.Proofs.Ytonklhfpjooheaa
open Go.RowKit

structure T.Ini (n : Nat) (M : T.Mt) (C : (Nat → Int) → Prop) : Prop where
  dg : ∀ a, a < n → M a a = 0
  hi : ∀ a b, a < n → b < n → M a b ≤ 1099511627776
  lo : ∀ a b, a < n → b < n → -1000000 ≤ M a b
  is : ∀ y, T.MF n M y ↔ (∀ a b, a < n → b < n → y a - y b ≤ 1099511627776) ∧ C y
/-- what no place from a number on says anything of -/
def T.Fr (n t : Nat) (M : T.Mt) : Prop := ∀ x y, x < n → y < n → x ≠ y → (t < x ∨ t < y) → M x y = 1099511627776
def T.mt0 : T.Mt := fun x y => if x = y then 0 else 1099511627776
section
variable {n : Nat} {M : T.Mt} {C C' : (Nat → Int) → Prop}
theorem T.Ini.zero : T.Ini n T.mt0 (fun _ => True) where
  dg a _ := if_pos rfl
  hi a b _ _ := by unfold T.mt0; split <;> omega
  lo a b _ _ := by unfold T.mt0; split <;> omega
  is y := by
    constructor
    · intro h
      refine ⟨fun a b ha hb => ?_, trivial⟩
      have := h a b ha hb
      unfold T.mt0 at this
      split at this <;> omega
    · intro h a b ha hb
      have := h.1 a b ha hb
      unfold T.mt0
      split
      · rename_i e
        subst e
        omega
      · exact this
theorem T.fr0 : T.Fr n 0 T.mt0 := fun _ _ _ _ h _ => if_neg h
theorem T.Ini.congr (h : T.Ini n M C) (e : ∀ y, C y ↔ C' y) : T.Ini n M C' := ⟨h.dg, h.hi, h.lo, fun y => by rw [h.is, e]⟩
theorem T.Ini.min (h : T.Ini n M C) {a b : Nat} (ha : a < n) (hb : b < n) (hab : a ≠ b) {v : Int} (hv : -1000000 ≤ v) : T.Ini n (T.mup M a b (Min.min (M a b) v)) (fun y => C y ∧ y a - y b ≤ v) where
  dg c hc := by rw [T.mup_ne _ _ (fun e => hab (e.1.symm.trans e.2))]; exact h.dg c hc
  hi c d hc hd := by
    have := h.hi c d hc hd
    unfold T.mup
    split
    · rename_i e
      obtain ⟨rfl, rfl⟩ := e
      omega
    · exact this
  lo c d hc hd := by
    have := h.lo c d hc hd
    unfold T.mup
    split
    · rename_i e
      obtain ⟨rfl, rfl⟩ := e
      omega
    · exact this
  is y := by
    rw [T.MF.mup ha hb (by omega), h.is]
    constructor
    · intro ⟨⟨p, q⟩, r⟩
      exact ⟨p, q, by omega⟩
    · intro ⟨p, q, r⟩
      have := (h.is y).2 ⟨p, q⟩ a b ha hb
      exact ⟨⟨p, q⟩, by omega⟩
theorem T.Ini.put (h : T.Ini n M C) {a b : Nat} (ha : a < n) (hb : b < n) (hab : a ≠ b) {v : Int} (hv : -1000000 ≤ v) (hm : v ≤ M a b) : T.Ini n (T.mup M a b v) (fun y => C y ∧ y a - y b ≤ v) := by
  have := h.min ha hb hab hv
  rwa [show Min.min (M a b) v = v by omega] at this
theorem T.Fr.mup {t a b : Nat} (h : T.Fr n t M) (v : Int) (ha : a ≤ t) (hb : b ≤ t) : T.Fr n t (T.mup M a b v) := fun x y hx hy e c => by
  rw [T.mup_ne _ _ (fun q => by omega)]
  exact h x y hx hy e c
theorem T.Fr.mono {t t' : Nat} (h : T.Fr n t M) (ht : t ≤ t') : T.Fr n t' M := fun x y hx hy e c => h x y hx hy e (by omega)
theorem T.Ini.st (h : T.Ini n M C) : T.St n (fun y => (∀ a b, a < n → b < n → y a - y b ≤ 1099511627776) ∧ C y) 0 M :=
  .inr ⟨⟨fun a ha => by rw [h.dg a ha]; omega, fun a ha => by rw [h.dg a ha]; omega, h.hi, fun a b ha hb => by have := h.lo a b ha hb; omega, fun p hp => absurd hp (Nat.not_lt_zero p)⟩, fun y => (h.is y).symm⟩
end
/-- where a moment stands -/
def T.plc (H : Nat) (k h : Nat) : Nat := 1 + k * (H + 1) + h
section
variable {H : Nat} {rs : T.LR} {os : T.LO} {ps : T.LP}
/-- what is so of a moment -/
def T.cons (H : Nat) (rs : T.LR) (os : T.LO) (k h : Nat) (y : Nat → Int) : Prop :=
  (y (T.plc H k h) - y 0 ≤ 100000 ∧ y 0 - y (T.plc H k h) ≤ 100000) ∧ (0 < h → y (T.plc H k h) - y (T.plc H k h - 1) ≤ (T.grw rs os k ((h : Int) - 1)).2 ∧ y (T.plc H k h - 1) - y (T.plc H k h) ≤ -(T.grw rs os k ((h : Int) - 1)).1)
/-- of all moments before one -/
def T.upto (H : Nat) (rs : T.LR) (os : T.LO) (k h : Nat) (y : Nat → Int) : Prop := ∀ k' h', ((k' < k ∧ h' ≤ H) ∨ (k' = k ∧ h' < h)) → T.cons H rs os k' h' y
theorem T.upto_zero (y : Nat → Int) : True ↔ T.upto H rs os 0 0 y := ⟨fun _ k' h' q => by omega, fun _ => trivial⟩
theorem T.upto_next (k : Nat) (y : Nat → Int) : T.upto H rs os k (H + 1) y ↔ T.upto H rs os (k + 1) 0 y := by
  constructor
  · intro h k' h' q
    exact h k' h' (by omega)
  · intro h k' h' q
    exact h k' h' (by omega)
theorem T.upto_step (k h : Nat) (y : Nat → Int) : T.upto H rs os k (h + 1) y ↔ T.upto H rs os k h y ∧ T.cons H rs os k h y := by
  constructor
  · intro q
    exact ⟨fun k' h' c => q k' h' (by omega), q k h (by omega)⟩
  · intro ⟨q, r⟩ k' h' c
    by_cases e : k' = k ∧ h' = h
    · obtain ⟨rfl, rfl⟩ := e
      exact r
    · exact q k' h' (by omega)
theorem T.plc_lt {k h nR : Nat} (hk : k < nR) (hh : h ≤ H) : T.plc H k h < 1 + nR * (H + 1) := by
  have : (k + 1) * (H + 1) ≤ nR * (H + 1) := Nat.mul_le_mul_right _ hk
  rw [Nat.succ_mul] at this
  unfold T.plc
  omega
theorem T.plc_inj {k h k' h' : Nat} (hh : h ≤ H) (hh' : h' ≤ H) (e : T.plc H k h = T.plc H k' h') : k = k' ∧ h = h' := by
  unfold T.plc at e
  have a : k = k' := by
    have e1 : (k * (H + 1) + h) / (H + 1) = k := by rw [Nat.mul_comm, Nat.mul_add_div (by omega), Nat.div_eq_of_lt (by omega), Nat.add_zero]
    have e2 : (k' * (H + 1) + h') / (H + 1) = k' := by rw [Nat.mul_comm, Nat.mul_add_div (by omega), Nat.div_eq_of_lt (by omega), Nat.add_zero]
    rw [← e1, ← e2]
    congr 1
    omega
  subst a
  exact ⟨rfl, by omega⟩
/-- a moment more, the first hour -/
theorem T.Ini.hour0 {n : Nat} {M : T.Mt} {k : Nat} (hi : T.Ini n M (T.upto H rs os k 0)) (hf : T.Fr n (T.plc H k 0 - 1) M) (hn : T.plc H k 0 < n) :
    T.Ini n (T.mup (T.mup M (T.plc H k 0) 0 100000) 0 (T.plc H k 0) 100000) (T.upto H rs os k 1) ∧ T.Fr n (T.plc H k 0) (T.mup (T.mup M (T.plc H k 0) 0 100000) 0 (T.plc H k 0) 100000) := by
  have h0 : 0 < T.plc H k 0 := by unfold T.plc; omega
  have f1 := hf (T.plc H k 0) 0 hn (by omega) (by omega) (by omega)
  have f2 := hf 0 (T.plc H k 0) (by omega) hn (by omega) (by omega)
  have a := hi.put hn (show 0 < n by omega) (by omega) (v := 100000) (by omega) (by omega)
  have b := a.put (show 0 < n by omega) hn (by omega) (v := 100000) (by omega) (by rw [T.mup_ne _ _ (by omega)]; omega)
  refine ⟨b.congr fun y => ?_, ((hf.mono (by omega)).mup _ (Nat.le_refl _) (by omega)).mup _ (by omega) (Nat.le_refl _)⟩
  rw [T.upto_step]
  unfold T.cons
  exact ⟨fun ⟨⟨p, q⟩, r⟩ => ⟨p, ⟨q, r⟩, fun c => absurd c (by omega)⟩, fun ⟨p, ⟨q, r⟩, _⟩ => ⟨⟨p, q⟩, r⟩⟩
/-- a later hour -/
theorem T.Ini.hour {n : Nat} {M : T.Mt} {k h : Nat} (hh : 0 < h) (hi : T.Ini n M (T.upto H rs os k h)) (hf : T.Fr n (T.plc H k h - 1) M) (hn : T.plc H k h < n) {lo up : Int} (hl : (T.grw rs os k ((h : Int) - 1)).1 = lo) (hu : (T.grw rs os k ((h : Int) - 1)).2 = up) (bl : -1000000 ≤ lo ∧ lo ≤ 1000000) (bu : -1000000 ≤ up ∧ up ≤ 1000000) :
    T.Ini n (T.mup (T.mup (T.mup (T.mup M (T.plc H k h) 0 100000) 0 (T.plc H k h) 100000) (T.plc H k h) (T.plc H k h - 1) up) (T.plc H k h - 1) (T.plc H k h) (-lo)) (T.upto H rs os k (h + 1)) ∧ T.Fr n (T.plc H k h) (T.mup (T.mup (T.mup (T.mup M (T.plc H k h) 0 100000) 0 (T.plc H k h) 100000) (T.plc H k h) (T.plc H k h - 1) up) (T.plc H k h - 1) (T.plc H k h) (-lo)) := by
  have h0 : 1 < T.plc H k h := by unfold T.plc; omega
  have f1 := hf (T.plc H k h) 0 hn (by omega) (by omega) (by omega)
  have f2 := hf 0 (T.plc H k h) (by omega) hn (by omega) (by omega)
  have f3 := hf (T.plc H k h) (T.plc H k h - 1) hn (by omega) (by omega) (by omega)
  have f4 := hf (T.plc H k h - 1) (T.plc H k h) (by omega) hn (by omega) (by omega)
  have a := hi.put hn (show 0 < n by omega) (by omega) (v := 100000) (by omega) (by omega)
  have b := a.put (show 0 < n by omega) hn (by omega) (v := 100000) (by omega) (by rw [T.mup_ne _ _ (by omega)]; omega)
  have c := b.put hn (show T.plc H k h - 1 < n by omega) (by omega) (v := up) (by omega) (by rw [T.mup_ne _ _ (by omega), T.mup_ne _ _ (by omega)]; omega)
  have d := c.put (show T.plc H k h - 1 < n by omega) hn (by omega) (v := -lo) (by omega) (by rw [T.mup_ne _ _ (by omega), T.mup_ne _ _ (by omega), T.mup_ne _ _ (by omega)]; omega)
  refine ⟨d.congr fun y => ?_, ((((hf.mono (by omega)).mup _ (Nat.le_refl _) (by omega)).mup _ (by omega) (Nat.le_refl _)).mup _ (Nat.le_refl _) (by omega)).mup _ (by omega) (Nat.le_refl _)⟩
  rw [T.upto_step]
  unfold T.cons
  rw [hl, hu]
  exact ⟨fun ⟨⟨⟨⟨p, q⟩, r⟩, s⟩, t⟩ => ⟨p, ⟨q, r⟩, fun _ => ⟨s, t⟩⟩, fun ⟨p, ⟨q, r⟩, c⟩ => ⟨⟨⟨⟨p, q⟩, r⟩, (c hh).1⟩, (c hh).2⟩⟩
/-- where the other clock of a comparison stands -/
def T.plO (H : Nat) (x : Int × Int × Int × Int × Int) : Nat := if x.2.2.1 < 0 then 0 else T.plc H x.2.2.1.toNat x.1.toNat
def T.plA (H : Nat) (x : Int × Int × Int × Int × Int) : Nat := T.plc H x.2.1.toNat x.1.toNat
/-- what a comparison says, if its clocks are not left out -/
def T.says (H : Nat) (s : Nat → Bool) (x : Int × Int × Int × Int × Int) (y : Nat → Int) : Prop :=
  T.has (s 0) (s 1) (s 2) (s 3) (s 4) x.2.1 = false → T.has (s 0) (s 1) (s 2) (s 3) (s 4) x.2.2.1 = false → y (T.plA H x) - y (T.plO H x) ≤ x.2.2.2.2 ∧ y (T.plO H x) - y (T.plA H x) ≤ -x.2.2.2.1
def T.allOf (H : Nat) (rs : T.LR) (os : T.LO) (s : Nat → Bool) (ps : T.LP) (y : Nat → Int) : Prop := T.upto H rs os rs.length 0 y ∧ ∀ x ∈ ps, T.says H s x y
theorem T.allOf_step {s : Nat → Bool} {j : Nat} (hj : j < ps.length) (y : Nat → Int) : T.allOf H rs os s (ps.take (j + 1)) y ↔ T.allOf H rs os s (ps.take j) y ∧ T.says H s (ps.getD j (0, 0, 0, 0, 0)) y := by
  have e : ps.take (j + 1) = ps.take j ++ [ps.getD j (0, 0, 0, 0, 0)] := by
    rw [List.take_add_one, List.getElem?_eq_getElem hj, List.getD_eq_getElem?_getD, List.getElem?_eq_getElem hj]
    rfl
  unfold T.allOf
  rw [e]
  constructor
  · intro ⟨p, q⟩
    exact ⟨⟨p, fun x hx => q x (List.mem_append_left _ hx)⟩, q _ (List.mem_append_right _ List.mem_cons_self)⟩
  · intro ⟨⟨p, q⟩, r⟩
    refine ⟨p, fun x hx => ?_⟩
    rcases List.mem_append.1 hx with hx | hx
    · exact q x hx
    · rw [List.mem_singleton.1 hx]
      exact r
/-- the places of the moments: back -/
def T.mom (H : Nat) (a : Nat) : Int × Int := if a = 0 then (-1, 0) else ((((a - 1) / (H + 1) : Nat) : Int), (((a - 1) % (H + 1) : Nat) : Int))
def T.ml (H : Nat) (m : Int × Int) : Nat := if m.1 < 0 then 0 else T.plc H m.1.toNat m.2.toNat
theorem T.mom_plc {k h : Nat} (hh : h ≤ H) : T.mom H (T.plc H k h) = ((k : Int), (h : Int)) := by
  unfold T.mom T.plc
  rw [if_neg (by omega)]
  have e1 : (1 + k * (H + 1) + h - 1) / (H + 1) = k := by rw [show 1 + k * (H + 1) + h - 1 = (H + 1) * k + h by rw [Nat.mul_comm]; omega, Nat.mul_add_div (by omega), Nat.div_eq_of_lt (by omega), Nat.add_zero]
  have e2 : (1 + k * (H + 1) + h - 1) % (H + 1) = h := by rw [show 1 + k * (H + 1) + h - 1 = (H + 1) * k + h by rw [Nat.mul_comm]; omega, Nat.mul_add_mod, Nat.mod_eq_of_lt (by omega)]
  rw [e1, e2]
theorem T.tr_all (G : T.Good H rs os ps) {s : Nat → Bool} {y : Int × Int → Int} (h : T.Tru H rs os ps (s 0) (s 1) (s 2) (s 3) (s 4) y) : (∀ a b, a < 1 + rs.length * (H + 1) → b < 1 + rs.length * (H + 1) → y (T.mom H a) - y (T.mom H b) ≤ 1099511627776) ∧ T.allOf H rs os s ps (fun a => y (T.mom H a)) := by
  have bd : ∀ a, a < 1 + rs.length * (H + 1) → -100000 ≤ y (T.mom H a) - y (-1, 0) ∧ y (T.mom H a) - y (-1, 0) ≤ 100000 := fun a ha => by
    unfold T.mom
    split
    · omega
    · rename_i e
      have q := h.lim (((a - 1) / (H + 1) : Nat) : Int) (((a - 1) % (H + 1) : Nat) : Int) (Int.natCast_nonneg _) (Int.ofNat_lt.2 (Nat.div_lt_of_lt_mul (by rw [Nat.mul_comm]; omega))) (Int.natCast_nonneg _) (Int.ofNat_le.2 (by have := Nat.mod_lt (a - 1) (show 0 < H + 1 by omega); omega))
      exact q
  refine ⟨fun a b ha hb => by have := bd a ha; have := bd b hb; omega, fun k h' c => ?_, fun x hx c1 c2 => ?_⟩
  · have hk : k < rs.length ∧ h' ≤ H := by omega
    have e0 : T.mom H 0 = (-1, 0) := rfl
    unfold T.cons
    simp only [T.mom_plc hk.2, e0]
    have q := h.lim (k : Int) (h' : Int) (by omega) (by omega) (by omega) (by omega)
    unfold T.In at q
    simp only at q
    refine ⟨by omega, fun c => ?_⟩
    have e1 : T.plc H k h' - 1 = T.plc H k (h' - 1) := by unfold T.plc; omega
    rw [e1, T.mom_plc (show h' - 1 ≤ H by omega)]
    have r := h.grow (k : Int) ((h' : Int) - 1) (by omega) (by omega) (by omega) (by omega)
    rw [show (h' : Int) - 1 + 1 = (h' : Int) by omega] at r
    rw [show (((h' - 1 : Nat) : Int)) = (h' : Int) - 1 by omega]
    unfold T.In at r
    omega
  · have q := h.cmp x hx c1 c2
    obtain ⟨⟨g1, g2⟩, ⟨g3, g4⟩, ⟨g5, g6⟩, _⟩ := G.psB x hx
    have ea : T.mom H (T.plA H x) = (x.2.1, x.1) := by
      unfold T.plA
      rw [T.mom_plc (by omega)]
      rw [Int.toNat_of_nonneg g3, Int.toNat_of_nonneg g1]
    have eo : T.mom H (T.plO H x) = (x.2.2.1, if x.2.2.1 = -1 then 0 else x.1) := by
      unfold T.plO
      by_cases c : x.2.2.1 < 0
      · have e : x.2.2.1 = -1 := by omega
        rw [if_pos c, if_pos e, e]
        rfl
      · rw [if_neg c, if_neg (by omega), T.mom_plc (by omega), Int.toNat_of_nonneg g1, Int.toNat_of_nonneg (by omega)]
    simp only [ea, eo]
    unfold T.In at q
    omega
theorem T.all_tr (G : T.Good H rs os ps) {s : Nat → Bool} {y : Nat → Int} (h : T.allOf H rs os s ps y) : T.Tru H rs os ps (s 0) (s 1) (s 2) (s 3) (s 4) (fun m => y (T.ml H m)) := by
  have em : ∀ k m : Int, 0 ≤ k → T.ml H (k, m) = T.plc H k.toNat m.toNat := fun k m hk => by
    unfold T.ml
    rw [if_neg (by show ¬ k < 0; omega)]
  have e0 : T.ml H (-1, 0) = 0 := rfl
  refine ⟨fun k m a b c d => ?_, fun k m a b c d => ?_, fun x hx c1 c2 => ?_⟩
  · have q := (h.1 k.toNat m.toNat (by omega)).1
    show T.In _ (y (T.ml H (k, m)) - y (T.ml H (-1, 0)))
    rw [em k m a, e0]
    unfold T.In
    simp only
    omega
  · have q := (h.1 k.toNat (m + 1).toNat (by omega)).2 (by omega)
    have e1 : T.plc H k.toNat (m + 1).toNat - 1 = T.plc H k.toNat m.toNat := by unfold T.plc; omega
    rw [e1, show (((m + 1).toNat : Nat) : Int) - 1 = m by omega, Int.toNat_of_nonneg a] at q
    show T.In _ (y (T.ml H (k, m + 1)) - y (T.ml H (k, m)))
    rw [em k _ a, em k _ a]
    unfold T.In
    omega
  · have q := h.2 x hx c1 c2
    obtain ⟨⟨g1, g2⟩, ⟨g3, g4⟩, ⟨g5, g6⟩, _⟩ := G.psB x hx
    have ea : T.ml H (x.2.1, x.1) = T.plA H x := em _ _ g3
    have eo : T.ml H (x.2.2.1, if x.2.2.1 = -1 then 0 else x.1) = T.plO H x := by
      unfold T.plO
      by_cases c : x.2.2.1 < 0
      · have e : x.2.2.1 = -1 := by omega
        rw [if_pos c, e]
        rfl
      · rw [if_neg c, if_neg (by omega)]
        exact em _ _ (by omega)
    show T.In _ (y (T.ml H (x.2.1, x.1)) - y (T.ml H (x.2.2.1, if x.2.2.1 = -1 then 0 else x.1)))
    rw [ea, eo]
    unfold T.In
    omega
theorem T.ml_mom (a : Nat) : T.ml H (T.mom H a) = a := by
  unfold T.mom
  split
  · rename_i e
    rw [e]
    rfl
  · rename_i e
    unfold T.ml T.plc
    rw [if_neg (Int.not_lt.2 (Int.natCast_nonneg _))]
    have := Nat.div_add_mod (a - 1) (H + 1)
    rw [Nat.mul_comm] at this
    simp only [Int.toNat_natCast]
    omega
theorem T.mom_ml {m : Int × Int} (hm : m ∈ T.moms rs.length H) : T.mom H (T.ml H m) = m := by
  obtain ⟨k, h⟩ := m
  rcases T.mem_moms.1 hm with ⟨rfl, rfl⟩ | ⟨⟨a, b⟩, c, d⟩
  · rfl
  · unfold T.ml
    rw [if_neg (by show ¬ k < 0; omega)]
    show T.mom H (T.plc H k.toNat h.toNat) = (k, h)
    rw [T.mom_plc (by omega), Int.toNat_of_nonneg a, Int.toNat_of_nonneg c]
theorem T.ml_lt {m : Int × Int} (hm : m ∈ T.moms rs.length H) : T.ml H m < 1 + rs.length * (H + 1) := by
  obtain ⟨k, h⟩ := m
  rcases T.mem_moms.1 hm with ⟨rfl, rfl⟩ | ⟨⟨a, b⟩, c, d⟩
  · show 0 < _; omega
  · unfold T.ml
    rw [if_neg (by show ¬ k < 0; omega)]
    exact T.plc_lt (by show k.toNat < _; omega) (by show h.toNat ≤ _; omega)
/-- the greatest differences are those of the truths -/
theorem T.most_is (G : T.Good H rs os ps) {s : Nat → Bool} {M : T.Mt} (h : T.St (1 + rs.length * (H + 1)) (fun y => (∀ a b, a < 1 + rs.length * (H + 1) → b < 1 + rs.length * (H + 1) → y a - y b ≤ 1099511627776) ∧ T.allOf H rs os s ps y) (1 + rs.length * (H + 1)) M) (hd : ∀ x, x < 1 + rs.length * (H + 1) → 0 ≤ M x x) {m1 m2 : Int × Int} (h1 : m1 ∈ T.moms rs.length H) (h2 : m2 ∈ T.moms rs.length H) :
    (∀ y, T.Tru H rs os ps (s 0) (s 1) (s 2) (s 3) (s 4) y → y m1 - y m2 ≤ M (T.ml H m1) (T.ml H m2)) ∧ ∃ y, T.Tru H rs os ps (s 0) (s 1) (s 2) (s 3) (s 4) y ∧ y m1 - y m2 = M (T.ml H m1) (T.ml H m2) := by
  obtain ⟨p, y, hy, e⟩ := h.done hd (T.ml H m1) (T.ml H m2) (T.ml_lt h1) (T.ml_lt h2)
  constructor
  · intro z hz
    have := p _ (T.tr_all G hz)
    simp only [T.mom_ml h1, T.mom_ml h2] at this
    exact this
  · exact ⟨_, T.all_tr G hy.2, e⟩
theorem T.most_none (G : T.Good H rs os ps) {s : Nat → Bool} {M : T.Mt} (h : T.St (1 + rs.length * (H + 1)) (fun y => (∀ a b, a < 1 + rs.length * (H + 1) → b < 1 + rs.length * (H + 1) → y a - y b ≤ 1099511627776) ∧ T.allOf H rs os s ps y) (1 + rs.length * (H + 1)) M) {x : Nat} (hx : x < 1 + rs.length * (H + 1)) (hd : M x x < 0) : ∀ y, ¬ T.Tru H rs os ps (s 0) (s 1) (s 2) (s 3) (s 4) y :=
  fun _ hy => h.none hx hd _ (T.tr_all G hy)
end

end Go.Proofs.Ytonklhfpjooheaa

/- A matrix of numbers in memory, a block a row. -/
namespace Go.Proofs.Ytonklhfpjooheaa
open Go.RowKit

/-- the first k rows of a matrix, each in a block of its own -/
structure T.Mx (w : World) (g N : Nat) (rw : Nat → Nat) (M : T.Mt) (k : Nat) : Prop where
  top : ∃ cs, mblk w g = some (.cells cs 44 (0, 0)) ∧ cs.size = N ∧ ∀ a, a < k → cs[a]? = some (.slice (some ⟨rw a, 0, none⟩) N N)
  row : ∀ a, a < k → ∃ cs, mblk w (rw a) = some (.cells cs 3 (0, 0)) ∧ cs.size = N ∧ ∀ b, b < N → cs[b]? = some (.int .i64 (M a b))
  inj : ∀ a b, a < k → b < k → rw a = rw b → a = b
section
variable {w w' : World} {g N k : Nat} {rw : Nat → Nat} {M M' : T.Mt}
theorem T.Mx.up (h : T.Mx w g N rw M k) (u : Up w w') : T.Mx w' g N rw M k where
  top := by
    obtain ⟨cs, h1, h2⟩ := h.top
    exact ⟨cs, u.blk h1, h2⟩
  row a ha := by
    obtain ⟨cs, h1, h2⟩ := h.row a ha
    exact ⟨cs, u.blk h1, h2⟩
  inj := h.inj
theorem T.Mx.congr (h : T.Mx w g N rw M k) (e : ∀ a b, a < k → b < N → M a b = M' a b) : T.Mx w g N rw M' k where
  top := h.top
  row a ha := by
    obtain ⟨cs, h1, h2, h3⟩ := h.row a ha
    exact ⟨cs, h1, h2, fun b hb => by rw [h3 b hb, e a b ha hb]⟩
  inj := h.inj
theorem T.Mx.cell1 (h : T.Mx w g N rw M k) {a : Nat} (ha : a < k) : w.cell? ⟨g, a, none⟩ = some (.slice (some ⟨rw a, 0, none⟩) N N) := by
  obtain ⟨cs, h1, _, h2⟩ := h.top
  rw [cellB h1, h2 a ha]
theorem T.Mx.cell2 (h : T.Mx w g N rw M k) {a b : Nat} (ha : a < k) (hb : b < N) : w.cell? ⟨rw a, b, none⟩ = some (.int .i64 (M a b)) := by
  obtain ⟨cs, h1, _, h2⟩ := h.row a ha
  rw [cellB h1, h2 b hb]
theorem T.Mx.froz (h : T.Mx w g N rw M k) {a : Nat} (ha : a < k) (b : Nat) : w.frozen? ⟨rw a, b, none⟩ = false := by
  obtain ⟨cs, h1, _, _⟩ := h.row a ha
  exact frozB h1 b
theorem T.Mx.frozG (h : T.Mx w g N rw M k) (b : Nat) : w.frozen? ⟨g, b, none⟩ = false := by
  obtain ⟨cs, h1, _, _⟩ := h.top
  exact frozB h1 b
theorem T.Mx.cellG (h : T.Mx w g N rw M k) {b : Nat} (hb : b < N) : ∃ v, w.cell? ⟨g, b, none⟩ = some v := by
  obtain ⟨cs, h1, h2, _⟩ := h.top
  rw [cellB h1]
  exact ⟨cs[b]'(by omega), by simp [h2, hb]⟩
theorem T.Mx.lt (h : T.Mx w g N rw M k) {a : Nat} (ha : a < k) : rw a < w.heap.size := by
  obtain ⟨cs, h1, _, _⟩ := h.row a ha
  exact blk_lt h1
theorem T.Mx.ne (h : T.Mx w g N rw M k) {a : Nat} (ha : a < k) : g ≠ rw a := fun e => by
  obtain ⟨cs, h1, _, _⟩ := h.row a ha
  obtain ⟨cs', h2, _, _⟩ := h.top
  rw [e, h1] at h2
  cases h2
/-- a cell is written anew -/
theorem T.Mx.put (h : T.Mx w g N rw M k) {a b : Nat} (ha : a < k) (v : Int) : T.Mx (w.setCell ⟨rw a, b, none⟩ (.int .i64 v)) g N rw (T.mup M a b v) k where
  top := by
    obtain ⟨cs, h1, h2⟩ := h.top
    exact ⟨cs, by rw [blk_set _ _ _ _ (h.ne ha)]; exact h1, h2⟩
  row c hc := by
    obtain ⟨cs, h1, h2, h3⟩ := h.row c hc
    by_cases e : c = a
    · subst e
      refine ⟨cs.setIfInBounds b (.int .i64 v), blk_put h1 b _, by rw [Array.size_setIfInBounds]; exact h2, fun d hd => ?_⟩
      by_cases e2 : d = b
      · subst e2
        rw [T.mup_at, Array.getElem?_setIfInBounds_self_of_lt (by omega)]
      · rw [T.mup_ne _ _ (fun q => e2 q.2), Array.getElem?_setIfInBounds_ne (fun q => e2 q.symm)]
        exact h3 d hd
    · refine ⟨cs, by rw [blk_set _ _ _ _ (fun q => e (h.inj c a hc ha q))]; exact h1, h2, fun d hd => ?_⟩
      rw [T.mup_ne _ _ (fun q => e q.1)]
      exact h3 d hd
  inj := h.inj
/-- a row more -/
theorem T.Mx.add {cs : Array Value} {q : Nat} (h : T.Mx w g N rw M k) (hk : k < N) (hq : mblk w q = some (.cells cs 3 (0, 0))) (hs : cs.size = N) (hc : ∀ b, b < N → cs[b]? = some (.int .i64 (M' k b))) (hn : ∀ a, a < k → rw a ≠ q) (he : ∀ a b, a < k → b < N → M a b = M' a b) :
    T.Mx (w.setCell ⟨g, k, none⟩ (.slice (some ⟨q, 0, none⟩) N N)) g N (fun a => if a = k then q else rw a) M' (k + 1) where
  top := by
    obtain ⟨ct, h1, h2, h3⟩ := h.top
    refine ⟨ct.setIfInBounds k (.slice (some ⟨q, 0, none⟩) N N), blk_put h1 k _, by rw [Array.size_setIfInBounds]; exact h2, fun a ha => ?_⟩
    by_cases e : a = k
    · subst e
      rw [if_pos rfl, Array.getElem?_setIfInBounds_self_of_lt (by omega)]
    · rw [if_neg e, Array.getElem?_setIfInBounds_ne (fun x => e x.symm)]
      exact h3 a (by omega)
  row a ha := by
    by_cases e : a = k
    · subst e
      rw [if_pos rfl]
      refine ⟨cs, ?_, hs, hc⟩
      rw [blk_set _ _ _ _ (fun x => by
        obtain ⟨ct, h1, _⟩ := h.top
        have x' : q = g := x
        rw [← x', hq] at h1
        cases h1)]
      exact hq
    · rw [if_neg e]
      obtain ⟨ct, h1, h2, h3⟩ := h.row a (by omega)
      refine ⟨ct, ?_, h2, fun b hb => by rw [h3 b hb, he a b (by omega) hb]⟩
      rw [blk_set _ _ _ _ (fun x => h.ne (show a < k by omega) x.symm)]
      exact h1
  inj a b ha hb e := by
    by_cases e1 : a = k
    · by_cases e2 : b = k
      · omega
      · simp only [e1, e2, if_true, if_false] at e
        exact absurd e.symm (hn b (by omega))
    · by_cases e2 : b = k
      · simp only [e1, e2, if_true, if_false] at e
        exact absurd e (hn a (by omega))
      · simp only [e1, e2, if_false] at e
        exact h.inj a b (by omega) (by omega) e
end
/-- a row that is being filled -/
def T.mtk (k b : Nat) : T.Mt := fun x y => if x = k ∧ b ≤ y then 0 else T.mt0 x y
theorem T.mtk_0 (k x y : Nat) (h : x < k) : T.mt0 x y = T.mtk k 0 x y := by
  unfold T.mtk
  rw [if_neg (by omega)]
theorem T.mtk_self (k : Nat) (y : Nat) : T.mtk k k k k = 0 ∧ T.mtk k (k + 1) k k = 0 ∧ T.mtk k 0 k y = 0 := by
  refine ⟨if_pos ⟨rfl, Nat.le_refl _⟩, ?_, if_pos ⟨rfl, Nat.zero_le _⟩⟩
  unfold T.mtk T.mt0
  rw [if_neg (by omega), if_pos rfl]
theorem T.mtk_same {k : Nat} (x y : Nat) : T.mtk k k x y = T.mtk k (k + 1) x y := by
  by_cases e : x = k ∧ y = k
  · obtain ⟨rfl, rfl⟩ := e
    rw [(T.mtk_self _ 0).1, (T.mtk_self _ 0).2.1]
  · unfold T.mtk
    by_cases c : x = k ∧ k ≤ y
    · rw [if_pos c, if_pos (by omega)]
    · rw [if_neg c, if_neg (by omega)]
theorem T.mtk_put {k b : Nat} (hb : b ≠ k) (x y : Nat) : T.mup (T.mtk k b) k b 1099511627776 x y = T.mtk k (b + 1) x y := by
  by_cases e : x = k ∧ y = b
  · obtain ⟨rfl, rfl⟩ := e
    rw [T.mup_at]
    unfold T.mtk T.mt0
    rw [if_neg (by omega), if_neg (by omega)]
  · rw [T.mup_ne _ _ e]
    unfold T.mtk
    by_cases c : x = k ∧ b ≤ y
    · rw [if_pos c, if_pos (by omega)]
    · rw [if_neg c, if_neg (by omega)]
theorem T.mtk_end {k N x y : Nat} (hy : y < N) : T.mtk k N x y = T.mt0 x y := by
  unfold T.mtk
  rw [if_neg (by omega)]
theorem T.zcell (n b : Nat) (h : b < n) : (madeCells (Value.cells (.int .i64 0)) (n * 1))[b]? = some (.int .i64 0) := by
  have e := toList_madeCells_one (.int .i64 0) (n * 1)
  rw [← Array.getElem?_toList]
  show (madeCells #[.int .i64 0] (n * 1)).toList[b]? = _
  rw [e, List.getElem?_replicate, if_pos (by omega)]
theorem T.zsize (z : Array Value) (n : Nat) : (madeCells z (n * 1)).size = n := by rw [size_madeCells, Nat.mul_one]

end Go.Proofs.Ytonklhfpjooheaa

/- The contracts of the reference's place and grows. -/
namespace Go.Proofs.Ytonklhfpjooheaa
open Go.RowKit Go.Shelf
attribute [local go_sem] Oper.semAt_some

section
variable {aR aO aP : Option Addr} {H nR cR nO cO nP cP : Nat} {rs : T.LR} {os : T.LO} {ps : T.LP}
set_option maxRecDepth 100000 in
theorem r_place_any (w : World) {R O P : Value} {k h : Nat} (h1 : H ≤ 12) (h2 : k ≤ 5) (h3 : h ≤ 12) : Calls Try.prog 79 #[ClV H R O P, .int .i64 (k : Int), .int .i64 (h : Int)] w fun e w' => e = .returned (.int .i64 ((T.plc H k h : Nat) : Int)) ∧ Up w w' := by
  have U := (Up.refl w).alloc (.cells #[.int .i64 H, R, O, P] 26)
  have kC := blk_new w (.cells #[.int .i64 H, R, O, P] 26) _ rfl
  have d : decide ((k : Int) < 0) = false := decide_eq_false (by omega)
  have m : (k : Int) * ((H : Int) + 1) = ((k * (H + 1) : Nat) : Int) := by rw [Int.natCast_mul]; rfl
  have hm : k * (H + 1) ≤ 65 := by
    have := Nat.mul_le_mul h2 (show H + 1 ≤ 13 by omega)
    omega
  have w1 : IntKind.i64.wrap ((H : Int) + 1) = (H : Int) + 1 := IntWalk.i64_in _ (by omega)
  have w2 : IntKind.i64.wrap ((k : Int) * ((H : Int) + 1)) = ((k * (H + 1) : Nat) : Int) := by rw [m]; exact IntWalk.i64_in _ (by omega)
  obtain ⟨x, hx⟩ : ∃ x, k * (H + 1) = x := ⟨_, rfl⟩
  rw [hx] at w2 hm
  have w3 : IntKind.i64.wrap (1 + (x : Int)) = 1 + (x : Int) := IntWalk.i64_in _ (by omega)
  have w4 : IntKind.i64.wrap (1 + (x : Int) + (h : Int)) = 1 + (x : Int) + (h : Int) := IntWalk.i64_in _ (by omega)
  have e : ((T.plc H k h : Nat) : Int) = 1 + (x : Int) + (h : Int) := by unfold T.plc; rw [hx]; omega
  rw [e]
  clear e hx m
  go_enter Try.func79, Try.ntmps79
  go_wp2
  go_ret
  exact ⟨rfl, U⟩
set_option maxRecDepth 100000 in
theorem r_place_0 (w : World) {R O P : Value} {h : Int} : Calls Try.prog 79 #[ClV H R O P, .int .i64 (-1), .int .i64 h] w fun e w' => e = .returned (.int .i64 0) ∧ Up w w' := by
  have U := (Up.refl w).alloc (.cells #[.int .i64 H, R, O, P] 26)
  have d : decide ((-1 : Int) < 0) = true := by decide
  go_enter Try.func79, Try.ntmps79
  go_wp2
  go_ret
  exact ⟨rfl, U⟩
set_option maxRecDepth 100000 in
set_option maxHeartbeats 4000000 in
set_option linter.unusedSimpArgs false in
theorem r_grows_any {w : World} (G : T.Good H rs os ps) {k h : Nat} (hk : k < rs.length) (I : Sps w (.slice aR nR cR) rs) (IO : Ops w (.slice aO nO cO) os) :
    Calls Try.prog 48 #[ClV H (.slice aR nR cR) (.slice aO nO cO) (.slice aP nP cP), .int .i64 (k : Int), .int .i64 (h : Int)] w fun e w' => e = .returned (SpV (T.grw rs os k h).1 (T.grw rs os k h).2) ∧ Up w w' := by
  have hn := I.len
  subst hn
  have hno := IO.len
  subst hno
  have q2 := G.r2
  have q5 := G.o6
  obtain ⟨a', c', e', _, _, hm⟩ := I.is
  injection e' with ea eb ec
  clear eb ec
  obtain ⟨gR, oR, ga, glR, hxR⟩ := hm (by omega)
  subst ea ga
  clear hm
  have hgb := fun j hj => T.gto_bd G (k : Int) (h : Int) (show (k : Int).toNat < rs.length from hk) j hj
  obtain ⟨s0, hs0⟩ : ∃ x, (T.gto rs os k h 0).1 = x := ⟨_, rfl⟩
  obtain ⟨s1, hs1⟩ : ∃ x, (T.gto rs os k h 0).2 = x := ⟨_, rfl⟩
  have HO := Lib.hid (fun w' (u : Up w w') => IO.up u)
  have HTo := Lib.hid (fun l h w => B_To_any l h w)
  have HB := Lib.hid hgb
  have HG := Lib.hid G
  have HS01 := Lib.hid (And.intro hs0.symm hs1.symm)
  have c0 : w.cell? ⟨gR, oR + k * 2, none⟩ = some (.int .i64 s0) := by rw [← hs0]; exact hxR k hk 0 (by omega)
  have c1 : w.cell? ⟨gR, oR + k * 2 + 1, none⟩ = some (.int .i64 s1) := by rw [← hs1]; exact hxR k hk 1 (by omega)
  have ilk : (k : Int) < (rs.length : Int) := by omega
  have Uc := ((Up.refl w).alloc (.cells #[.int .i64 H, .slice (some ⟨gR, oR, none⟩) rs.length cR, .slice aO os.length cO, .slice aP nP cP] 26)).alloc (.cells #[.int .i64 0, .int .i64 0] 34)
  have d0 := Uc.cell2 c0
  have d1 := Uc.cell2 c1
  clear hgb hxR hs0 hs1 G I IO
  go_enter Try.func48, Try.ntmps48
  obtain ⟨q0, e0⟩ : ∃ x, w.heap.size = x := ⟨_, rfl⟩
  have U := (((Up.refl w).alloc (.cells #[.int .i64 H, .slice (some ⟨gR, oR, none⟩) rs.length cR, .slice aO os.length cO, .slice aP nP cP] 26)).alloc (.cells #[.int .i64 0, .int .i64 0] 34)).alloc (.cells #[.int .i64 s0, .int .i64 s1] 34)
  have kC := blk_keep (.cells #[.int .i64 s0, .int .i64 s1] 34) (blk_keep (.cells #[.int .i64 0, .int .i64 0] 34) (blk_new w (.cells #[.int .i64 H, .slice (some ⟨gR, oR, none⟩) rs.length cR, .slice aO os.length cO, .slice aP nP cP] 26) q0 e0.symm))
  have kZ := blk_keep (.cells #[.int .i64 s0, .int .i64 s1] 34) (blk_new (w.alloc (.cells #[.int .i64 H, .slice (some ⟨gR, oR, none⟩) rs.length cR, .slice aO os.length cO, .slice aP nP cP] 26)) (.cells #[.int .i64 0, .int .i64 0] 34) (q0 + 1) (by simp [e0]))
  have ks := blk_new ((w.alloc (.cells #[.int .i64 H, .slice (some ⟨gR, oR, none⟩) rs.length cR, .slice aO os.length cO, .slice aP nP cP] 26)).alloc (.cells #[.int .i64 0, .int .i64 0] 34)) (.cells #[.int .i64 s0, .int .i64 s1] 34) (q0 + 1 + 1) (by simp [e0])
  go_wp2_with fail
  go_loopw [8] (fun i wr => ∃ (j : Nat) (u v : Int), j ≤ os.length ∧ Hid (u = (T.gto rs os k h j).1 ∧ v = (T.gto rs os k h j).2) ∧ i = .int .i64 j ∧ Up w wr ∧ mblk wr q0 = some (.cells #[.int .i64 H, .slice (some ⟨gR, oR, none⟩) rs.length cR, .slice aO os.length cO, .slice aP nP cP] 26 (0, 0)) ∧ mblk wr (q0 + 1) = some (.cells #[.int .i64 0, .int .i64 0] 34 (0, 0)) ∧ mblk wr (q0 + 1 + 1) = some (.cells #[.int .i64 u, .int .i64 v] 34 (0, 0))) (fun i _ => os.length - (intOf i).toNat)
  case atStart => exact ⟨0, s0, s1, Nat.zero_le _, Lib.hid HS01.out, rfl, U, kC, kZ, ks⟩
  case round =>
    clear U kC kZ ks c0 c1 d0 d1 Uc
    obtain ⟨j, u, v, hj, hu, rfl, U, kC, kZ, ks⟩ := hrel
    by_cases hlt : j < os.length
    · have ew : IntKind.i64.wrap ((j : Int) + 1) = (j : Int) + 1 := IntWalk.i64_in _ (by omega)
      have dk : decide ((j : Int) < (os.length : Int)) = true := decide_eq_true (by omega)
      have ilt : (j : Int) < (os.length : Int) := by omega
      obtain ⟨a', c', e', _, _, hm⟩ := (HO.out _ U).is
      injection e' with ea eb ec
      clear eb ec
      obtain ⟨g, off, ga, gl, hx⟩ := hm (by omega)
      subst ea ga
      have cc0 := hx j hlt 0 (by omega)
      have cc1 := hx j hlt 1 (by omega)
      have cc2 := hx j hlt 2 (by omega)
      have cc3 := hx j hlt 3 (by omega)
      have hsu := T.gto_succ (rs := rs) (os := os) k h hlt
      have hbo := HG.out.osB (os.getD j (0, 0, 0, 0)) (by
        rw [List.getD_eq_getElem?_getD, List.getElem?_eq_getElem hlt]
        exact List.getElem_mem _)
      obtain ⟨⟨x0, x1, x2, x3⟩, hss⟩ : ∃ s, os.getD j (0, 0, 0, 0) = s := ⟨_, rfl⟩
      rw [hss] at cc0 cc1 cc2 cc3 hsu hbo
      replace cc0 : wr.cell? ⟨g, off + j * 4, none⟩ = some (.int .i64 x0) := cc0
      replace cc1 : wr.cell? ⟨g, off + j * 4 + 1, none⟩ = some (.int .i64 x1) := cc1
      replace cc2 : wr.cell? ⟨g, off + j * 4 + 2, none⟩ = some (.int .i64 x2) := cc2
      replace cc3 : wr.cell? ⟨g, off + j * 4 + 3, none⟩ = some (.int .i64 x3) := cc3
      have hb0 := HB.out j (by omega)
      rw [← hu.out.1, ← hu.out.2] at hb0
      have z0 : IntKind.i64.wrap (u + x2) = u + x2 := IntWalk.i64_in _ (by have := hbo.2.2.1.1; have := hbo.2.2.2; simp only at *; omega)
      have z1 : IntKind.i64.wrap (v + x3) = v + x3 := IntWalk.i64_in _ (by have := hbo.2.2.1.2; have := hbo.2.2.2; simp only at *; omega)
      have HSU := Lib.hid hsu
      clear hx hss hm hsu hbo hb0
      have i0 := kC
      have i1 := ks
      have dkC := blk_lt kC
      have dks := blk_lt ks
      have gb := U.size
      have kb := blk_new wr (.cells #[.int .i64 x0, .int .i64 x1, .int .i64 x2, .int .i64 x3] 63) _ rfl
      replace kC := blk_keep (.cells #[.int .i64 x0, .int .i64 x1, .int .i64 x2, .int .i64 x3] 63) kC
      replace kZ := blk_keep (.cells #[.int .i64 x0, .int .i64 x1, .int .i64 x2, .int .i64 x3] 63) kZ
      replace ks := blk_keep (.cells #[.int .i64 x0, .int .i64 x1, .int .i64 x2, .int .i64 x3] 63) ks
      replace U := U.alloc (.cells #[.int .i64 x0, .int .i64 x1, .int .i64 x2, .int .i64 x3] 63)
      obtain ⟨pb, hpb⟩ : ∃ z, wr.heap.size = z := ⟨_, rfl⟩
      obtain ⟨W9, hW9⟩ : ∃ z, wr.alloc (.cells #[.int .i64 x0, .int .i64 x1, .int .i64 x2, .int .i64 x3] 63) = z := ⟨_, rfl⟩
      rw [hpb] at kb dkC dks gb
      rw [hW9] at kb kC kZ ks U
      by_cases hc0 : x0 = (k : Int)
      · subst hc0
        by_cases hc1 : x1 = (h : Int)
        · subst hc1
          go_wp2_with fail
          clear hpb hW9 i0 i1 cc0 cc1 cc2 cc3
          refine (HTo.out _ _ _).mono ?_
          rintro e w9 ⟨rfl, u9⟩
          replace U := U.trans u9
          replace kC := u9.blk kC
          replace kZ := u9.blk kZ
          replace ks := u9.blk ks
          clear u9 kb
          have zf := frozB ks
          have i1 := ks
          have U1 := (U.set (p := ⟨q0 + 1 + 1, 0, none⟩) (show w.heap.size ≤ q0 + 1 + 1 by omega) (.int .i64 (u + x2))).set (p := ⟨q0 + 1 + 1, 1, none⟩) (show w.heap.size ≤ q0 + 1 + 1 by omega) (.int .i64 (v + x3))
          have jC := kC
          rw [← blk_set w9 ⟨q0 + 1 + 1, 0, none⟩ (.int .i64 (u + x2)) q0 (by show q0 ≠ q0 + 1 + 1; omega), ← blk_set (w9.setCell ⟨q0 + 1 + 1, 0, none⟩ (.int .i64 (u + x2))) ⟨q0 + 1 + 1, 1, none⟩ (.int .i64 (v + x3)) q0 (by show q0 ≠ q0 + 1 + 1; omega)] at jC
          have jZ := kZ
          rw [← blk_set w9 ⟨q0 + 1 + 1, 0, none⟩ (.int .i64 (u + x2)) (q0 + 1) (by show q0 + 1 ≠ q0 + 1 + 1; omega), ← blk_set (w9.setCell ⟨q0 + 1 + 1, 0, none⟩ (.int .i64 (u + x2))) ⟨q0 + 1 + 1, 1, none⟩ (.int .i64 (v + x3)) (q0 + 1) (by show q0 + 1 ≠ q0 + 1 + 1; omega)] at jZ
          have js : mblk ((w9.setCell ⟨q0 + 1 + 1, 0, none⟩ (.int .i64 (u + x2))).setCell ⟨q0 + 1 + 1, 1, none⟩ (.int .i64 (v + x3))) (q0 + 1 + 1) = some (.cells #[.int .i64 (u + x2), .int .i64 (v + x3)] 34 (0, 0)) := blk_put (blk_put ks 0 _) 1 _
          obtain ⟨W8, hW8⟩ : ∃ z, (w9.setCell ⟨q0 + 1 + 1, 0, none⟩ (.int .i64 (u + x2))).setCell ⟨q0 + 1 + 1, 1, none⟩ (.int .i64 (v + x3)) = z := ⟨_, rfl⟩
          rw [hW8] at jC jZ js U1
          clear kC kZ ks U
          go_wp2_with fail
          clear hW8 zf i1
          have hnx : Hid (u + x2 = (T.gto rs os k h (j + 1)).1 ∧ v + x3 = (T.gto rs os k h (j + 1)).2) := Lib.hid (by
            rw [HSU.out]
            unfold T.plus
            rw [if_pos ⟨rfl, rfl⟩, hu.out.1, hu.out.2]
            exact ⟨rfl, rfl⟩)
          go_roundw
          case rel => exact ⟨j + 1, u + x2, v + x3, by omega, hnx, by go_num, U1, jC, jZ, js⟩
          case measure => (simp only [intOf]; omega)
        · have f1 : (x1 == (h : Int)) = false := by simpa using hc1
          go_wp2_with fail
          clear hpb hW9 i0 i1 cc0 cc1 cc2 cc3
          have hnx : Hid (u = (T.gto rs os k h (j + 1)).1 ∧ v = (T.gto rs os k h (j + 1)).2) := Lib.hid (by
            rw [HSU.out]
            unfold T.plus
            rw [if_neg (fun q => hc1 q.2)]
            exact hu.out)
          go_roundw
          case rel => exact ⟨j + 1, u, v, by omega, hnx, by go_num, U, kC, kZ, ks⟩
          case measure => (simp only [intOf]; omega)
      · have f0 : (x0 == (k : Int)) = false := by simpa using hc0
        go_wp2_with fail
        clear hpb hW9 i0 i1 cc0 cc1 cc2 cc3
        have hnx : Hid (u = (T.gto rs os k h (j + 1)).1 ∧ v = (T.gto rs os k h (j + 1)).2) := Lib.hid (by
          rw [HSU.out]
          unfold T.plus
          rw [if_neg (fun q => hc0 q.1)]
          exact hu.out)
        go_roundw
        case rel => exact ⟨j + 1, u, v, by omega, hnx, by go_num, U, kC, kZ, ks⟩
        case measure => (simp only [intOf]; omega)
    · have hje : j = os.length := by omega
      subst hje
      have dk : decide ((os.length : Int) < (os.length : Int)) = false := decide_eq_false (by omega)
      clear hlt hj
      have hu2 := hu.out
      rw [T.gto_all] at hu2
      have HU2 := Lib.hid hu2
      have zz := frozB kZ
      have KZ := Lib.hid (show mblk ((wr.setCell ⟨q0 + 1, 0, none⟩ (.int .i64 u)).setCell ⟨q0 + 1, 1, none⟩ (.int .i64 v)) (q0 + 1) = some (.cells #[.int .i64 u, .int .i64 v] 34 (0, 0)) from blk_put (blk_put kZ 0 _) 1 _)
      have UZ := Lib.hid ((U.set (p := ⟨q0 + 1, 0, none⟩) (show w.heap.size ≤ q0 + 1 by omega) (.int .i64 u)).set (p := ⟨q0 + 1, 1, none⟩) (show w.heap.size ≤ q0 + 1 by omega) (.int .i64 v))
      have lZ := blk_lt kZ
      clear hu hu2 HTo HB
      go_wp2_with fail
      have cc := cellB KZ.out
      exact bodyPost_ret (v := SpV u v) (by simp [results, Try.results48, go_sem, cc]) rfl ⟨by rw [HU2.out.1, HU2.out.2], UZ.out⟩
end

end Go.Proofs.Ytonklhfpjooheaa
