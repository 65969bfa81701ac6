import Derived.Test.YtnkeofobhlafkaaTwc
import Derived.Test.YtnkeofobhlafkaaTwiC
import Derived.Test.YtnkeofobhlafkaaTickF
/- What dial's twice counts: the ticks whose local reading an earlier one has. -/
namespace Go.Proofs.Ytnkeofobhlafkaa
open Go.RowKit

/-- the ticks of one minute have the same reading but for the second -/
theorem D.same_minute {h m s : Int} {x : Nat → Int} {n : Nat} (h1 : 1 ≤ h) (h2 : h ≤ 24) (m1 : 1 ≤ m) (m2 : m ≤ 60) (s1 : 2 ≤ s) (s2 : s ≤ 60) (n2 : n ≤ 10) {t i : Int} (t0 : 0 ≤ t) (tT : t < D.beg h m s x n) (i0 : 0 ≤ i) (hi : D.rS h m s x n t + i < D.mlen h m s x (D.rA h m s x n t) (D.rB h m s x n t) (D.rC h m s x n t)) :
    D.rA h m s x n (t + i) = D.rA h m s x n t ∧ D.rB h m s x n (t + i) = D.rB h m s x n t ∧ D.rC h m s x n (t + i) = D.rC h m s x n t ∧ D.rS h m s x n (t + i) = D.rS h m s x n t + i := by
  have r := D.rd_is (x := x) (n := n) h1 m1 s1 t0 tT
  have hisR := r.isRd h1 h2 m1 m2 n2
  have htk := r.tk
  have sec := r.sec
  obtain ⟨g1, g2, g3, g4, g5, g6⟩ := D.cnt_rd r h1 h2 m1 m2 n2
  have hour := r.hour
  have mn := r.min
  generalize D.q h m s (D.rR h m s x n t) = q at *
  generalize D.rA h m s x n t = A at *
  generalize D.rB h m s x n t = B at *
  generalize D.rC h m s x n t = C at *
  generalize D.rS h m s x n t = S at *
  have hisR' : D.isRd h m s n x A B C (S + i) = true := by
    simp only [D.isRd, Bool.and_eq_true] at hisR ⊢
    exact ⟨hisR.1, hisR.2.1, inB_yes (by omega) (by omega)⟩
  have r' := D.isRd_rd (u := A * (h * m) + q) (S := S + i) (x := x) (n := n) h1 h2 m1 m2 s1 s2 (by rw [g5, g6, ← hour, ← mn]; exact hisR')
  rw [g5, g6, ← hour, ← mn] at r'
  have e : D.tk h m s x A B C (S + i) = t + i := by unfold D.tk at htk ⊢; omega
  rw [e] at r'
  exact r'.is h1 h2 m1 m2 s1 s2

/-- a local reading's minute, and its second -/
def D.locP (h m s : Int) (x : Nat → Int) (n : Nat) (ah : Int) (M : List (Int × Int)) (k : Nat) : Int × Int × Int := (D.ltick h m s x n ah M k / (h * m), D.ltick h m s x n ah M k % (h * m) / m, D.ltick h m s x n ah M k % (h * m) % m)
def D.locS (h m s : Int) (x : Nat → Int) (n : Nat) (k : Nat) : Int := D.rS h m s x n k

theorem D.fold_mins {α : Type} (F : α → Int → α) (g : Int → Int) (u f : Int) (Q : α → Int → Prop) (hg : ∀ t, f ≤ t → t < u → 1 ≤ g t ∧ t + g t ≤ u) (hF : ∀ v t, f ≤ t → t < u → Q v t → Q (F v t) (t + g t)) (N : Nat) : ∀ (t : Int) (v : α), f ≤ t → t ≤ u → u - t ≤ N → Q v t → Q ((D.mins g u N t).foldl F v) u := by
  induction N with
  | zero =>
    intro t v a b c q
    obtain rfl : t = u := by omega
    exact q
  | succ N ih =>
    intro t v a b c q
    rw [D.mins]
    by_cases hlt : t < u
    · rw [if_pos hlt, List.foldl_cons]
      obtain ⟨g1, g2⟩ := hg t a hlt
      exact ih (t + g t) _ (by omega) g2 (by omega) (hF v t a hlt q)
    · rw [if_neg hlt]
      obtain rfl : t = u := by omega
      exact q

theorem D.period_inv {h m s : Int} {x : Nat → Int} {n : Nat} (h1 : 1 ≤ h) (h2 : h ≤ 24) (m1 : 1 ≤ m) (m2 : m ≤ 60) (s1 : 2 ≤ s) (s2 : s ≤ 60) (n2 : n ≤ 10) {ah : Int} {M : List (Int × Int)} {f u k : Int} (f0 : 0 ≤ f) (fu : f ≤ u) (uT : u ≤ D.beg h m s x n) (hk : ∀ t, f ≤ t → t < u → D.ahAt ah M t M.length = k) {v : (Int → Int → Int → Int) × Int} (I : D.Inv (D.locP h m s x n ah M) (D.locS h m s x n) v f.toNat) :
    D.Inv (D.locP h m s x n ah M) (D.locS h m s x n) ((D.perL h m s x n f u).foldl (D.twF h m s x n u k) v) u.toNat := by
  have tb := D.beg_bd h m s x h1 h2 m1 m2 s1 s2 n
  refine D.fold_mins (D.twF h m s x n u k) (D.step h m s x n u) u f (fun v t => D.Inv (D.locP h m s x n ah M) (D.locS h m s x n) v t.toNat) (fun t a b => ?_) (fun v t a b I => ?_) _ f v (Int.le_refl _) fu (by omega) I
  · have := D.step_bd (x := x) (n := n) (u := u) h1 m1 s1 s2 (show 0 ≤ t by omega) b (by omega)
    exact ⟨this.1, this.2.2⟩
  · have st := D.step_bd (x := x) (n := n) (u := u) h1 m1 s1 s2 (show 0 ≤ t by omega) b (by omega)
    have r := D.rd_is (x := x) (n := n) h1 m1 s1 (show 0 ≤ t by omega) (show t < D.beg h m s x n by omega)
    have sec := r.sec
    have ml := D.mlen_bd h m s x (D.rA h m s x n t) (D.rB h m s x n t) (D.rC h m s x n t) s1 s2
    have hstep : D.step h m s x n u t ≤ D.mlen h m s x (D.rA h m s x n t) (D.rB h m s x n t) (D.rC h m s x n t) - D.rS h m s x n t := by unfold D.step; omega
    obtain ⟨g, hg⟩ : ∃ g : Nat, D.step h m s x n u t = g := ⟨(D.step h m s x n u t).toNat, by omega⟩
    obtain ⟨q, hq⟩ : ∃ q : Nat, D.rS h m s x n t = q := ⟨(D.rS h m s x n t).toNat, by omega⟩
    obtain ⟨p, rfl⟩ : ∃ p : Nat, t = p := ⟨t.toNat, by omega⟩
    rw [hg] at st hstep ⊢
    rw [hq] at hstep sec
    rw [Int.toNat_natCast] at I
    have e : ((p : Int) + (g : Int)).toNat = p + g := by omega
    rw [e]
    unfold D.twF
    rw [hg, hq]
    have sm := fun (i : Nat) (hi : i < g) => D.same_minute (x := x) h1 h2 m1 m2 s1 s2 n2 (t := p) (i := i) (by omega) (by omega) (by omega) (by rw [hq]; omega)
    have el : ∀ i, i < g → D.ltick h m s x n ah M ((p + i : Nat) : Int) = D.lmin h m (D.rA h m s x n p) (D.rB h m s x n p) (D.rC h m s x n p) k := fun i hi => by
      obtain ⟨x1, x2, x3, _⟩ := sm i hi
      unfold D.ltick
      rw [Int.natCast_add, x1, x2, x3, hk _ (by omega) (by omega)]
    refine I.run (by omega) (by omega) (fun i hi => ?_) (fun i hi => ?_)
    · unfold D.locP
      rw [el i hi]
    · unfold D.locS
      rw [Int.natCast_add, (sm i hi).2.2.2, hq]
      omega

theorem D.per_facts {T ah : Int} {M : List (Int × Int)} (ht : D.townOk T ah M = true) (T0 : 0 ≤ T) (j : Nat) (hj : j ≤ M.length) : ∃ f u k, D.perX T ah M (j * 3) = f ∧ D.perX T ah M (j * 3 + 1) = u ∧ D.perX T ah M (j * 3 + 2) = k ∧ 0 ≤ f ∧ f ≤ u ∧ u ≤ T ∧ (j = 0 → f = 0) ∧ (j = M.length → u = T) ∧ (∀ _ : j < M.length, D.perX T ah M ((j + 1) * 3) = u) ∧ ∀ t, f ≤ t → t < u → D.ahAt ah M t M.length = k := by
  obtain ⟨a1, a2, ml, mb, mi⟩ := D.town_bd ht
  obtain ⟨p1, p2, p3⟩ := D.pers_at T 0 ah M j hj
  refine ⟨_, _, _, p1, p2, p3, ?_, ?_, ?_, fun e => by rw [if_pos e], fun e => by rw [if_pos e], fun e => ?_, fun t t1 t2 => ?_⟩
  · split
    · omega
    · exact Int.le_of_lt (mb (j - 1) (by omega)).2.2.1
  · by_cases e : j = 0
    · rw [if_pos e]
      split
      · omega
      · exact Int.le_of_lt (mb j (by omega)).2.2.1
    · rw [if_neg e]
      split
      · exact Int.le_of_lt (mb (j - 1) (by omega)).2.2.2
      · exact Int.le_of_lt (mi (j - 1) j (by omega) (by omega))
  · split
    · omega
    · exact Int.le_of_lt (mb j (by omega)).2.2.2
  · rw [if_neg (by omega)]
    have := (D.pers_at T 0 ah M (j + 1) (by omega)).1
    rw [if_neg (by omega), Nat.add_sub_cancel] at this
    exact this
  · refine D.ahAt_in hj ?_ (fun i i1 i2 => ?_)
    · by_cases e : j = 0
      · exact .inl e
      · rw [if_neg e] at t1; exact .inr t1
    · rw [if_neg (by omega)] at t2
      by_cases e : j = i
      · subst e; exact t2
      · have := mi j i (by omega) i2; omega
theorem D.twV_inv {h m s : Int} {x : Nat → Int} {n : Nat} (h1 : 1 ≤ h) (h2 : h ≤ 24) (m1 : 1 ≤ m) (m2 : m ≤ 60) (s1 : 2 ≤ s) (s2 : s ≤ 60) (n2 : n ≤ 10) {ah : Int} {M : List (Int × Int)} (ht : D.townOk (D.beg h m s x n) ah M = true) (i : Nat) (hi : i ≤ M.length) :
    D.Inv (D.locP h m s x n ah M) (D.locS h m s x n) (D.twV h m s x n (D.perX (D.beg h m s x n) ah M) (i + 1)) (D.perX (D.beg h m s x n) ah M (i * 3 + 1)).toNat := by
  have tb := D.beg_bd h m s x h1 h2 m1 m2 s1 s2 n
  induction i with
  | zero =>
    obtain ⟨f, u, k, e1, e2, e3, f0, fu, uT, z, _, _, hk⟩ := D.per_facts ht (by omega) 0 (by omega)
    rw [D.twV, e1, e2, e3]
    have f00 := z rfl
    subst f00
    exact D.period_inv h1 h2 m1 m2 s1 s2 n2 f0 fu uT hk (D.Inv.zero _ _)
  | succ i ih =>
    obtain ⟨f, u, k, e1, e2, e3, f0, fu, uT, _, _, _, hk⟩ := D.per_facts ht (by omega) (i + 1) hi
    obtain ⟨f', u', k', e1', e2', e3', _, _, _, _, _, nx, _⟩ := D.per_facts ht (by omega) i (by omega)
    have I := ih (by omega)
    rw [D.twV, e1, e2, e3]
    refine D.period_inv h1 h2 m1 m2 s1 s2 n2 f0 fu uT hk ?_
    have q := nx (by omega)
    rw [e1] at q
    rw [e2', ← q] at I
    exact I
/-- twice counts the ticks whose local reading an earlier one has -/
theorem D.twice_dup {h m s : Int} {x : Nat → Int} {n : Nat} (h1 : 1 ≤ h) (h2 : h ≤ 24) (m1 : 1 ≤ m) (m2 : m ≤ 60) (s1 : 2 ≤ s) (s2 : s ≤ 60) (n2 : n ≤ 10) {ah : Int} {M : List (Int × Int)} (ht : D.townOk (D.beg h m s x n) ah M = true) :
    ∃ c : Nat, D.twiceV h m s x n ah M = c ∧ D.Dup (D.again (D.locP h m s x n ah M) (D.locS h m s x n)) (D.beg h m s x n).toNat c := by
  have tb := D.beg_bd h m s x h1 h2 m1 m2 s1 s2 n
  obtain ⟨f, u, k, e1, e2, e3, f0, fu, uT, _, uu, _, hk⟩ := D.per_facts ht (by omega) M.length (Nat.le_refl _)
  have I := (D.twV_inv h1 h2 m1 m2 s1 s2 n2 ht M.length (Nat.le_refl _)).cnt
  rw [e2, uu rfl] at I
  exact I

end Go.Proofs.Ytnkeofobhlafkaa
