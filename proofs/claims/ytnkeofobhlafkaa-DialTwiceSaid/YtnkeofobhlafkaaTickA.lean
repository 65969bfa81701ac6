import Derived.Test.YtnkeofobhlafkaaLawF
/- The ticks and their readings, one to one. -/
namespace Go.Proofs.Ytnkeofobhlafkaa
open Go.RowKit

/-- the parts of a tick's reading, and how they hang together -/
structure D.Rd (h m s : Int) (x : Nat → Int) (n : Nat) (t A B C S q : Int) (j : Nat) : Prop where
  day : A = j
  lt : j < n
  hour : B = q / m
  min : C = q % m
  q0 : 0 ≤ q
  q1 : q ≤ h * m - 1
  at_ : t = D.beg h m s x j + q * s + S
  s0 : 0 ≤ S
  s1 : S < D.mlen h m s x A B C
  s2 : q < h * m - 1 → S < s
  top : t < D.beg h m s x (j + 1)

theorem D.rd_is {h m s : Int} {x : Nat → Int} {n : Nat} {t : Int} (h1 : 1 ≤ h) (m1 : 1 ≤ m) (s1 : 2 ≤ s) (t0 : 0 ≤ t) (t1 : t < D.beg h m s x n) :
    D.Rd h m s x n t (D.rA h m s x n t) (D.rB h m s x n t) (D.rC h m s x n t) (D.rS h m s x n t) (D.q h m s (D.rR h m s x n t)) (D.dy h m s x t n) := by
  obtain ⟨a, b, c⟩ := D.dy_is h m s x t t0 n t1
  have sb := D.rS_bd h1 m1 s1 t0 t1
  have P1 : 1 ≤ h * m := by
    have := Int.mul_le_mul h1 m1 (by omega) (by omega)
    omega
  have R0 : 0 ≤ D.rR h m s x n t := by unfold D.rR; omega
  have q0 : 0 ≤ D.rR h m s x n t / s := Int.ediv_nonneg R0 (by omega)
  refine ⟨rfl, a, rfl, rfl, by unfold D.q; omega, by unfold D.q; omega, by unfold D.rS D.rR; omega, sb.1, sb.2, fun hq => ?_, c⟩
  have e : D.q h m s (D.rR h m s x n t) = D.rR h m s x n t / s := by unfold D.q at hq ⊢; omega
  unfold D.rS
  rw [e]
  have e1 := Int.emod_add_mul_ediv (D.rR h m s x n t) s
  have e3 := Int.emod_lt_of_pos (D.rR h m s x n t) (show 0 < s by omega)
  rw [Int.mul_comm]
  omega

theorem D.cnt_is {h m a b c : Int} (k : Int) (hk : k = a * (h * m) + (b * m + c)) (a1 : 0 ≤ a * (h * m) ∧ a * (h * m) ≤ 100000) (b1 : 0 ≤ b * m ∧ b * m ≤ 100000) (c1 : 0 ≤ c ∧ c ≤ 100000) : D.cnt h m a b c = k := by
  have e1 : wrap64 (a * (h * m)) = a * (h * m) := by rw [← iw]; exact IntWalk.i64_in _ (by omega)
  have e2 : wrap64 (b * m) = b * m := by rw [← iw]; exact IntWalk.i64_in _ (by omega)
  have e3 : D.tot [wrap64 (a * (h * m)), wrap64 (b * m), c] = k := by simp only [D.tot, List.foldr_cons, List.foldr_nil, e1, e2]; omega
  rw [D.cnt, e3, ← iw]
  exact IntWalk.i64_in _ (by omega)

theorem D.Rd.isRd {h m s : Int} {x : Nat → Int} {n : Nat} {t A B C S q : Int} {j : Nat} (r : D.Rd h m s x n t A B C S q j) (h1 : 1 ≤ h) (h2 : h ≤ 24) (m1 : 1 ≤ m) (m2 : m ≤ 60) (n2 : n ≤ 10) : D.isRd h m s n x A B C S = true := by
  obtain ⟨P1, P2⟩ := D.mul_bd h m h1 h2 m1 m2
  have f := Int.emod_add_mul_ediv q m
  have g1 := Int.emod_nonneg q (show m ≠ 0 by omega)
  have g2 := Int.emod_lt_of_pos q (show 0 < m by omega)
  have hb : 0 ≤ B := by rw [r.hour]; exact Int.ediv_nonneg r.q0 (by omega)
  have hl := r.lt
  have q0 := r.q0
  have q1 := r.q1
  have bm : B * m + C = q := by rw [r.hour, r.min, Int.mul_comm]; omega
  have bm0 : 0 ≤ B * m := Int.mul_nonneg hb (by omega)
  have c0 : 0 ≤ C := by rw [r.min]; exact g1
  have am : 0 ≤ A * (h * m) ∧ A * (h * m) ≤ 100000 := by
    rw [r.day]
    have := Int.mul_nonneg (show 0 ≤ (j : Int) by omega) (show 0 ≤ h * m by omega)
    have := Int.mul_le_mul (show (j : Int) ≤ 10 by omega) P2 (by omega) (by omega)
    omega
  have ec := D.cnt_is (h := h) (m := m) (a := A) (b := B) (c := C) (A * (h * m) + q) (by omega) am (by omega) (by omega)
  have eu := (Int.ediv_emod_unique (a := A * (h * m) + q) (b := h * m) (r := q) (q := A) (by omega)).2 ⟨by rw [Int.mul_comm]; omega, by omega, by omega⟩
  unfold D.isRd D.divd
  rw [ec, eu.1, eu.2, ← r.hour, ← r.min]
  have i1 := inB_yes (n := A) (l := 0) (h := (n : Int) - 1) (by rw [r.day]; omega) (by rw [r.day]; omega)
  have i2 := inB_yes (n := S) (l := 0) (h := D.mlen h m s x A B C - 1) r.s0 (by have := r.s1; omega)
  rw [i1, i2]
  simp

theorem D.Rd.tk {h m s : Int} {x : Nat → Int} {n : Nat} {t A B C S q : Int} {j : Nat} (r : D.Rd h m s x n t A B C S q j) : D.tk h m s x A B C S = t := by
  have f := Int.emod_add_mul_ediv q m
  have bm : B * m + C = q := by rw [r.hour, r.min, Int.mul_comm]; omega
  unfold D.tk
  rw [bm, r.day, Int.toNat_natCast, r.at_]

/-- does one reading come before another one? -/
def D.lt4 (a0 a1 a2 a3 b0 b1 b2 b3 : Int) : Prop := a0 < b0 ∨ (a0 = b0 ∧ (a1 < b1 ∨ (a1 = b1 ∧ (a2 < b2 ∨ (a2 = b2 ∧ a3 < b3)))))
theorem D.lt4_ahd {a0 a1 a2 a3 b0 b1 b2 b3 : Int} (hl : D.lt4 a0 a1 a2 a3 b0 b1 b2 b3) : D.ahd [a0, a1, a2, a3] [b0, b1, b2, b3] = true := by
  unfold D.ahd
  by_cases e0 : a0 = b0
  · rw [if_pos e0]
    unfold D.ahd
    by_cases e1 : a1 = b1
    · rw [if_pos e1]
      unfold D.ahd
      by_cases e2 : a2 = b2
      · rw [if_pos e2]
        unfold D.ahd
        unfold D.lt4 at hl
        rw [if_neg (by omega)]
        simp
        omega
      · rw [if_neg e2]
        unfold D.lt4 at hl
        simp
        omega
    · rw [if_neg e1]
      unfold D.lt4 at hl
      simp
      omega
  · rw [if_neg e0]
    unfold D.lt4 at hl
    simp
    omega

theorem D.parts_lt {m q q' : Int} (m1 : 1 ≤ m) (hq : q < q') : q / m < q' / m ∨ (q / m = q' / m ∧ q % m < q' % m) := by
  have f := Int.emod_add_mul_ediv q m
  have f' := Int.emod_add_mul_ediv q' m
  have le : q / m ≤ q' / m := Int.ediv_le_ediv (by omega) (by omega)
  by_cases e : q / m = q' / m
  · right
    rw [e] at f
    exact ⟨e, by omega⟩
  · left; omega

theorem D.Rd.before {h m s : Int} {x : Nat → Int} {n : Nat} {t A B C S q t' A' B' C' S' q' : Int} {j j' : Nat} (r : D.Rd h m s x n t A B C S q j) (r' : D.Rd h m s x n t' A' B' C' S' q' j')
    (h1 : 1 ≤ h) (h2 : h ≤ 24) (m1 : 1 ≤ m) (m2 : m ≤ 60) (s1 : 2 ≤ s) (s2 : s ≤ 60) (ht : t < t') : D.lt4 A B C S A' B' C' S' := by
  unfold D.lt4
  rw [r.day, r'.day]
  by_cases e : j < j'
  · left; omega
  · have hj : j' ≤ j := by omega
    by_cases e2 : j' < j
    · exfalso
      have a := D.beg_mono h m s x h1 h2 m1 m2 s1 s2 (j' + 1) j (by omega)
      have b := r'.top
      have c := r.at_
      have q0 := r.q0
      have d := Int.mul_nonneg r.q0 (show 0 ≤ s by omega)
      have e3 := r.s0
      omega
    · obtain rfl : j = j' := by omega
      right
      refine ⟨rfl, ?_⟩
      have a := r.at_
      have b := r'.at_
      have s0 := r'.s0
      have qq : q ≤ q' := by
        by_cases g : q ≤ q'
        · exact g
        · exfalso
          have hlt := r'.s2 (by have := r.q1; omega)
          have : (q' + 1) * s ≤ q * s := Int.mul_le_mul_of_nonneg_right (by omega) (by omega)
          rw [Int.add_mul] at this
          have := r.s0
          omega
      by_cases g : q = q'
      · subst g
        right
        refine ⟨by rw [r.hour, r'.hour], .inr ⟨by rw [r.min, r'.min], by omega⟩⟩
      · have := D.parts_lt m1 (show q < q' by omega)
        rw [r.hour, r'.hour, r.min, r'.min]
        omega

theorem D.Rd.sec {h m s : Int} {x : Nat → Int} {n : Nat} {t A B C S q : Int} {j : Nat} (r : D.Rd h m s x n t A B C S q j) : 0 ≤ S ∧ S ≤ s := by
  have a := r.s1
  have b := D.lastM_bd s (x A.toNat)
  unfold D.mlen at a
  split at a
  · exact ⟨r.s0, by omega⟩
  · exact ⟨r.s0, by omega⟩

theorem D.Rd.next {h m s : Int} {x : Nat → Int} {n : Nat} {t A B C S q A' B' C' S' q' : Int} {j j' : Nat} (r : D.Rd h m s x n t A B C S q j) (r' : D.Rd h m s x n (t + 1) A' B' C' S' q' j')
    (h1 : 1 ≤ h) (h2 : h ≤ 24) (m1 : 1 ≤ m) (m2 : m ≤ 60) (s1 : 2 ≤ s) (s2 : s ≤ 60) : (A' = A ∧ B' = B ∧ C' = C ∧ S' = S + 1) ∨ (S' = 0 ∧ s - 2 ≤ S) := by
  have a := r.at_
  have a' := r'.at_
  have p0 := r.s0
  have p0' := r'.s0
  have top := r.top
  have top' := r'.top
  have y := Int.mul_nonneg r.q0 (show 0 ≤ s by omega)
  have y' := Int.mul_nonneg r'.q0 (show 0 ≤ s by omega)
  have hj : j ≤ j' := by
    by_cases g : j ≤ j'
    · exact g
    · have := D.beg_mono h m s x h1 h2 m1 m2 s1 s2 (j' + 1) j (by omega)
      omega
  by_cases e : j = j'
  · subst e
    by_cases g : q = q'
    · subst g
      left
      exact ⟨by rw [r.day, r'.day], by rw [r.hour, r'.hour], by rw [r.min, r'.min], by omega⟩
    · right
      have qq : q < q' := by
        by_cases g2 : q < q'
        · exact g2
        · exfalso
          have hlt := r'.s2 (by have := r.q1; omega)
          have : (q' + 1) * s ≤ q * s := Int.mul_le_mul_of_nonneg_right (by omega) (by omega)
          rw [Int.add_mul] at this
          omega
      have hlt := r.s2 (by have := r'.q1; omega)
      have k1 : (q + 1) * s ≤ q' * s := Int.mul_le_mul_of_nonneg_right (by omega) (by omega)
      rw [Int.add_mul] at k1
      exact ⟨by omega, by omega⟩
  · right
    have b1 := D.beg_mono h m s x h1 h2 m1 m2 s1 s2 (j + 1) j' (by omega)
    have l1 : S' = 0 ∧ t + 1 = D.beg h m s x (j + 1) := ⟨by omega, by omega⟩
    refine ⟨l1.1, ?_⟩
    have l2 := l1.2
    rw [D.beg_succ] at l2
    have lb := D.lastM_bd s (x j)
    unfold D.len at l2
    by_cases g : q < h * m - 1
    · exfalso
      have hlt := r.s2 g
      have k1 : (q + 1) * s ≤ (h * m - 1) * s := Int.mul_le_mul_of_nonneg_right (by omega) (by omega)
      rw [Int.add_mul] at k1
      omega
    · have e2 : q = h * m - 1 := by have := r.q1; omega
      subst e2
      omega

end Go.Proofs.Ytnkeofobhlafkaa

/- The first and the last ticks of days, and what decrees do to a day's length. -/
namespace Go.Proofs.Ytnkeofobhlafkaa
open Go.RowKit

theorem D.Rd.day_of {h m s : Int} {x : Nat → Int} {n : Nat} {t A B C S q : Int} {j k : Nat} (r : D.Rd h m s x n t A B C S q j) (h1 : 1 ≤ h) (h2 : h ≤ 24) (m1 : 1 ≤ m) (m2 : m ≤ 60) (s1 : 2 ≤ s) (s2 : s ≤ 60)
    (t0 : D.beg h m s x k ≤ t) (t1 : t < D.beg h m s x (k + 1)) : j = k := by
  have a := r.at_
  have y := Int.mul_nonneg r.q0 (show 0 ≤ s by omega)
  have z := r.s0
  have top := r.top
  by_cases e : j < k
  · have := D.beg_mono h m s x h1 h2 m1 m2 s1 s2 (j + 1) k (by omega)
    omega
  · by_cases e2 : k < j
    · have := D.beg_mono h m s x h1 h2 m1 m2 s1 s2 (k + 1) j (by omega)
      omega
    · omega
theorem D.Rd.first {h m s : Int} {x : Nat → Int} {n k : Nat} {A B C S q : Int} {j : Nat} (r : D.Rd h m s x n (D.beg h m s x k) A B C S q j) (h1 : 1 ≤ h) (h2 : h ≤ 24) (m1 : 1 ≤ m) (m2 : m ≤ 60) (s1 : 2 ≤ s) (s2 : s ≤ 60) : A = k ∧ B = 0 ∧ C = 0 ∧ S = 0 := by
  have l := D.len_bd h m s (x k) h1 h2 m1 m2 s1 s2
  have e : j = k := r.day_of h1 h2 m1 m2 s1 s2 (Int.le_refl _) (by rw [D.beg_succ]; omega)
  subst e
  have a := r.at_
  have y := Int.mul_nonneg r.q0 (show 0 ≤ s by omega)
  have z := r.s0
  have q0 : q = 0 := by
    by_cases g : q = 0
    · exact g
    · have : 1 * s ≤ q * s := Int.mul_le_mul_of_nonneg_right (by have := r.q0; omega) (by omega)
      omega
  subst q0
  exact ⟨r.day, by rw [r.hour]; simp, by rw [r.min]; simp, by omega⟩
theorem D.Rd.final {h m s : Int} {x : Nat → Int} {n k : Nat} {t A B C S q : Int} {j : Nat} (r : D.Rd h m s x n t A B C S q j) (ht : t = D.beg h m s x k + D.len h m s (x k) - 1) (h1 : 1 ≤ h) (h2 : h ≤ 24) (m1 : 1 ≤ m) (m2 : m ≤ 60) (s1 : 2 ≤ s) (s2 : s ≤ 60) : A = k ∧ B = h - 1 ∧ C = m - 1 := by
  have l := D.len_bd h m s (x k) h1 h2 m1 m2 s1 s2
  have e : j = k := r.day_of h1 h2 m1 m2 s1 s2 (by omega) (by rw [D.beg_succ]; omega)
  subst e
  have a := r.at_
  have lb := D.lastM_bd s (x j)
  have le : D.len h m s (x j) = (h * m - 1) * s + D.lastM s (x j) := rfl
  have q1 : q = h * m - 1 := by
    by_cases g : q < h * m - 1
    · exfalso
      have hlt := r.s2 g
      have k1 : (q + 1) * s ≤ (h * m - 1) * s := Int.mul_le_mul_of_nonneg_right (by omega) (by omega)
      rw [Int.add_mul] at k1
      omega
    · have := r.q1; omega
  subst q1
  have eu := (Int.ediv_emod_unique (a := h * m - 1) (b := m) (r := m - 1) (q := h - 1) (by omega)).2 ⟨by rw [Int.mul_sub, Int.mul_comm m h]; omega, by omega, by omega⟩
  exact ⟨r.day, by rw [r.hour, eu.1], by rw [r.min, eu.2]⟩

/-- by how much a day is longer -/
def D.more (x : Int) : Int := if x = 1 then 1 else if x = 2 then -1 else 0
theorem D.len_more (h m s x : Int) : D.len h m s x = h * m * s + D.more x := by
  have : (h * m - 1) * s = h * m * s - s := by rw [Int.sub_mul]; omega
  unfold D.len D.lastM D.more
  split
  · omega
  · split <;> omega
theorem D.deeds_none (L : List (Int × Bool)) (j k : Nat) (h : ∀ i, i < k → (L.getD i (0, false)).1 < j) : D.deeds L k j = 0 := by
  induction k with
  | zero => rfl
  | succ k ih =>
    have := h k (by omega)
    rw [D.deeds, if_neg (by omega), ih (fun i hi => h i (by omega))]
theorem D.incr_lt {p : Int → Bool} {a : Int} {l : List Int} (h : D.incr p a l = true) : ∀ i k, i < k → k < l.length → l.getD i 0 < l.getD k 0 := by
  have low : ∀ (l : List Int) (a : Int), D.incr p a l = true → ∀ k, k < l.length → a < l.getD k 0 := by
    intro l
    induction l with
    | nil => intro a _ k hk; simp at hk
    | cons n l ih =>
      intro a h k hk
      simp only [D.incr, Bool.and_eq_true, decide_eq_true_eq] at h
      cases k with
      | zero => exact h.1.1
      | succ k =>
        have := ih n h.2 k (by simpa using hk)
        simp only [List.getD_cons_succ]
        omega
  induction l generalizing a with
  | nil => intro i k _ hk; simp at hk
  | cons n l ih =>
    simp only [D.incr, Bool.and_eq_true, decide_eq_true_eq] at h
    intro i k hik hk
    cases k with
    | zero => omega
    | succ k =>
      cases i with
      | zero => exact low l n h.2 k (by simpa using hk)
      | succ i => exact ih h.2 i k (by omega) (by simpa using hk)

end Go.Proofs.Ytnkeofobhlafkaa

/- What the announcement's tick is: how near it is, and that it is the same from any tick before it. -/
namespace Go.Proofs.Ytnkeofobhlafkaa
open Go.RowKit

theorem D.run_le {h m s : Int} {x : Nat → Int} {n : Nat} {t each : Int} (h1 : 1 ≤ h) (h2 : h ≤ 24) (m1 : 1 ≤ m) (m2 : m ≤ 60) (s1 : 2 ≤ s) (s2 : s ≤ 60) (t0 : 0 ≤ t) (j : Nat) (hj : t + j ≤ D.beg h m s x n)
    (hN : ∀ i, i < j → ¬ (D.rS h m s x n (t + (i : Nat))).tmod each = 0) : (j : Int) ≤ s := by
  have K : ∀ i, i < j → D.rS h m s x n (t + (i : Nat)) = D.rS h m s x n t + i := by
    intro i
    induction i with
    | zero => intro _; simp
    | succ i ih =>
      intro hi
      have r := D.rd_is (h := h) (m := m) (s := s) (x := x) (n := n) (t := t + (i : Nat)) h1 m1 s1 (by omega) (by omega)
      have r' := D.rd_is (h := h) (m := m) (s := s) (x := x) (n := n) (t := t + (i : Nat) + 1) h1 m1 s1 (by omega) (by omega)
      have e : t + ((i + 1 : Nat) : Int) = t + (i : Nat) + 1 := by omega
      rcases r.next r' h1 h2 m1 m2 s1 s2 with ⟨_, _, _, q⟩ | ⟨q, _⟩
      · rw [e, q, ih (by omega)]; omega
      · have z := hN (i + 1) hi
        rw [e, q] at z
        exact absurd (Int.zero_tmod _) z
  by_cases j0 : j = 0
  · omega
  · have a := K (j - 1) (by omega)
    have z := hN 0 (by omega)
    have r := D.rd_is (h := h) (m := m) (s := s) (x := x) (n := n) (t := t + ((j - 1 : Nat) : Int)) h1 m1 s1 (by omega) (by omega)
    have r0 := D.rd_is (h := h) (m := m) (s := s) (x := x) (n := n) (t := t) h1 m1 s1 (by omega) (by omega)
    have b := r.sec
    have c := r0.sec
    have nz : ¬ D.rS h m s x n t = 0 := fun e => z (by simp [e])
    omega

theorem NextIs.on {S : Int → Int} {f u each v : Int} {ok : Bool} (h : NextIs S f u each v ok) (y : Nat) (hy : if ok = true then f + y ≤ v else f + y ≤ u) : NextIs S (f + y) u each v ok := by
  rcases h with ⟨x, hx, hN, hz, rfl, rfl⟩ | ⟨hN, rfl, rfl⟩
  · simp only [if_true] at hy
    refine .inl ⟨x - y, by omega, fun i hi => ?_, ?_, by omega, rfl⟩
    · rw [List.mem_range] at hi
      have := hN (y + i) (by rw [List.mem_range]; omega)
      rwa [show f + (y : Int) + (i : Nat) = f + ((y + i : Nat) : Int) by omega]
    · rwa [show f + (y : Int) + ((x - y : Nat) : Int) = f + (x : Nat) by omega]
  · simp only [Bool.false_eq_true, if_false] at hy
    refine .inr ⟨fun i hi => ?_, rfl, rfl⟩
    rw [List.mem_range] at hi
    have := hN (y + i) (by rw [List.mem_range]; omega)
    rwa [show f + (y : Int) + (i : Nat) = f + ((y + i : Nat) : Int) by omega]

end Go.Proofs.Ytnkeofobhlafkaa
