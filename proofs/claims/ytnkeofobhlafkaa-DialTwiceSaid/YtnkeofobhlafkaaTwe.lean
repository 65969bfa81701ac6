import Derived.Test.YtnkeofobhlafkaaTwd
/- What DialTwice says of the number of ticks that come twice: lemmas on counts, and on ticks before the first change and in a town that only rises. -/
namespace Go.Proofs.Ytnkeofobhlafkaa
open Go.RowKit

theorem D.Dup.nil {E : Nat → Prop} (k : Nat) : ∀ c, (∀ i, i < k → ¬ E i) → D.Dup E k c → c = 0 := by
  induction k with
  | zero => intro c _ h; exact h
  | succ k ih =>
    intro c hn h
    rcases h with ⟨e, _⟩ | ⟨_, h⟩
    · exact absurd e (hn k (by omega))
    · exact ih c (fun i hi => hn i (by omega)) h
theorem D.Dup.split {E : Nat → Prop} (e g : Nat) : ∀ c, D.Dup E (e + g) c → ∃ c0, D.Dup E e c0 ∧ c0 ≤ c ∧ c ≤ c0 + g := by
  induction g with
  | zero => intro c h; exact ⟨c, h, Nat.le_refl _, Nat.le_refl _⟩
  | succ g ih =>
    intro c h
    rcases h with ⟨_, c', rfl, h⟩ | ⟨_, h⟩
    · obtain ⟨c0, a, b, d⟩ := ih c' h; exact ⟨c0, a, by omega, by omega⟩
    · obtain ⟨c0, a, b, d⟩ := ih c h; exact ⟨c0, a, b, by omega⟩
theorem D.Dup.cong {E E' : Nat → Prop} (k : Nat) : ∀ c, (∀ i, i < k → (E i ↔ E' i)) → D.Dup E k c → D.Dup E' k c := by
  induction k with
  | zero => intro c _ h; exact h
  | succ k ih =>
    intro c he h
    rcases h with ⟨e, c', rfl, h⟩ | ⟨e, h⟩
    · exact .inl ⟨(he k (by omega)).1 e, c', rfl, ih c' (fun i hi => he i (by omega)) h⟩
    · exact .inr ⟨fun x => e ((he k (by omega)).2 x), ih c (fun i hi => he i (by omega)) h⟩
/-- counts that agree on the first ticks differ by no more than the others -/
theorem D.Dup.near {E E' : Nat → Prop} {e k c c' : Nat} (hk : e ≤ k) (he : ∀ i, i < e → (E i ↔ E' i)) (h : D.Dup E k c) (h' : D.Dup E' k c') : c ≤ c' + (k - e) ∧ c' ≤ c + (k - e) := by
  obtain ⟨g, rfl⟩ : ∃ g, k = e + g := ⟨k - e, by omega⟩
  obtain ⟨c0, a, b, d⟩ := D.Dup.split e g c h
  obtain ⟨c1, a', b', d'⟩ := D.Dup.split e g c' h'
  have := D.Dup.one e c0 c1 (D.Dup.cong e c0 he a |> fun x => D.Dup.cong e c0 (fun i hi => (he i hi).symm) x) (D.Dup.cong e c1 (fun i hi => (he i hi).symm) a')
  omega

/-- equal local readings at ticks at which a town is as much ahead are those of one tick -/
theorem D.loc_one {h m s : Int} {x : Nat → Int} {n : Nat} (h1 : 1 ≤ h) (h2 : h ≤ 24) (m1 : 1 ≤ m) (m2 : m ≤ 60) (s1 : 2 ≤ s) (s2 : s ≤ 60) (n2 : n ≤ 10) {ah : Int} {M : List (Int × Int)} (ht : D.townOk (D.beg h m s x n) ah M = true) {i k : Nat} (hik : i < k) (kT : (k : Int) < D.beg h m s x n) (ha : D.ahAt ah M i M.length ≤ D.ahAt ah M k M.length) (hP : D.locP h m s x n ah M i = D.locP h m s x n ah M k) (hS : D.locS h m s x n i = D.locS h m s x n k) : False := by
  obtain ⟨u, a, e1, e2, e3, u0, u1, k0, k1, e4, e5, e6⟩ := D.local_is h1 h2 m1 m2 s1 n2 ht (t := (i : Int)) (by omega) (by omega)
  obtain ⟨u', a', e1', e2', e3', u0', u1', k0', k1', e4', e5', e6'⟩ := D.local_is h1 h2 m1 m2 s1 n2 ht (t := (k : Int)) (by omega) kT
  obtain ⟨P1, P2⟩ := D.mul_bd h m h1 h2 m1 m2
  unfold D.locP at hP
  injection hP with x1 x2
  injection x2 with x2 x3
  have c1 := D.cnt_parts (h := h) (m := m) (D.ltick h m s x n ah M i) h1 h2 m1 m2 (by omega) (by omega)
  have c2 := D.cnt_parts (h := h) (m := m) (D.ltick h m s x n ah M k) h1 h2 m1 m2 (by omega) (by omega)
  rw [x1, x2, x3, c2] at c1
  have r := D.rd_is (x := x) (n := n) (t := (i : Int)) h1 m1 s1 (by omega) (by omega)
  have r' := D.rd_is (x := x) (n := n) (t := (k : Int)) h1 m1 s1 (by omega) kT
  have lt := r.before r' h1 h2 m1 m2 s1 s2 (by omega)
  have q := (D.cnt_rd r h1 h2 m1 m2 n2).1
  have q' := (D.cnt_rd r' h1 h2 m1 m2 n2).1
  rw [e2, e2'] at ha
  unfold D.locS at hS
  unfold D.lt4 at lt
  have eu : u' ≤ u := by omega
  rw [e4, e5, e6, e4', e5', e6', hS] at lt
  have d1 := Int.ediv_le_ediv (show 0 < h * m by omega) eu
  have f := Int.emod_add_mul_ediv u (h * m)
  have f' := Int.emod_add_mul_ediv u' (h * m)
  rcases lt with l | ⟨l, l2⟩
  · omega
  · rw [l] at f
    have d2 := Int.ediv_le_ediv (show 0 < m by omega) (show u' % (h * m) ≤ u % (h * m) by omega)
    have g := Int.emod_add_mul_ediv (u % (h * m)) m
    have g' := Int.emod_add_mul_ediv (u' % (h * m)) m
    rcases l2 with l2 | ⟨l2, l3⟩
    · omega
    · rw [l2] at g
      rcases l3 with l3 | ⟨_, l3⟩
      · omega
      · omega

/-- is a town never less ahead than before? -/
def D.rises (ah : Int) (M : List (Int × Int)) : Prop := ∀ j, j < M.length → (if j = 0 then ah else (M.getD (j - 1) (0, 0)).2) ≤ (M.getD j (0, 0)).2
theorem D.ahAt_rises {ah : Int} {M : List (Int × Int)} (hr : D.rises ah M) {i k : Int} (hik : i ≤ k) (n : Nat) (hn : n ≤ M.length) : D.ahAt ah M i n ≤ D.ahAt ah M k n ∧ D.ahAt ah M i n ≤ (if n = 0 then ah else (M.getD (n - 1) (0, 0)).2) := by
  induction n with
  | zero => exact ⟨Int.le_refl _, Int.le_refl _⟩
  | succ n ih =>
    obtain ⟨a, b⟩ := ih (by omega)
    have q := hr n (by omega)
    rw [if_neg (by omega), Nat.add_sub_cancel, D.ahAt, D.ahAt]
    by_cases g : (M.getD n (0, 0)).1 ≤ i
    · rw [if_pos g, if_pos (by omega)]
      exact ⟨Int.le_refl _, Int.le_refl _⟩
    · rw [if_neg g]
      by_cases g2 : (M.getD n (0, 0)).1 ≤ k
      · rw [if_pos g2]; exact ⟨by omega, by omega⟩
      · rw [if_neg g2]; exact ⟨a, by omega⟩
section
variable {h m s : Int} {x : Nat → Int} {n : Nat} {ah : Int} {M : List (Int × Int)}
/-- where a town only rises nothing comes twice -/
theorem D.twice_rises (h1 : 1 ≤ h) (h2 : h ≤ 24) (m1 : 1 ≤ m) (m2 : m ≤ 60) (s1 : 2 ≤ s) (s2 : s ≤ 60) (n2 : n ≤ 10) (ht : D.townOk (D.beg h m s x n) ah M = true) (hr : D.rises ah M) {c : Nat} (hc : D.Dup (D.again (D.locP h m s x n ah M) (D.locS h m s x n)) (D.beg h m s x n).toNat c) : c = 0 :=
  D.Dup.nil _ c (fun k hk ⟨i, hi, hP, hS⟩ => D.loc_one h1 h2 m1 m2 s1 s2 n2 ht hi (by omega) (D.ahAt_rises hr (by omega) M.length (Nat.le_refl _)).1 hP hS) hc
/-- before the first change nothing comes twice -/
theorem D.twice_first (h1 : 1 ≤ h) (h2 : h ≤ 24) (m1 : 1 ≤ m) (m2 : m ≤ 60) (s1 : 2 ≤ s) (s2 : s ≤ 60) (n2 : n ≤ 10) (ht : D.townOk (D.beg h m s x n) ah M = true) (hM : 0 < M.length) {c : Nat} (hc : D.Dup (D.again (D.locP h m s x n ah M) (D.locS h m s x n)) (D.beg h m s x n).toNat c) : (c : Int) ≤ D.beg h m s x n - (M.getD 0 (0, 0)).1 := by
  obtain ⟨a1, a2, ml, mb, mi⟩ := D.town_bd ht
  have b0 := mb 0 hM
  have at0 : ∀ t : Int, t < (M.getD 0 (0, 0)).1 → D.ahAt ah M t M.length = ah := fun t htt => by
    rw [D.ahAt_in (j := 0) (by omega) (.inl rfl) (fun i _ i2 => by
      by_cases e : i = 0
      · rw [e]; exact htt
      · have := mi 0 i (by omega) i2; omega), if_pos rfl]
  generalize (M.getD 0 (0, 0)).1 = F at *
  obtain ⟨f, rfl⟩ : ∃ f : Nat, F = f := ⟨F.toNat, by omega⟩
  obtain ⟨g, hg⟩ : ∃ g : Nat, (D.beg h m s x n).toNat = f + g := ⟨(D.beg h m s x n).toNat - f, by omega⟩
  rw [hg] at hc
  obtain ⟨c0, q1, q2, q3⟩ := D.Dup.split f g c hc
  have z := D.Dup.nil f c0 (fun k hk ⟨i, hi, hP, hS⟩ => D.loc_one h1 h2 m1 m2 s1 s2 n2 ht hi (by omega) (by rw [at0 i (by omega), at0 k (by omega)]; exact Int.le_refl _) hP hS) q1
  omega
/-- without its last change a town has the same local readings before its tick -/
theorem D.ahAt_drop {k : Nat} (hk : M.length = k + 1) {t : Int} (htt : t < (M.getD k (0, 0)).1) : D.ahAt ah M t M.length = D.ahAt ah M.dropLast t M.dropLast.length := by
  have g : ∀ i, i < k → M.dropLast.getD i (0, 0) = M.getD i (0, 0) := fun i hi => by
    rw [List.getD_eq_getElem?_getD, List.getD_eq_getElem?_getD, List.getElem?_dropLast, if_pos (by omega)]
  have e : ∀ i, i ≤ k → D.ahAt ah M.dropLast t i = D.ahAt ah M t i := by
    intro i
    induction i with
    | zero => intro _; rfl
    | succ i ih => intro hi; rw [D.ahAt, D.ahAt, g i (by omega), ih (by omega)]
  rw [List.length_dropLast, hk, Nat.add_sub_cancel, e k (Nat.le_refl _), D.ahAt, if_neg (by omega)]
theorem D.twice_drop {k : Nat} (hk : M.length = k + 1) (ht : D.townOk (D.beg h m s x n) ah M = true) {c c' : Nat} (hc : D.Dup (D.again (D.locP h m s x n ah M) (D.locS h m s x n)) (D.beg h m s x n).toNat c) (hc' : D.Dup (D.again (D.locP h m s x n ah M.dropLast) (D.locS h m s x n)) (D.beg h m s x n).toNat c') :
    (c : Int) - c' ≤ D.beg h m s x n - (M.getD k (0, 0)).1 ∧ (c' : Int) - c ≤ D.beg h m s x n - (M.getD k (0, 0)).1 := by
  have b := (D.town_bd ht).2.2.2.1 k (by omega)
  have lp : ∀ i : Nat, (i : Int) < (M.getD k (0, 0)).1 → D.locP h m s x n ah M i = D.locP h m s x n ah M.dropLast i := fun i hi => by
    unfold D.locP D.ltick
    rw [D.ahAt_drop hk hi]
  have := D.Dup.near (e := ((M.getD k (0, 0)).1).toNat) (by omega) (fun i hi => by
    unfold D.again
    constructor
    · rintro ⟨j, hj, hP, hS⟩
      exact ⟨j, hj, by rw [← lp j (by omega), ← lp i (by omega)]; exact hP, hS⟩
    · rintro ⟨j, hj, hP, hS⟩
      exact ⟨j, hj, by rw [lp j (by omega), lp i (by omega)]; exact hP, hS⟩) hc hc'
  omega
theorem D.townOk_drop {T : Int} (ht : D.townOk T ah M = true) : D.townOk T ah M.dropLast = true := by
  simp only [D.townOk, Bool.and_eq_true, decide_eq_true_eq] at ht ⊢
  refine ⟨ht.1, by rw [List.length_dropLast]; omega, ?_, by rw [List.map_dropLast]; exact D.incr_drop _ _ ht.2.2.2⟩
  have q := ht.2.2.1
  simp only [D.aheads, List.all_eq_true] at q ⊢
  exact fun z hz => q z ((List.dropLast_sublist M).subset hz)
end

end Go.Proofs.Ytnkeofobhlafkaa
