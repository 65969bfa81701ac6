import GoSem.ClaimSeven
/- The mathematics of plans: how much ticks can add, the fewest ticks, and a plan. -/
namespace Go.Proofs.Ytckjggkikpgidaa

/-- the sum of the first values of a function -/
def S.sm (f : Nat → Int) : Nat → Int
  | 0 => 0
  | n + 1 => S.sm f n + f n
theorem S.sm_le {f g : Nat → Int} (n : Nat) (h : ∀ i, i < n → f i ≤ g i) : S.sm f n ≤ S.sm g n := by
  induction n with
  | zero => exact Int.le_refl _
  | succ n ih =>
    have a := ih (fun i hi => h i (by omega))
    have b := h n (by omega)
    simp only [S.sm]; omega
theorem S.sm_eq {f g : Nat → Int} (n : Nat) (h : ∀ i, i < n → f i = g i) : S.sm f n = S.sm g n := by
  induction n with
  | zero => rfl
  | succ n ih => simp only [S.sm]; rw [ih (fun i hi => h i (by omega)), h n (by omega)]
theorem S.sm_bd {f : Nat → Int} (n : Nat) (l u : Int) (h : ∀ i, i < n → l ≤ f i ∧ f i ≤ u) : n * l ≤ S.sm f n ∧ S.sm f n ≤ n * u := by
  induction n with
  | zero => simp [S.sm]
  | succ n ih =>
    have a := ih (fun i hi => h i (by omega))
    have b := h n (by omega)
    have e1 : ((n + 1 : Nat) : Int) * l = n * l + l := by rw [Int.natCast_add, Int.add_mul]; simp
    have e2 : ((n + 1 : Nat) : Int) * u = n * u + u := by rw [Int.natCast_add, Int.add_mul]; simp
    rw [e1, e2]
    simp only [S.sm]; omega
theorem S.sm_zero (n : Nat) : S.sm (fun _ => 0) n = 0 := by
  induction n with
  | zero => rfl
  | succ n ih => simp only [S.sm]; rw [ih]; rfl
theorem S.sm_mul (c : Int) (f : Nat → Int) (n : Nat) : S.sm (fun i => c * f i) n = c * S.sm f n := by
  induction n with
  | zero => simp [S.sm]
  | succ n ih => simp only [S.sm]; rw [ih, Int.mul_add]

/-- how much a tick so far from the nearer end can add, at most -/
def S.can (e j : Int) : Nat → Int
  | 0 => 0
  | t + 1 => min (S.can e j t + j) e
theorem S.can_bd {e j : Int} (he : 0 ≤ e) (hj : 0 ≤ j) (t : Nat) : 0 ≤ S.can e j t ∧ S.can e j t ≤ e := by
  induction t with
  | zero => exact ⟨Int.le_refl _, he⟩
  | succ t ih => simp only [S.can]; omega
theorem S.can_step {e j : Int} (he : 0 ≤ e) (hj : 0 ≤ j) (t : Nat) : S.can e j t ≤ S.can e j (t + 1) ∧ S.can e j (t + 1) ≤ S.can e j t + j := by
  have := S.can_bd he hj t
  simp only [S.can]; omega
theorem S.can_mono {e j : Int} (he : 0 ≤ e) (hj : 0 ≤ j) {t u : Nat} (h : t ≤ u) : S.can e j t ≤ S.can e j u := by
  induction u with
  | zero => rw [show t = 0 by omega]; exact Int.le_refl _
  | succ u ih =>
    by_cases g : t = u + 1
    · rw [g]; exact Int.le_refl _
    · have := S.can_step he hj u
      have := ih (by omega)
      omega
theorem S.can_is {e j : Int} (he : 0 ≤ e) (hj : 0 ≤ j) (t : Nat) : S.can e j t = min (t * j) e := by
  induction t with
  | zero => simp [S.can]; omega
  | succ t ih =>
    have e1 : ((t + 1 : Nat) : Int) * j = t * j + j := by rw [Int.natCast_add, Int.add_mul]; simp
    simp only [S.can]; rw [ih, e1]; omega
theorem S.can_zero {j : Int} (hj : 0 ≤ j) (t : Nat) : S.can 0 j t = 0 := by
  have := S.can_bd (Int.le_refl 0) hj t; omega
theorem S.can_e {e e' j j' : Int} (h : e ≤ e') (hj : j ≤ j') (t : Nat) : S.can e j t ≤ S.can e' j' t := by
  induction t with
  | zero => exact Int.le_refl _
  | succ t ih => simp only [S.can]; omega

/-- how much each of so many ticks can add, at most, and all of them -/
def S.add (e j : Int) (n i : Nat) : Int := S.can e j (min (i + 1) (n - i))
def S.most (e j : Int) (n : Nat) : Int := S.sm (S.add e j n) n
theorem S.add_bd {e j : Int} (he : 0 ≤ e) (hj : 0 ≤ j) (n i : Nat) : 0 ≤ S.add e j n i ∧ S.add e j n i ≤ e := S.can_bd he hj _
theorem S.add_one {e j : Int} (he : 0 ≤ e) (hj : 0 ≤ j) (n i : Nat) (h : i = 0 ∨ i + 1 = n) : S.add e j n i ≤ j := by
  have c1 : S.can e j 1 ≤ j := by simp only [S.can]; omega
  have c0 := S.can_mono he hj (show min (i + 1) (n - i) ≤ 1 by omega)
  unfold S.add; omega
theorem S.add_near {e j : Int} (he : 0 ≤ e) (hj : 0 ≤ j) (n i : Nat) : S.add e j n (i + 1) ≤ S.add e j n i + j ∧ S.add e j n i ≤ S.add e j n (i + 1) + j := by
  unfold S.add
  have a := S.can_step he hj (min (i + 1) (n - i))
  have b := S.can_step he hj (min (i + 1 + 1) (n - (i + 1)))
  have c := S.can_mono he hj (show min (i + 1 + 1) (n - (i + 1)) ≤ min (i + 1) (n - i) + 1 by omega)
  have d := S.can_mono he hj (show min (i + 1) (n - i) ≤ min (i + 1 + 1) (n - (i + 1)) + 1 by omega)
  omega
theorem S.add_more {e j : Int} (he : 0 ≤ e) (hj : 0 ≤ j) (n i : Nat) : S.add e j n i ≤ S.add e j (n + 1) i := S.can_mono he hj (by omega)
theorem S.most_bd {e j : Int} (he : 0 ≤ e) (hj : 0 ≤ j) (n : Nat) : 0 ≤ S.most e j n ∧ S.most e j n ≤ n * e := by
  have := S.sm_bd (f := S.add e j n) n 0 e (fun i _ => S.add_bd he hj n i)
  unfold S.most; simpa using this
theorem S.most_succ {e j : Int} (he : 0 ≤ e) (hj : 0 ≤ j) (n : Nat) : S.most e j n ≤ S.most e j (n + 1) := by
  have a := S.sm_le (f := S.add e j n) (g := S.add e j (n + 1)) n (fun i _ => S.add_more he hj n i)
  have b := S.add_bd he hj (n + 1) n
  unfold S.most; simp only [S.sm]; omega
theorem S.most_mono {e j : Int} (he : 0 ≤ e) (hj : 0 ≤ j) {n m : Nat} (h : n ≤ m) : S.most e j n ≤ S.most e j m := by
  induction m with
  | zero => rw [show n = 0 by omega]; exact Int.le_refl _
  | succ m ih =>
    by_cases g : n = m + 1
    · rw [g]; exact Int.le_refl _
    · have := S.most_succ he hj m
      have := ih (by omega)
      omega
theorem S.most_e {e e' j j' : Int} (h : e ≤ e') (hj : j ≤ j') (n : Nat) : S.most e j n ≤ S.most e' j' n :=
  S.sm_le n (fun _ _ => S.can_e h hj _)

/-- the adjustments of a plan: up to a level, and by 1 higher as long as something is left -/
def S.lo (A : Nat → Int) (L : Int) (i : Nat) : Int := min (A i) L
def S.left (A : Nat → Int) (L c : Int) : Nat → Int
  | 0 => c
  | i + 1 => S.left A L c i - min (S.lo A (L + 1) i - S.lo A L i) (S.left A L c i)
def S.bit (A : Nat → Int) (L c : Int) (i : Nat) : Int := S.lo A L i + min (S.lo A (L + 1) i - S.lo A L i) (S.left A L c i)
theorem S.lo_bd {A : Nat → Int} (L : Int) (i : Nat) : 0 ≤ S.lo A (L + 1) i - S.lo A L i ∧ S.lo A (L + 1) i - S.lo A L i ≤ 1 := by unfold S.lo; omega
theorem S.left_is {A : Nat → Int} {L c : Int} (hc : 0 ≤ c) (i : Nat) : S.left A L c i = max 0 (c - (S.sm (S.lo A (L + 1)) i - S.sm (S.lo A L) i)) := by
  induction i with
  | zero => simp only [S.left, S.sm]; omega
  | succ i ih =>
    have := S.lo_bd (A := A) L i
    simp only [S.left, S.sm]; rw [ih]; omega
theorem S.bit_sum {A : Nat → Int} {L c : Int} (n : Nat) : S.sm (S.bit A L c) n = S.sm (S.lo A L) n + (c - S.left A L c n) := by
  induction n with
  | zero => simp only [S.left, S.sm]; omega
  | succ n ih => simp only [S.left, S.sm, S.bit]; rw [ih]; omega
theorem S.bit_bd {A : Nat → Int} {L c : Int} (hc : 0 ≤ c) (i : Nat) : S.lo A L i ≤ S.bit A L c i ∧ S.bit A L c i ≤ S.lo A (L + 1) i := by
  have a := S.lo_bd (A := A) L i
  have b := S.left_is (A := A) (L := L) hc i
  unfold S.bit; omega
theorem S.bit_near {A : Nat → Int} {L c j : Int} (hc : 0 ≤ c) (hj : 1 ≤ j) (i : Nat) (h1 : A (i + 1) ≤ A i + j) (h2 : A i ≤ A (i + 1) + j) : S.bit A L c (i + 1) ≤ S.bit A L c i + j ∧ S.bit A L c i ≤ S.bit A L c (i + 1) + j := by
  have a := S.bit_bd (A := A) (L := L) hc i
  have b := S.bit_bd (A := A) (L := L) hc (i + 1)
  unfold S.lo at a b; omega

/-- the level of a plan -/
structure S.Level (A : Nat → Int) (n : Nat) (c L : Int) : Prop where
  l0 : 0 ≤ L
  fits : S.sm (S.lo A L) n ≤ c
  full : L < 500 → c < S.sm (S.lo A (L + 1)) n
  top : L ≤ 500
theorem S.Level.sum {A : Nat → Int} {n : Nat} {c L : Int} (h : S.Level A n c L) (hA : ∀ i, i < n → A i ≤ 500) (hc : c ≤ S.sm A n) : S.sm (S.bit A L (c - S.sm (S.lo A L) n)) n = c := by
  have f := h.fits
  have t := h.top
  rw [S.bit_sum, S.left_is (by omega)]
  by_cases g : L < 500
  · have := h.full g; omega
  · have e : S.sm (S.lo A L) n = S.sm A n := S.sm_eq n (fun i hi => by have := hA i hi; unfold S.lo; omega)
    have e2 : S.sm (S.lo A (L + 1)) n = S.sm A n := S.sm_eq n (fun i hi => by have := hA i hi; unfold S.lo; omega)
    omega

/-- do adjustments keep a rule? -/
def S.keeps (f s j : Int) : Int → List Int → Bool
  | _, [] => true
  | last, x :: l => decide (-s ≤ x) && decide (x ≤ f) && decide (-j ≤ x - last) && decide (x - last ≤ j) && S.keeps f s j x l
/-- do they end smoothly? -/
def S.smooth (j : Int) (l : List Int) : Bool := match l.getLast? with | none => true | some x => decide (-j ≤ x) && decide (x ≤ j)
/-- so many values of a function, from one on -/
def S.list (f : Nat → Int) : Nat → Nat → List Int
  | 0, _ => []
  | k + 1, i => f i :: S.list f k (i + 1)
theorem S.list_is (f : Nat → Int) (k i : Nat) : S.list f k i = (List.range k).map fun x => f (i + x) := by
  induction k generalizing i with
  | zero => rfl
  | succ k ih =>
    rw [S.list, ih, List.range_succ_eq_map, List.map_cons, List.map_map]
    have e : (List.range k).map (fun x => f (i + 1 + x)) = (List.range k).map ((fun x => f (i + x)) ∘ Nat.succ) := List.map_congr_left fun x _ => by
      show f (i + 1 + x) = f (i + (x + 1))
      congr 1; omega
    rw [e]; rfl
theorem S.keeps_list {f s j : Int} (g : Nat → Int) (n : Nat) (h1 : ∀ i, i < n → -s ≤ g i ∧ g i ≤ f) (h2 : ∀ i, i + 1 < n → g (i + 1) - g i ≤ j ∧ -j ≤ g (i + 1) - g i) (k i : Nat) (hk : i + k = n) (last : Int) (hl : 0 < k → g i - last ≤ j ∧ -j ≤ g i - last) : S.keeps f s j last (S.list g k i) = true := by
  induction k generalizing i last with
  | zero => rfl
  | succ k ih =>
    have a := h1 i (by omega)
    have b := hl (by omega)
    have c := ih (i + 1) (by omega) (g i) (fun hk => h2 i (by omega))
    simp only [S.list, S.keeps, Bool.and_eq_true, decide_eq_true_eq]
    exact ⟨⟨⟨⟨a.1, a.2⟩, b.2⟩, b.1⟩, c⟩
theorem S.smooth_list {j : Int} (g : Nat → Int) (n : Nat) (h : 0 < n → g (n - 1) ≤ j ∧ -j ≤ g (n - 1)) : S.smooth j (S.list g n 0) = true := by
  cases n with
  | zero => rfl
  | succ n =>
    have q := h (by omega)
    rw [S.list_is, S.smooth, List.range_succ, List.map_append]
    simp only [List.map_cons, List.map_nil, List.getLast?_append, List.getLast?_singleton, Option.some_or, Nat.zero_add]
    simp only [Nat.add_sub_cancel] at q
    simp [q]
theorem S.sum_list (g : Nat → Int) (k : Nat) : (S.list g k 0).sum = S.sm g k := by
  rw [S.list_is]
  induction k with
  | zero => rfl
  | succ k ih => rw [List.range_succ, List.map_append, List.sum_append, ih]; simp [S.sm]

end Go.Proofs.Ytckjggkikpgidaa
