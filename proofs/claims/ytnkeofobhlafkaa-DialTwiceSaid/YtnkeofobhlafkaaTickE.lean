import Derived.Test.YtnkeofobhlafkaaTickA
/- What a calendar without its last decree has: its days, and its ticks' readings. -/
namespace Go.Proofs.Ytnkeofobhlafkaa
open Go.RowKit

theorem D.dy_at {h m s : Int} {x : Nat → Int} {n j : Nat} {t : Int} (h1 : 1 ≤ h) (h2 : h ≤ 24) (m1 : 1 ≤ m) (m2 : m ≤ 60) (s1 : 2 ≤ s) (s2 : s ≤ 60) (hj : j < n) (t0 : 0 ≤ t) (b : D.beg h m s x j ≤ t) (c : t < D.beg h m s x (j + 1)) : D.dy h m s x t n = j := by
  have l := D.beg_mono h m s x h1 h2 m1 m2 s1 s2 (j + 1) n (by omega)
  obtain ⟨_, b', c'⟩ := D.dy_is h m s x t t0 n (by omega)
  generalize D.dy h m s x t n = i at *
  by_cases e : i < j
  · have := D.beg_mono h m s x h1 h2 m1 m2 s1 s2 (i + 1) j (by omega)
    omega
  · by_cases e2 : j < i
    · have := D.beg_mono h m s x h1 h2 m1 m2 s1 s2 (j + 1) i (by omega)
      omega
    · omega
theorem D.rd_move {h m s : Int} {x y : Nat → Int} {n j : Nat} {t u : Int} (h1 : 1 ≤ h) (h2 : h ≤ 24) (m1 : 1 ≤ m) (m2 : m ≤ 60) (s1 : 2 ≤ s) (s2 : s ≤ 60) (hj : j < n) (t0 : 0 ≤ t) (b : D.beg h m s x j ≤ t) (c : t < D.beg h m s x (j + 1)) (u0 : 0 ≤ u) (b' : D.beg h m s y j ≤ u) (c' : u < D.beg h m s y (j + 1)) (e : t - D.beg h m s x j = u - D.beg h m s y j) :
    D.rA h m s x n t = D.rA h m s y n u ∧ D.rB h m s x n t = D.rB h m s y n u ∧ D.rC h m s x n t = D.rC h m s y n u ∧ D.rS h m s x n t = D.rS h m s y n u := by
  have e1 := D.dy_at h1 h2 m1 m2 s1 s2 hj t0 b c
  have e2 := D.dy_at h1 h2 m1 m2 s1 s2 hj u0 b' c'
  have r : D.rR h m s x n t = D.rR h m s y n u := by unfold D.rR; rw [e1, e2, e]
  unfold D.rA D.rB D.rC D.rS
  rw [e1, e2, r]
  exact ⟨rfl, rfl, rfl, rfl⟩
theorem D.beg_move {h m s : Int} {x y : Nat → Int} {dd : Nat} {v : Int} (hx : ∀ j, j ≠ dd → x j = y j) (hd : D.len h m s (x dd) = D.len h m s (y dd) + v) (j : Nat) : D.beg h m s x j = D.beg h m s y j + (if dd < j then v else 0) := by
  induction j with
  | zero => rw [D.beg_zero, D.beg_zero]; simp
  | succ j ih =>
    rw [D.beg_succ, D.beg_succ, ih]
    by_cases e : j = dd
    · subst e
      rw [hd, if_neg (by omega), if_pos (by omega)]
      omega
    · rw [hx j e]
      by_cases g : dd < j
      · rw [if_pos g, if_pos (by omega)]; omega
      · rw [if_neg g, if_neg (by omega)]; omega
theorem D.deeds_drop {L : List (Int × Bool)} {k : Nat} (hk : L.length = k + 1) : D.deeds L.dropLast L.dropLast.length = D.deeds L k := by
  have g : ∀ i, i < k → L.dropLast.getD i (0, false) = L.getD i (0, false) := fun i hi => by
    rw [List.getD_eq_getElem?_getD, List.getD_eq_getElem?_getD, List.getElem?_dropLast, if_pos (by omega)]
  have : ∀ i, i ≤ k → D.deeds L.dropLast i = D.deeds L i := by
    intro i
    induction i with
    | zero => intro _; rfl
    | succ i ih =>
      intro hi
      funext j
      unfold D.deeds
      rw [g i (by omega), ih (by omega)]
  rw [List.length_dropLast, hk]
  exact this k (Nat.le_refl _)
theorem D.incr_drop {p : Int → Bool} (l : List Int) (a : Int) (h : D.incr p a l = true) : D.incr p a l.dropLast = true := by
  induction l generalizing a with
  | nil => rfl
  | cons n l ih =>
    simp only [D.incr, Bool.and_eq_true, decide_eq_true_eq] at h
    cases l with
    | nil => rfl
    | cons z l =>
      rw [List.dropLast_cons_of_ne_nil (by simp)]
      simp only [D.incr, Bool.and_eq_true, decide_eq_true_eq]
      exact ⟨h.1, ih n h.2⟩
theorem D.valid_drop {h m s d : Int} {L : List (Int × Bool)} (hv : D.valid h m s d L = true) : D.valid h m s d L.dropLast = true := by
  simp only [D.valid, Bool.and_eq_true, decide_eq_true_eq] at hv ⊢
  refine ⟨hv.1, by rw [List.length_dropLast]; omega, ?_⟩
  rw [List.map_dropLast]
  exact D.incr_drop _ _ hv.2.2
theorem D.decree {h m s d : Int} {L : List (Int × Bool)} {k : Nat} (hk : L.length = k + 1) (hv : D.valid h m s d L = true) :
    ∃ dd : Nat, (L.getD k (0, false)).1 = dd ∧ (dd : Int) < d ∧ D.deeds L k dd = 0 ∧ ∀ j : Nat, D.deeds L (k + 1) j = if j = dd then (if (L.getD k (0, false)).2 = true then 1 else 2) else D.deeds L k j := by
  simp only [D.valid, Bool.and_eq_true, decide_eq_true_eq] at hv
  have g : ∀ i, i < k + 1 → (L.map (·.1)).getD i 0 = (L.getD i (0, false)).1 := fun i hi => by
    rw [List.getD_eq_getElem?_getD, List.getElem?_map, List.getD_eq_getElem?_getD, List.getElem?_eq_getElem (by omega)]
    rfl
  have a := D.incr_all _ _ _ hv.2.2 k (by rw [List.length_map]; omega)
  rw [g k (by omega)] at a
  have a' := inB_iff.1 a
  refine ⟨(L.getD k (0, false)).1.toNat, by omega, by omega, ?_, fun j => ?_⟩
  · refine D.deeds_none L _ k (fun i hi => ?_)
    have q := D.incr_lt hv.2.2 i k hi (by rw [List.length_map]; omega)
    rw [g i (by omega), g k (by omega)] at q
    omega
  · rw [D.deeds]
    by_cases e : j = (L.getD k (0, false)).1.toNat
    · rw [if_pos e, if_pos (by omega)]
    · rw [if_neg e, if_neg (by omega)]

/-- the readings before the decree can be seen, and those of later days -/
theorem D.decreed {h m s d : Int} {L : List (Int × Bool)} {k n : Nat} (hk : L.length = k + 1) (hv : D.valid h m s d L = true) (hn : n = d.toNat) {dd : Nat} (e1 : (L.getD k (0, false)).1 = dd) {v : Int} (hvv : v = if (L.getD k (0, false)).2 = true then 1 else -1) :
    (∀ j, D.beg h m s (D.deeds L (k + 1)) j = D.beg h m s (D.deeds L k) j + (if dd < j then v else 0)) ∧ D.len h m s (D.deeds L (k + 1) dd) = h * m * s + v ∧
    (∀ t, 0 ≤ t → t < D.beg h m s (D.deeds L (k + 1)) dd + h * m * s + min v 0 → ∀ F : Int → Int → Int → Int → Prop, F (D.rA h m s (D.deeds L (k + 1)) n t) (D.rB h m s (D.deeds L (k + 1)) n t) (D.rC h m s (D.deeds L (k + 1)) n t) (D.rS h m s (D.deeds L (k + 1)) n t) → F (D.rA h m s (D.deeds L k) n t) (D.rB h m s (D.deeds L k) n t) (D.rC h m s (D.deeds L k) n t) (D.rS h m s (D.deeds L k) n t)) ∧
    (∀ t, D.beg h m s (D.deeds L (k + 1)) (dd + 1) ≤ t → t < D.beg h m s (D.deeds L (k + 1)) n → ∀ F : Int → Int → Int → Int → Prop, F (D.rA h m s (D.deeds L (k + 1)) n t) (D.rB h m s (D.deeds L (k + 1)) n t) (D.rC h m s (D.deeds L (k + 1)) n t) (D.rS h m s (D.deeds L (k + 1)) n t) → F (D.rA h m s (D.deeds L k) n (t - v)) (D.rB h m s (D.deeds L k) n (t - v)) (D.rC h m s (D.deeds L k) n (t - v)) (D.rS h m s (D.deeds L k) n (t - v))) := by
  obtain ⟨h1, h2, m1, m2, s1, s2, d1, d2⟩ := D.valid_bd hv
  obtain ⟨dd', f1, f2, f3, f4⟩ := D.decree hk hv
  obtain rfl : dd' = dd := by omega
  have hx : ∀ j, j ≠ dd' → D.deeds L (k + 1) j = D.deeds L k j := fun j e => by rw [f4, if_neg e]
  have hm : D.more 0 = 0 := rfl
  have vd : v = D.more (D.deeds L (k + 1) dd') := by
    rw [f4, if_pos rfl, hvv]
    split <;> rfl
  have hd : D.len h m s (D.deeds L (k + 1) dd') = D.len h m s (D.deeds L k dd') + v := by
    rw [D.len_more, D.len_more, f3, hm, ← vd]; omega
  have B := D.beg_move hx hd
  have ly : D.len h m s (D.deeds L k dd') = h * m * s := by rw [D.len_more, f3, hm]; omega
  have vb : v = 1 ∨ v = -1 := by rw [hvv]; split <;> simp
  obtain ⟨P1, P2⟩ := D.mul_bd h m h1 h2 m1 m2
  have Q1 : 1 * 2 ≤ h * m * s := Int.mul_le_mul P1 s1 (by omega) (by omega)
  refine ⟨B, by rw [hd, ly], fun t t0 t1 F hF => ?_, fun t t0 t1 F hF => ?_⟩
  · have bs := D.beg_succ h m s (D.deeds L (k + 1)) dd'
    rw [hd, ly] at bs
    have bt : t < D.beg h m s (D.deeds L (k + 1)) (dd' + 1) := by omega
    have bn := D.beg_mono h m s (D.deeds L (k + 1)) h1 h2 m1 m2 s1 s2 (dd' + 1) n (by omega)
    obtain ⟨p1, p2, p3⟩ := D.dy_is h m s (D.deeds L (k + 1)) t t0 n (by omega)
    generalize D.dy h m s (D.deeds L (k + 1)) t n = j at p1 p2 p3
    have hj : j ≤ dd' := by
      by_cases e : j ≤ dd'
      · exact e
      · have := D.beg_mono h m s (D.deeds L (k + 1)) h1 h2 m1 m2 s1 s2 (dd' + 1) j (by omega)
        omega
    have bj := B j
    rw [if_neg (by omega)] at bj
    have bj1 := B (j + 1)
    have up : t < D.beg h m s (D.deeds L k) (j + 1) := by
      by_cases e : j = dd'
      · subst e
        have := D.beg_succ h m s (D.deeds L k) j
        omega
      · rw [if_neg (by omega)] at bj1
        omega
    obtain ⟨g1, g2, g3, g4⟩ := D.rd_move (x := D.deeds L (k + 1)) (y := D.deeds L k) (u := t) h1 h2 m1 m2 s1 s2 p1 t0 p2 p3 t0 (by omega) up (by omega)
    rw [← g1, ← g2, ← g3, ← g4]
    exact hF
  · have b0 := D.beg_mono h m s (D.deeds L (k + 1)) h1 h2 m1 m2 s1 s2 0 dd' (by omega)
    rw [D.beg_zero] at b0
    have bs := D.beg_succ h m s (D.deeds L (k + 1)) dd'
    rw [hd, ly] at bs
    obtain ⟨p1, p2, p3⟩ := D.dy_is h m s (D.deeds L (k + 1)) t (by omega) n (by omega)
    generalize D.dy h m s (D.deeds L (k + 1)) t n = j at p1 p2 p3
    have hj : dd' < j := by
      by_cases e : dd' < j
      · exact e
      · have := D.beg_mono h m s (D.deeds L (k + 1)) h1 h2 m1 m2 s1 s2 (j + 1) (dd' + 1) (by omega)
        omega
    have bj := B j
    rw [if_pos hj] at bj
    have bj1 := B (j + 1)
    rw [if_pos (by omega)] at bj1
    obtain ⟨g1, g2, g3, g4⟩ := D.rd_move (x := D.deeds L (k + 1)) (y := D.deeds L k) (u := t - v) h1 h2 m1 m2 s1 s2 p1 (by omega) p2 p3 (by omega) (by omega) (by omega) (by omega)
    rw [← g1, ← g2, ← g3, ← g4]
    exact hF

end Go.Proofs.Ytnkeofobhlafkaa

/- The ticks of a local reading: a tick is one of them just if it has that reading. -/
namespace Go.Proofs.Ytnkeofobhlafkaa
open Go.RowKit

theorem wrap64_in {z : Int} (h : -9223372036854775808 ≤ z ∧ z ≤ 9223372036854775807) : wrap64 z = z := by
  unfold wrap64; omega

/-- the reading of a tick is the only one that hangs together so -/
theorem D.Rd.is {h m s : Int} {x : Nat → Int} {n : Nat} {t A B C S q : Int} {j : Nat} (r : D.Rd h m s x n t A B C S q j) (h1 : 1 ≤ h) (h2 : h ≤ 24) (m1 : 1 ≤ m) (m2 : m ≤ 60) (s1 : 2 ≤ s) (s2 : s ≤ 60) :
    D.rA h m s x n t = A ∧ D.rB h m s x n t = B ∧ D.rC h m s x n t = C ∧ D.rS h m s x n t = S := by
  have a := r.at_
  have y := Int.mul_nonneg r.q0 (show 0 ≤ s by omega)
  have z := r.s0
  have top := r.top
  have b0 := (D.beg_bd h m s x h1 h2 m1 m2 s1 s2 j).1
  have ed := D.dy_at h1 h2 m1 m2 s1 s2 r.lt (show 0 ≤ t by omega) (by omega) top
  have er : D.rR h m s x n t = q * s + S := by unfold D.rR; rw [ed]; omega
  have eq : D.q h m s (q * s + S) = q := by
    have ev : (q * s + S) / s = q + S / s := by rw [Int.add_comm, Int.add_mul_ediv_right _ _ (by omega), Int.add_comm]
    unfold D.q
    rw [ev]
    by_cases g : q < h * m - 1
    · rw [Int.ediv_eq_zero_of_lt z (r.s2 g)]
      omega
    · have := r.q1
      have := Int.ediv_nonneg z (show 0 ≤ s by omega)
      omega
  unfold D.rA D.rB D.rC D.rS
  rw [ed, er, eq]
  exact ⟨r.day.symm, r.hour.symm, r.min.symm, by omega⟩

/-- a reading of the calendar is its tick's reading -/
theorem D.isRd_rd {h m s : Int} {x : Nat → Int} {n : Nat} {u S : Int} (h1 : 1 ≤ h) (h2 : h ≤ 24) (m1 : 1 ≤ m) (m2 : m ≤ 60) (s1 : 2 ≤ s) (s2 : s ≤ 60) (hr : D.isRd h m s n x (u / (h * m)) (u % (h * m) / m) (u % (h * m) % m) S = true) :
    D.Rd h m s x n (D.tk h m s x (u / (h * m)) (u % (h * m) / m) (u % (h * m) % m) S) (u / (h * m)) (u % (h * m) / m) (u % (h * m) % m) S (u % (h * m)) (u / (h * m)).toNat := by
  obtain ⟨a0, a1, b0, b1, c0, c1, q0, q1, q2⟩ := D.isRd_bd h1 h2 m1 m2 s1 s2 hr
  obtain ⟨f1, f2⟩ := D.mul_bd h m h1 h2 m1 m2
  have g1 := Int.emod_nonneg u (b := h * m) (by omega)
  have g2 := Int.emod_lt_of_pos u (b := h * m) (by omega)
  have g3 := Int.emod_add_mul_ediv (u % (h * m)) m
  generalize u % (h * m) = q at *
  generalize u / (h * m) = A at *
  have bm : q / m * m + q % m = q := by rw [Int.mul_comm]; omega
  have hml : D.mlen h m s x A (q / m) (q % m) = if q < h * m - 1 then s else D.lastM s (x A.toNat) := by
    unfold D.mlen
    have e : (q / m < h - 1 ∨ q % m < m - 1) ↔ q < h * m - 1 := by
      constructor
      · intro o
        by_cases e1 : q / m < h - 1
        · have : (q / m + 1) * m ≤ (h - 1) * m := Int.mul_le_mul_of_nonneg_right (by omega) (by omega)
          rw [Int.add_mul, Int.sub_mul] at this
          omega
        · have e2 : q / m = h - 1 := by omega
          rw [e2, Int.sub_mul] at bm
          omega
      · intro o
        by_cases e1 : q / m < h - 1
        · exact .inl e1
        · have e2 : q / m = h - 1 := by omega
          rw [e2, Int.sub_mul] at bm
          right; omega
    by_cases g : q < h * m - 1
    · rw [if_pos (e.2 g), if_pos g]
    · rw [if_neg (fun o => g (e.1 o)), if_neg g]
  have at_ : D.tk h m s x A (q / m) (q % m) S = D.beg h m s x A.toNat + q * s + S := by unfold D.tk; rw [bm]
  have le : D.len h m s (x A.toNat) = (h * m - 1) * s + D.lastM s (x A.toNat) := rfl
  have lb := D.lastM_bd s (x A.toNat)
  have s2' : q < h * m - 1 → S < s := fun g => by rw [hml, if_pos g] at q2; exact q2
  refine ⟨by omega, by omega, rfl, rfl, g1, by omega, at_, q0, q2, s2', ?_⟩
  rw [at_, D.beg_succ, le]
  by_cases g : q < h * m - 1
  · have := s2' g
    have k1 : (q + 1) * s ≤ (h * m - 1) * s := Int.mul_le_mul_of_nonneg_right (by omega) (by omega)
    rw [Int.add_mul] at k1
    omega
  · have e : q = h * m - 1 := by omega
    rw [hml, if_neg g] at q2
    rw [e]
    omega

/-- the minute, counted through, of parts as they come from dividing it -/
theorem D.cnt_parts {h m : Int} (u : Int) (h1 : 1 ≤ h) (h2 : h ≤ 24) (m1 : 1 ≤ m) (m2 : m ≤ 60) (u1 : -1000000000000 ≤ u) (u2 : u ≤ 1000000000000) : D.cnt h m (u / (h * m)) (u % (h * m) / m) (u % (h * m) % m) = u := by
  obtain ⟨f1, f2⟩ := D.mul_bd h m h1 h2 m1 m2
  have g1 := Int.emod_nonneg u (b := h * m) (by omega)
  have g2 := Int.emod_lt_of_pos u (b := h * m) (by omega)
  have g3 := Int.emod_add_mul_ediv (u % (h * m)) m
  have g4 := Int.emod_add_mul_ediv u (h * m)
  have g5 := Int.emod_nonneg (u % (h * m)) (b := m) (by omega)
  have g6 := Int.emod_lt_of_pos (u % (h * m)) (b := m) (by omega)
  have e1 : u / (h * m) * (h * m) = u - u % (h * m) := by rw [Int.mul_comm]; omega
  have e2 : u % (h * m) / m * m = u % (h * m) - u % (h * m) % m := by rw [Int.mul_comm]; omega
  unfold D.cnt
  rw [e1, e2, wrap64_in (z := u - u % (h * m)) (by omega), wrap64_in (z := u % (h * m) - u % (h * m) % m) (by omega)]
  simp only [D.tot, List.foldr_cons, List.foldr_nil]
  rw [wrap64_in (by omega)]
  omega

theorem D.cnt_rd {h m s : Int} {x : Nat → Int} {n : Nat} {t A B C S q : Int} {j : Nat} (r : D.Rd h m s x n t A B C S q j) (h1 : 1 ≤ h) (h2 : h ≤ 24) (m1 : 1 ≤ m) (m2 : m ≤ 60) (n2 : n ≤ 10) :
    D.cnt h m A B C = A * (h * m) + q ∧ 0 ≤ A * (h * m) + q ∧ A * (h * m) + q < n * (h * m) ∧ n * (h * m) ≤ 14400 ∧ (A * (h * m) + q) / (h * m) = A ∧ (A * (h * m) + q) % (h * m) = q := by
  obtain ⟨P1, P2⟩ := D.mul_bd h m h1 h2 m1 m2
  have q0 := r.q0
  have q1 := r.q1
  have hl := r.lt
  have a0 := Int.mul_nonneg (show 0 ≤ (j : Int) by omega) (show 0 ≤ h * m by omega)
  have a1 : ((j : Int) + 1) * (h * m) ≤ n * (h * m) := Int.mul_le_mul_of_nonneg_right (by omega) (by omega)
  have a2 : (n : Int) * (h * m) ≤ 10 * 1440 := Int.mul_le_mul (by omega) P2 (by omega) (by omega)
  rw [Int.add_mul] at a1
  have hd := r.day
  have eu := (Int.ediv_emod_unique (a := A * (h * m) + q) (b := h * m) (r := q) (q := A) (by omega)).2 ⟨by rw [Int.mul_comm]; omega, by omega, by omega⟩
  have ec := D.cnt_parts (h := h) (m := m) (A * (h * m) + q) h1 h2 m1 m2 (by rw [hd]; omega) (by rw [hd]; omega)
  rw [eu.1, eu.2, ← r.hour, ← r.min] at ec
  exact ⟨ec, by rw [hd]; omega, by rw [hd]; omega, by omega, eu.1, eu.2⟩

/-- the periods' numbers -/
theorem D.pers_at (T f a : Int) (M : List (Int × Int)) (j : Nat) (hj : j ≤ M.length) :
    (D.pers T f a M).getD (j * 3) 0 = (if j = 0 then f else (M.getD (j - 1) (0, 0)).1) ∧ (D.pers T f a M).getD (j * 3 + 1) 0 = (if j = M.length then T else (M.getD j (0, 0)).1) ∧ (D.pers T f a M).getD (j * 3 + 2) 0 = (if j = 0 then a else (M.getD (j - 1) (0, 0)).2) := by
  induction M generalizing f a j with
  | nil =>
    obtain rfl : j = 0 := by simpa using hj
    exact ⟨rfl, rfl, rfl⟩
  | cons z M ih =>
    cases j with
    | zero => exact ⟨rfl, rfl, rfl⟩
    | succ j =>
      have e : (j + 1) * 3 = j * 3 + 3 := by omega
      obtain ⟨i1, i2, i3⟩ := ih z.1 z.2 j (by simpa using hj)
      rw [e, D.pers]
      simp only [List.getD_cons_succ, show j * 3 + 3 + 1 = j * 3 + 1 + 3 from rfl, show j * 3 + 3 + 2 = j * 3 + 2 + 3 from rfl, List.length_cons]
      rw [i1, i2, i3]
      refine ⟨?_, ?_, ?_⟩
      · cases j <;> simp
      · simp
      · cases j <;> simp

theorem D.incr_above {p : Int → Bool} {a : Int} {l : List Int} (h : D.incr p a l = true) : ∀ k, k < l.length → a < l.getD k 0 := by
  induction l generalizing a with
  | nil => intro k hk; simp at hk
  | cons n l ih =>
    intro k hk
    simp only [D.incr, Bool.and_eq_true, decide_eq_true_eq] at h
    cases k with
    | zero => exact h.1.1
    | succ k =>
      have := ih h.2 k (by simpa using hk)
      simp only [List.getD_cons_succ]
      omega

/-- what a valid town's changes are -/
theorem D.town_bd {T ah : Int} {M : List (Int × Int)} (ht : D.townOk T ah M = true) : -1440 ≤ ah ∧ ah ≤ 1440 ∧ M.length ≤ 6 ∧ (∀ j, j < M.length → -1440 ≤ (M.getD j (0, 0)).2 ∧ (M.getD j (0, 0)).2 ≤ 1440 ∧ 0 < (M.getD j (0, 0)).1 ∧ (M.getD j (0, 0)).1 < T) ∧ ∀ i j, i < j → j < M.length → (M.getD i (0, 0)).1 < (M.getD j (0, 0)).1 := by
  simp only [D.townOk, D.aheads, Bool.and_eq_true, decide_eq_true_eq, inB_iff, List.all_eq_true] at ht
  obtain ⟨⟨a1, a2⟩, b, c, e⟩ := ht
  have g : ∀ i, i < M.length → (M.map (·.1)).getD i 0 = (M.getD i (0, 0)).1 := fun i hi => by
    rw [List.getD_eq_getElem?_getD, List.getElem?_map, List.getD_eq_getElem?_getD, List.getElem?_eq_getElem hi]
    rfl
  refine ⟨a1, a2, b, fun j hj => ?_, fun i j hi hj => ?_⟩
  · have k1 := c (M.getD j (0, 0)) (by rw [List.getD_eq_getElem?_getD, List.getElem?_eq_getElem hj]; exact List.getElem_mem hj)
    have k2 := D.incr_all _ _ _ e j (by rw [List.length_map]; exact hj)
    have k3 := D.incr_above e j (by rw [List.length_map]; exact hj)
    rw [g j hj] at k2 k3
    have k4 := inB_iff.1 k2
    omega
  · have := D.incr_lt e i j hi (by rw [List.length_map]; exact hj)
    rw [g i (by omega), g j hj] at this
    exact this

/-- how many minutes a town is ahead in a period -/
theorem D.ahAt_in {ah : Int} {M : List (Int × Int)} {t : Int} {j : Nat} (hj : j ≤ M.length) (lo : j = 0 ∨ (M.getD (j - 1) (0, 0)).1 ≤ t) (hi : ∀ i, j ≤ i → i < M.length → t < (M.getD i (0, 0)).1) : D.ahAt ah M t M.length = if j = 0 then ah else (M.getD (j - 1) (0, 0)).2 := by
  have up : ∀ k, j ≤ k → k ≤ M.length → D.ahAt ah M t k = D.ahAt ah M t j := by
    intro k
    induction k with
    | zero =>
      intro a _
      obtain rfl : j = 0 := by omega
      rfl
    | succ k ih =>
      intro a b
      by_cases e : j = k + 1
      · rw [e]
      · rw [D.ahAt, if_neg (by have := hi k (by omega) (by omega); omega), ih (by omega) (by omega)]
  rw [up _ hj (Nat.le_refl _)]
  cases j with
  | zero => rfl
  | succ j =>
    have lo' : (M.getD j (0, 0)).1 ≤ t := by
      rcases lo with h | h
      · omega
      · simpa using h
    rw [D.ahAt, if_pos lo', if_neg (by omega)]
    simp

theorem D.mem_hit {tv : Int → Int} {ok : Int → Bool} {X : Nat → Int} {t : Int} (j : Nat) : t ∈ D.hit tv ok X j ↔ ok (wrap64 (-X (j * 3 + 2))) = true ∧ X (j * 3) ≤ tv (wrap64 (-X (j * 3 + 2))) ∧ tv (wrap64 (-X (j * 3 + 2))) ≤ wrap64 (X (j * 3 + 1) - 1) ∧ t = tv (wrap64 (-X (j * 3 + 2))) := by
  unfold D.hit
  by_cases g : (ok (wrap64 (-X (j * 3 + 2))) && inB (tv (wrap64 (-X (j * 3 + 2)))) (X (j * 3)) (wrap64 (X (j * 3 + 1) - 1))) = true
  · rw [if_pos g, List.mem_singleton]
    rw [Bool.and_eq_true, inB_iff] at g
    exact ⟨fun h => ⟨g.1, g.2.1, g.2.2, h⟩, fun h => h.2.2.2⟩
  · rw [if_neg g]
    rw [Bool.and_eq_true, inB_iff] at g
    exact ⟨fun h => (by cases h), fun h => absurd ⟨h.1, h.2.1, h.2.2.1⟩ g⟩
theorem D.mem_hits {tv : Int → Int} {ok : Int → Bool} {X : Nat → Int} {t : Int} (k : Nat) : t ∈ D.hits tv ok X k ↔ ∃ j, j < k ∧ t ∈ D.hit tv ok X j := by
  induction k with
  | zero => simp [D.hits]
  | succ k ih =>
    rw [D.hits, List.mem_append, ih]
    constructor
    · rintro (⟨j, a, b⟩ | b)
      · exact ⟨j, by omega, b⟩
      · exact ⟨k, by omega, b⟩
    · rintro ⟨j, a, b⟩
      by_cases e : j = k
      · subst e; exact .inr b
      · exact .inl ⟨j, by omega, b⟩

/-- a tick is one of those of a local reading just if it has it -/
theorem D.ticks_mem {h m s : Int} {x : Nat → Int} {n : Nat} (h1 : 1 ≤ h) (h2 : h ≤ 24) (m1 : 1 ≤ m) (m2 : m ≤ 60) (s1 : 2 ≤ s) (s2 : s ≤ 60) (n2 : n ≤ 10) {ah : Int} {M : List (Int × Int)} (ht : D.townOk (D.beg h m s x n) ah M = true) (a b c q t : Int) :
    t ∈ D.ticksV h m s n x ah M a b c q ↔ 0 ≤ t ∧ t < D.beg h m s x n ∧ D.ltick h m s x n ah M t / (h * m) = a ∧ D.ltick h m s x n ah M t % (h * m) / m = b ∧ D.ltick h m s x n ah M t % (h * m) % m = c ∧ D.rS h m s x n t = q := by
  obtain ⟨a1, a2, ml, mb, mi⟩ := D.town_bd ht
  obtain ⟨b1, b2⟩ := D.beg_bd h m s x h1 h2 m1 m2 s1 s2 n
  have eT : wrap64 (D.tot (D.lens h m s x n)) = D.beg h m s x n := wrap64_in (by show -9223372036854775808 ≤ D.beg h m s x n ∧ D.beg h m s x n ≤ 9223372036854775807; omega)
  -- what a period's numbers are
  have per : ∀ j, j ≤ M.length → ∃ f u k, (D.pers (D.beg h m s x n) 0 ah M).getD (j * 3) 0 = f ∧ (D.pers (D.beg h m s x n) 0 ah M).getD (j * 3 + 1) 0 = u ∧ (D.pers (D.beg h m s x n) 0 ah M).getD (j * 3 + 2) 0 = k ∧ 0 ≤ f ∧ u ≤ D.beg h m s x n ∧ 0 ≤ u ∧ -1440 ≤ k ∧ k ≤ 1440 ∧ ∀ t, f ≤ t → t < u → D.ahAt ah M t M.length = k := by
    intro j hj
    obtain ⟨p1, p2, p3⟩ := D.pers_at (D.beg h m s x n) 0 ah M j hj
    refine ⟨_, _, _, p1, p2, p3, ?_, ?_, ?_, ?_, ?_, fun t t1 t2 => ?_⟩
    · split
      · omega
      · exact Int.le_of_lt (mb (j - 1) (by omega)).2.2.1
    · split
      · omega
      · exact Int.le_of_lt (mb j (by omega)).2.2.2
    · split
      · omega
      · exact Int.le_of_lt (mb j (by omega)).2.2.1
    · split
      · omega
      · exact (mb (j - 1) (by omega)).1
    · split
      · omega
      · exact (mb (j - 1) (by omega)).2.1
    · refine D.ahAt_in hj ?_ (fun i i1 i2 => ?_)
      · by_cases e : j = 0
        · exact .inl e
        · rw [if_neg e] at t1; exact .inr t1
      · rw [if_neg (by omega)] at t2
        by_cases e : j = i
        · subst e; exact t2
        · have := mi j i (by omega) i2; omega
  unfold D.ticksV
  rw [eT]
  obtain ⟨P1, P2⟩ := D.mul_bd h m h1 h2 m1 m2
  by_cases hd : D.divd h m a b c = true
  · rw [if_pos hd, D.mem_hits]
    simp only [D.divd, Bool.and_eq_true, beq_iff_eq] at hd
    obtain ⟨da, db, dc⟩ := hd
    obtain ⟨N1, N2⟩ := D.cnt_bd h m a b c
    constructor
    · rintro ⟨j, hj, hm⟩
      obtain ⟨f, u, k, e1, e2, e3, f0, uT, u0, k1, k2, hah⟩ := per j (by omega)
      rw [D.mem_hit] at hm
      simp only [e1, e2, e3] at hm
      rw [wrap64_in (z := -k) (by omega), wrap64_in (z := u - 1) (by omega)] at hm
      obtain ⟨hr, c1, c2, hm⟩ := hm
      rw [if_pos hr] at hm c1 c2
      subst hm
      have el : D.lmin h m a b c (-k) = wrap64 (D.cnt h m a b c + -k) := rfl
      obtain ⟨L1, L2⟩ := D.lmin_bd h m a b c (-k)
      generalize hv : D.lmin h m a b c (-k) = v at *
      have r := D.isRd_rd h1 h2 m1 m2 s1 s2 hr
      obtain ⟨g1, g2, g3, g4, g5, g6⟩ := D.cnt_rd r h1 h2 m1 m2 n2
      obtain ⟨i1, i2, i3, i4⟩ := r.is h1 h2 m1 m2 s1 s2
      have hvv : v / (h * m) * (h * m) + v % (h * m) = v := by have := Int.emod_add_mul_ediv v (h * m); rw [Int.mul_comm]; omega
      rw [hvv] at g1 g2 g3
      generalize D.tk h m s x (v / (h * m)) (v % (h * m) / m) (v % (h * m) % m) q = t at *
      have hN : D.cnt h m a b c = v + k := by
        unfold wrap64 at el
        omega
      have elt : D.ltick h m s x n ah M t = D.cnt h m a b c := by
        unfold D.ltick D.lmin
        rw [i1, i2, i3, g1, hah t c1 (by omega), wrap64_in (by omega), hN]
      rw [elt, da, db, dc, i4]
      exact ⟨by omega, by omega, rfl, rfl, rfl, rfl⟩
    · rintro ⟨t0, tT, ea, eb, ec, es⟩
      have r := D.rd_is (x := x) (n := n) h1 m1 s1 t0 tT
      have hisR := r.isRd h1 h2 m1 m2 n2
      have htk := r.tk
      obtain ⟨g1, g2, g3, g4, g5, g6⟩ := D.cnt_rd r h1 h2 m1 m2 n2
      -- the period in which the tick lies
      have hex : ∃ j, j ≤ M.length ∧ (D.pers (D.beg h m s x n) 0 ah M).getD (j * 3) 0 ≤ t ∧ t < (D.pers (D.beg h m s x n) 0 ah M).getD (j * 3 + 1) 0 := by
        have : ∀ k, k ≤ M.length → (∃ j, j < k ∧ (D.pers (D.beg h m s x n) 0 ah M).getD (j * 3) 0 ≤ t ∧ t < (D.pers (D.beg h m s x n) 0 ah M).getD (j * 3 + 1) 0) ∨ (D.pers (D.beg h m s x n) 0 ah M).getD (k * 3) 0 ≤ t := by
          intro k
          induction k with
          | zero => intro _; right; rw [(D.pers_at (D.beg h m s x n) 0 ah M 0 (by omega)).1]; simpa using t0
          | succ k ih =>
            intro hk
            rcases ih (by omega) with ⟨j, j1, j2⟩ | g
            · exact .inl ⟨j, by omega, j2⟩
            · have p1 := (D.pers_at (D.beg h m s x n) 0 ah M k (by omega)).2.1
              have p2 := (D.pers_at (D.beg h m s x n) 0 ah M (k + 1) (by omega)).1
              rw [if_neg (by omega)] at p1 p2
              simp only [Nat.add_sub_cancel] at p2
              by_cases e : t < (M.getD k (0, 0)).1
              · exact .inl ⟨k, by omega, g, by rw [p1]; exact e⟩
              · right; rw [p2]; omega
        rcases this M.length (Nat.le_refl _) with ⟨j, j1, j2⟩ | g
        · exact ⟨j, by omega, j2⟩
        · exact ⟨M.length, Nat.le_refl _, g, by rw [(D.pers_at (D.beg h m s x n) 0 ah M M.length (Nat.le_refl _)).2.1, if_pos rfl]; exact tT⟩
      obtain ⟨j, hj, j1, j2⟩ := hex
      obtain ⟨f, u, k, e1, e2, e3, f0, uT, u0, k1, k2, hah⟩ := per j hj
      refine ⟨j, by omega, ?_⟩
      rw [e1] at j1
      rw [e2] at j2
      have elt : D.ltick h m s x n ah M t = D.cnt h m (D.rA h m s x n t) (D.rB h m s x n t) (D.rC h m s x n t) + k := by
        unfold D.ltick D.lmin
        rw [hah t j1 j2, wrap64_in (by omega)]
      have el : D.lmin h m a b c (-k) = D.cnt h m (D.rA h m s x n t) (D.rB h m s x n t) (D.rC h m s x n t) := by
        have e : D.cnt h m a b c = D.ltick h m s x n ah M t := by
          rw [← ea, ← eb, ← ec]
          exact D.cnt_parts _ h1 h2 m1 m2 (by omega) (by omega)
        unfold D.lmin
        rw [e, elt, wrap64_in (by omega)]
        omega
      rw [D.mem_hit]
      simp only [e1, e2, e3]
      rw [wrap64_in (z := -k) (by omega), wrap64_in (z := u - 1) (by omega), el, g1, g5, g6, ← r.hour, ← r.min, ← es, hisR, if_pos rfl, htk]
      exact ⟨rfl, j1, by omega, rfl⟩
  · rw [if_neg hd]
    constructor
    · intro hm; cases hm
    · rintro ⟨t0, tT, ea, eb, ec, es⟩
      exfalso
      apply hd
      have r := D.rd_is (x := x) (n := n) h1 m1 s1 t0 tT
      obtain ⟨g1, g2, g3, g4, g5, g6⟩ := D.cnt_rd r h1 h2 m1 m2 n2
      have hk : -1440 ≤ D.ahAt ah M t M.length ∧ D.ahAt ah M t M.length ≤ 1440 := by
        have : ∀ k, k ≤ M.length → -1440 ≤ D.ahAt ah M t k ∧ D.ahAt ah M t k ≤ 1440 := by
          intro k
          induction k with
          | zero => intro _; exact ⟨a1, a2⟩
          | succ k ih =>
            intro hk
            rw [D.ahAt]
            split
            · have := mb k (by omega); omega
            · exact ih (by omega)
        exact this _ (Nat.le_refl _)
      have elt : D.ltick h m s x n ah M t = D.cnt h m (D.rA h m s x n t) (D.rB h m s x n t) (D.rC h m s x n t) + D.ahAt ah M t M.length := by
        unfold D.ltick D.lmin
        rw [wrap64_in (by omega)]
      have e : D.cnt h m a b c = D.ltick h m s x n ah M t := by
        rw [← ea, ← eb, ← ec]
        exact D.cnt_parts _ h1 h2 m1 m2 (by omega) (by omega)
      unfold D.divd
      rw [e, ea, eb, ec]
      simp

/-- are numbers strictly increasing, from one on, all below another one? -/
def D.climb (b : Int) : Int → List Int → Bool
  | _, [] => true
  | z, t :: l => inB t z (wrap64 (b - 1)) && D.climb b (wrap64 (t + 1)) l
theorem D.climb_of {b : Int} (b0 : 0 ≤ b) (b1 : b ≤ 1000000000) (l : List Int) (z : Int) (z0 : 0 ≤ z) (hs : l.Pairwise (· < ·)) (hb : ∀ t ∈ l, z ≤ t ∧ t < b) : D.climb b z l = true := by
  induction l generalizing z with
  | nil => rfl
  | cons t l ih =>
    obtain ⟨t1, t2⟩ := hb t (by simp)
    rw [List.pairwise_cons] at hs
    rw [D.climb, wrap64_in (by omega), wrap64_in (by omega), inB_yes t1 (by omega), Bool.true_and]
    exact ih (t + 1) (by omega) hs.2 (fun u hu => ⟨hs.1 u hu, (hb u (by simp [hu])).2⟩)
theorem D.hits_pair {tv : Int → Int} {ok : Int → Bool} {X : Nat → Int} (N : Nat) (hX : ∀ j k, j < k → k < N → wrap64 (X (j * 3 + 1) - 1) < X (k * 3)) : (D.hits tv ok X N).Pairwise (· < ·) := by
  have hit : ∀ j t, t ∈ D.hit tv ok X j → X (j * 3) ≤ t ∧ t ≤ wrap64 (X (j * 3 + 1) - 1) := by
    intro j t ht
    obtain ⟨_, a, b, rfl⟩ := (D.mem_hit j).1 ht
    exact ⟨a, b⟩
  induction N with
  | zero => exact List.Pairwise.nil
  | succ N ih =>
    rw [D.hits, List.pairwise_append]
    refine ⟨ih (fun j k a b => hX j k a (by omega)), ?_, fun a ha b hb => ?_⟩
    · unfold D.hit
      split
      · exact List.pairwise_singleton _ _
      · exact List.Pairwise.nil
    · obtain ⟨j, hj, hm⟩ := (D.mem_hits N).1 ha
      have h1 := hit j a hm
      have h2 := hit N b hb
      have h3 := hX j N hj (by omega)
      omega
theorem D.ticks_pair {h m s : Int} {x : Nat → Int} {n : Nat} (h1 : 1 ≤ h) (h2 : h ≤ 24) (m1 : 1 ≤ m) (m2 : m ≤ 60) (s1 : 2 ≤ s) (s2 : s ≤ 60) (n2 : n ≤ 10) {ah : Int} {M : List (Int × Int)} (ht : D.townOk (D.beg h m s x n) ah M = true) (a b c q : Int) :
    (D.ticksV h m s n x ah M a b c q).Pairwise (· < ·) := by
  obtain ⟨a1, a2, ml, mb, mi⟩ := D.town_bd ht
  obtain ⟨b1, b2⟩ := D.beg_bd h m s x h1 h2 m1 m2 s1 s2 n
  have eT : wrap64 (D.tot (D.lens h m s x n)) = D.beg h m s x n := wrap64_in (by show -9223372036854775808 ≤ D.beg h m s x n ∧ D.beg h m s x n ≤ 9223372036854775807; omega)
  unfold D.ticksV
  split
  · rw [eT]
    refine D.hits_pair _ (fun j k hjk hk => ?_)
    have p1 := (D.pers_at (D.beg h m s x n) 0 ah M j (by omega)).2.1
    have p2 := (D.pers_at (D.beg h m s x n) 0 ah M k (by omega)).1
    rw [if_neg (by omega)] at p1 p2
    have hb := mb j (by omega)
    rw [p1, p2, wrap64_in (by omega)]
    by_cases e : j = k - 1
    · subst e; omega
    · have := mi j (k - 1) (by omega) (by omega)
      omega
  · exact List.Pairwise.nil
theorem D.ticks_climb {h m s : Int} {x : Nat → Int} {n : Nat} (h1 : 1 ≤ h) (h2 : h ≤ 24) (m1 : 1 ≤ m) (m2 : m ≤ 60) (s1 : 2 ≤ s) (s2 : s ≤ 60) (n2 : n ≤ 10) {ah : Int} {M : List (Int × Int)} (ht : D.townOk (D.beg h m s x n) ah M = true) (a b c q : Int) :
    D.climb (D.beg h m s x n) 0 (D.ticksV h m s n x ah M a b c q) = true := by
  obtain ⟨b1, b2⟩ := D.beg_bd h m s x h1 h2 m1 m2 s1 s2 n
  refine D.climb_of (by omega) (by omega) _ 0 (Int.le_refl _) (D.ticks_pair h1 h2 m1 m2 s1 s2 n2 ht a b c q) (fun t hm => ?_)
  have := (D.ticks_mem h1 h2 m1 m2 s1 s2 n2 ht a b c q t).1 hm
  exact ⟨this.1, this.2.1⟩
theorem D.ticks_len {h m s : Int} {x : Nat → Int} {n : Nat} {ah : Int} {M : List (Int × Int)} (a b c q : Int) : (D.ticksV h m s n x ah M a b c q).length ≤ M.length + 1 := by
  unfold D.ticksV
  split
  · exact D.hits_len _ _ _ _
  · simp

/-- the first place of a number in a list; -1: it is not there -/
def D.find (z : Int) : Int → List Int → Int
  | _, [] => -1
  | i, t :: l => if t = z then i else D.find z (i + 1) l
theorem D.find_mem (z : Int) (l : List Int) (i : Int) (i0 : 0 ≤ i) : 0 ≤ D.find z i l ↔ z ∈ l := by
  induction l generalizing i with
  | nil => simp [D.find]
  | cons t l ih =>
    rw [D.find]
    by_cases e : t = z
    · rw [if_pos e]; simp [e, i0]
    · rw [if_neg e, ih (i + 1) (by omega)]
      simp [Ne.symm e]

end Go.Proofs.Ytnkeofobhlafkaa
