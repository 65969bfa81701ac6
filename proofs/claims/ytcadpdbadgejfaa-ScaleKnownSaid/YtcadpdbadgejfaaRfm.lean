import Derived.Test.YtcadpdbadgejfaaOfF
/- What the specification's errors goes through: forward, what all before a tick allows; then backward, what all behind it allows, too. -/
namespace Go.Proofs.Ytcadpdbadgejfaa
namespace S

/-- the first `n` ticks are done, forward -/
structure Bk.Fwd (b : Bk) (o : Ofs) (n : Nat) : Prop where
  fine : ∀ t, t < n → -20000 ≤ (o t).1 ∧ (o t).1 ≤ (o t).2 ∧ (o t).2 ≤ 20000
  look : ∀ t, t < n → ∀ l ∈ b.looks, l.1 = (t : Int) → InSp (o t) l.2
  before : ∀ t, t + 1 < n → InSp (o (t + 1)) ((o t).1 + b.cL t, (o t).2 + b.cH t)
  holds : ∀ v, b.Tru v → ∀ t, t < n → t ≤ b.ticks → (o t).1 ≤ v t ∧ v t ≤ (o t).2
theorem Bk.Fwd.start (b : Bk) (o : Ofs) : b.Fwd o 0 :=
  ⟨fun _ h => absurd h (Nat.not_lt_zero _), fun _ h => absurd h (Nat.not_lt_zero _), fun _ h => absurd h (Nat.not_lt_zero _), fun _ _ _ h => absurd h (Nat.not_lt_zero _)⟩
/-- a tick is under way: what is before it is in, and the first `k` looks -/
structure Bk.Cur (b : Bk) (o : Ofs) (t k : Nat) (s : Int × Int) : Prop where
  base : -20000 ≤ s.1 ∧ s.2 ≤ 20000
  before : ∀ u, u + 1 = t → InSp s ((o u).1 + b.cL u, (o u).2 + b.cH u)
  look : ∀ l ∈ b.looks.take k, l.1 = (t : Int) → InSp s l.2
  holds : ∀ v, b.Tru v → s.1 ≤ v t ∧ v t ≤ s.2
theorem Bk.Cur.zero (b : Bk) (o : Ofs) : b.Cur o 0 0 (-20000, 20000) :=
  ⟨⟨Int.le_refl _, Int.le_refl _⟩, fun u h => by omega, fun l h => by simp at h, fun v hv => hv.off 0 (Nat.zero_le _)⟩
theorem Bk.Cur.succ {b : Bk} {o : Ofs} {t : Nat} (h : b.Fwd o (t + 1)) (ht : t + 1 ≤ b.ticks) : b.Cur o (t + 1) 0 (bo (-20000, 20000) ((o t).1 + b.cL t, (o t).2 + b.cH t)) := by
  have a := bo_in (-20000, 20000) ((o t).1 + b.cL t, (o t).2 + b.cH t)
  refine ⟨⟨a.1, a.2⟩, fun u hu => ?_, fun l h => by simp at h, fun v hv => ?_⟩
  · obtain rfl : u = t := by omega
    exact bo_in2 _ _
  · have p := hv.off (t + 1) ht
    have q := hv.step t (by omega)
    have r := h.holds v hv t (by omega) (by omega)
    unfold bo
    constructor
    · show max _ _ ≤ _
      omega
    · show _ ≤ min _ _
      omega
theorem Bk.take_succ {ls : List (Int × Int × Int)} {k : Nat} (hk : k < ls.length) {l : Int × Int × Int} (hl : l ∈ ls.take (k + 1)) : l ∈ ls.take k ∨ l = ls.getD k (0, 0, 0) := by
  rw [List.take_succ_eq_append_getElem hk, List.mem_append, List.mem_singleton] at hl
  rcases hl with h | h
  · exact .inl h
  · right
    rw [h, List.getD_eq_getElem?_getD, List.getElem?_eq_getElem hk]
    rfl
/-- a look at this tick -/
theorem Bk.Cur.look_in {b : Bk} {o : Ofs} {t k : Nat} {s l : Int × Int} (h : b.Cur o t k s) (ht : t ≤ b.ticks) (hk : k < b.looks.length) (hl : b.looks.getD k (0, 0, 0) = ((t : Int), l)) : b.Cur o t (k + 1) (bo s l) := by
  have a := bo_in s l
  have hm : ((t : Int), l) ∈ b.looks := by
    rw [← hl, List.getD_eq_getElem?_getD, List.getElem?_eq_getElem hk]
    exact List.getElem_mem hk
  refine ⟨⟨by have := h.base.1; have := a.1; omega, by have := h.base.2; have := a.2; omega⟩, fun u hu => a.trans (h.before u hu), fun z hz e => ?_, fun v hv => ?_⟩
  · rcases Bk.take_succ hk hz with q | q
    · exact a.trans (h.look z q e)
    · rw [q, hl]
      exact bo_in2 _ _
  · have p := h.holds v hv
    have q := hv.look t ht _ hm rfl
    unfold bo
    constructor
    · show max _ _ ≤ _
      have : l.1 ≤ v t := q.1
      omega
    · show _ ≤ min _ _
      have : v t ≤ l.2 := q.2
      omega
/-- a look at another one -/
theorem Bk.Cur.look_out {b : Bk} {o : Ofs} {t k : Nat} {s : Int × Int} (h : b.Cur o t k s) (hk : k < b.looks.length) (hl : (b.looks.getD k (0, 0, 0)).1 ≠ (t : Int)) : b.Cur o t (k + 1) s := by
  refine ⟨h.base, h.before, fun z hz e => ?_, h.holds⟩
  rcases Bk.take_succ hk hz with q | q
  · exact h.look z q e
  · rw [q] at e
    exact absurd e hl
/-- nothing is left -/
theorem Bk.Cur.none {b : Bk} {o : Ofs} {t k : Nat} {s : Int × Int} (h : b.Cur o t k s) (hs : s.2 < s.1) : ∀ v, ¬ b.Tru v := fun v hv => by
  have := h.holds v hv
  omega
/-- the tick is done -/
theorem Bk.Cur.done {b : Bk} {o : Ofs} {t k : Nat} {s : Int × Int} (h : b.Cur o t k s) (hF : b.Fwd o t) (hk : b.looks.length ≤ k) (hs : s.1 ≤ s.2) : b.Fwd (put o t s) (t + 1) := by
  have hl : b.looks.take k = b.looks := List.take_of_length_le hk
  refine ⟨fun u hu => ?_, fun u hu l hm e => ?_, fun u hu => ?_, fun v hv u hu ht => ?_⟩
  · by_cases e : u = t
    · subst e; rw [put_self]; have := h.base; omega
    · rw [put_ne _ _ e]; exact hF.fine u (by omega)
  · by_cases e' : u = t
    · subst e'; rw [put_self]; exact h.look l (by rw [hl]; exact hm) e
    · rw [put_ne _ _ e']; exact hF.look u (by omega) l hm e
  · rw [put_ne _ _ (show u ≠ t by omega)]
    by_cases e : u + 1 = t
    · subst e; rw [put_self]; exact h.before u rfl
    · rw [put_ne _ _ e]; exact hF.before u (by omega)
  · by_cases e : u = t
    · subst e; rw [put_self]; exact h.holds v hv
    · rw [put_ne _ _ e]; exact hF.holds v hv u (by omega) ht
/-- backward, the ticks from `n` on are done -/
structure Bk.Bwd (b : Bk) (o0 o : Ofs) (n : Nat) : Prop where
  same : ∀ t, t < n → o t = o0 t
  sub : ∀ t, InSp (o t) (o0 t)
  fine : ∀ t, t ≤ b.ticks → -20000 ≤ (o t).1 ∧ (o t).1 ≤ (o t).2 ∧ (o t).2 ≤ 20000
  behind : ∀ t, n ≤ t → t < b.ticks → InSp (o t) ((o (t + 1)).1 + -b.cH t, (o (t + 1)).2 + -b.cL t)
  before : ∀ t, n ≤ t → t < b.ticks → InSp (o (t + 1)) ((o t).1 + b.cL t, (o t).2 + b.cH t)
  holds : ∀ v, b.Tru v → ∀ t, t ≤ b.ticks → (o t).1 ≤ v t ∧ v t ≤ (o t).2
theorem Bk.Bwd.start {b : Bk} {o : Ofs} (h : b.Fwd o (b.ticks + 1)) : b.Bwd o o b.ticks :=
  ⟨fun _ _ => rfl, fun _ => InSp.refl _, fun t ht => h.fine t (by omega), fun t h1 h2 => by omega, fun t h1 h2 => by omega, fun v hv t ht => h.holds v hv t (by omega) ht⟩
theorem Bk.Bwd.step {b : Bk} {o0 o : Ofs} {n : Nat} (hF : b.Fwd o0 (b.ticks + 1)) (h : b.Bwd o0 o (n + 1)) (hn : n < b.ticks) (hc : b.cL n ≤ b.cH n) : b.Bwd o0 (put o n (bo (o n) ((o (n + 1)).1 + -b.cH n, (o (n + 1)).2 + -b.cL n))) n := by
  have f1 := h.fine n (by omega)
  have f2 := h.fine (n + 1) (by omega)
  have g := hF.before n (by omega)
  rw [← h.same n (by omega)] at g
  have s := h.sub (n + 1)
  have a := bo_in (o n) ((o (n + 1)).1 + -b.cH n, (o (n + 1)).2 + -b.cL n)
  have a2 := bo_in2 (o n) ((o (n + 1)).1 + -b.cH n, (o (n + 1)).2 + -b.cL n)
  have e1 : (bo (o n) ((o (n + 1)).1 + -b.cH n, (o (n + 1)).2 + -b.cL n)).1 = max (o n).1 ((o (n + 1)).1 + -b.cH n) := rfl
  have e2 : (bo (o n) ((o (n + 1)).1 + -b.cH n, (o (n + 1)).2 + -b.cL n)).2 = min (o n).2 ((o (n + 1)).2 + -b.cL n) := rfl
  have hh := h.holds
  generalize bo (o n) ((o (n + 1)).1 + -b.cH n, (o (n + 1)).2 + -b.cL n) = q at *
  unfold InSp at g s
  simp only at g
  refine ⟨fun t ht => ?_, fun t => ?_, fun t ht => ?_, fun t h1 h2 => ?_, fun t h1 h2 => ?_, fun v hv t ht => ?_⟩
  · rw [put_ne _ _ (by omega)]; exact h.same t (by omega)
  · by_cases e : t = n
    · subst e; rw [put_self]; exact a.trans (h.sub t)
    · rw [put_ne _ _ e]; exact h.sub t
  · by_cases e : t = n
    · subst e; rw [put_self]; omega
    · rw [put_ne _ _ e]; exact h.fine t ht
  · by_cases e : t = n
    · subst e; rw [put_self, put_ne _ _ (by omega)]; exact a2
    · rw [put_ne _ _ e, put_ne _ _ (by omega)]; exact h.behind t (by omega) h2
  · by_cases e : t = n
    · subst e
      rw [put_self, put_ne _ _ (by omega)]
      unfold InSp
      simp only
      omega
    · rw [put_ne _ _ e, put_ne _ _ (by omega)]; exact h.before t (by omega) h2
  · by_cases e : t = n
    · subst e
      rw [put_self]
      have p := hh v hv t (by omega)
      have r := hh v hv (t + 1) (by omega)
      have u := hv.step t hn
      omega
    · rw [put_ne _ _ e]; exact hh v hv t ht
/-- what is left is tight -/
theorem Bk.Bwd.ends {b : Bk} {o0 o : Ofs} (hF : b.Fwd o0 (b.ticks + 1)) (h : b.Bwd o0 o 0) : ∀ t, t ≤ b.ticks → b.Ends t (o t).1 (o t).2 := by
  obtain ⟨q, hq⟩ : ∃ q : Ofs, ∀ i, q i = if i ≤ b.ticks then o i else (0, 0) := ⟨_, fun _ => rfl⟩
  have qy : ∀ i, i ≤ b.ticks → q i = o i := fun i hi => (hq i).trans (if_pos hi)
  have F : Fine q := fun i => by
    by_cases hi : i ≤ b.ticks
    · rw [qy i hi]; exact h.fine i hi
    · rw [hq i, if_neg hi]
      exact ⟨by decide, by decide, by decide⟩
  have X : b.Fix q := fun i hi s hs => by
    rw [qy i hi]
    unfold Bk.bounds at hs
    rw [List.mem_append, List.mem_append] at hs
    rcases hs with (hs | hs) | hs
    · obtain ⟨l, hl, rfl⟩ := List.mem_map.1 hs
      rw [List.mem_filter] at hl
      exact (h.sub i).trans (hF.look i (by omega) l hl.1 (of_decide_eq_true hl.2))
    · by_cases h0 : 0 < i
      · rw [if_pos h0, List.mem_singleton] at hs
        subst hs
        rw [qy (i - 1) (by omega)]
        have := h.before (i - 1) (Nat.zero_le _) (by omega)
        rwa [show i - 1 + 1 = i by omega] at this
      · rw [if_neg h0] at hs; simp at hs
    · by_cases h0 : i < b.ticks
      · rw [if_pos h0, List.mem_singleton] at hs
        subst hs
        rw [qy (i + 1) (by omega)]
        exact h.behind i (Nat.zero_le _) h0
      · rw [if_neg h0] at hs; simp at hs
  have H : b.Holds q := fun v hv i hi => by rw [qy i hi]; exact h.holds v hv i hi
  intro t ht
  have := Bk.Ends.of F X H ht
  rwa [qy t ht] at this
end S

end Go.Proofs.Ytcadpdbadgejfaa
