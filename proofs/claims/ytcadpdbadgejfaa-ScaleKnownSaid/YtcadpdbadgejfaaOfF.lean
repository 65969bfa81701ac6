import Derived.Test.YtcadpdbadgejfaaNuE
/- The mathematics of a book: what the offsets can be at each tick. -/
namespace Go.Proofs.Ytcadpdbadgejfaa

/-- what a book says of its offsets -/
structure S.Bk where
  ticks : Nat
  lo : Int
  hi : Int
  steer : List Int
  looks : List (Int × Int × Int)
namespace S
def Bk.cL (b : Bk) (t : Nat) : Int := b.steer.getD t 0 + b.lo
def Bk.cH (b : Bk) (t : Nat) : Int := b.steer.getD t 0 + b.hi
/-- what offsets lie between, tick by tick -/
abbrev Ofs := Nat → Int × Int
/-- all spans that bind the offset at a tick -/
def Bk.bounds (b : Bk) (o : Ofs) (t : Nat) : List (Int × Int) :=
  ((b.looks.filter fun l => decide (l.1 = (t : Int))).map fun l => l.2) ++ (if 0 < t then [((o (t - 1)).1 + b.cL (t - 1), (o (t - 1)).2 + b.cH (t - 1))] else []) ++ (if t < b.ticks then [((o (t + 1)).1 + -b.cH t, (o (t + 1)).2 + -b.cL t)] else [])
/-- the offsets truly were so -/
structure Bk.Tru (b : Bk) (v : Nat → Int) : Prop where
  off : ∀ i, i ≤ b.ticks → -20000 ≤ v i ∧ v i ≤ 20000
  look : ∀ i, i ≤ b.ticks → ∀ l ∈ b.looks, l.1 = (i : Int) → l.2.1 ≤ v i ∧ v i ≤ l.2.2
  step : ∀ i, i < b.ticks → b.cL i ≤ v (i + 1) - v i ∧ v (i + 1) - v i ≤ b.cH i
/-- all truths lie within -/
def Bk.Holds (b : Bk) (o : Ofs) : Prop := ∀ v, b.Tru v → ∀ i, i ≤ b.ticks → (o i).1 ≤ v i ∧ v i ≤ (o i).2
def InSp (o s : Int × Int) : Prop := s.1 ≤ o.1 ∧ o.2 ≤ s.2
theorem InSp.refl (o : Int × Int) : InSp o o := ⟨Int.le_refl _, Int.le_refl _⟩
theorem InSp.trans {a b c : Int × Int} (h : InSp a b) (k : InSp b c) : InSp a c := ⟨Int.le_trans k.1 h.1, Int.le_trans h.2 k.2⟩
theorem InSp.anti {a b : Int × Int} (h : InSp a b) (k : InSp b a) : a = b := Prod.ext (Int.le_antisymm k.1 h.1) (Int.le_antisymm h.2 k.2)
/-- what both spans have -/
def bo (a s : Int × Int) : Int × Int := (max a.1 s.1, min a.2 s.2)
theorem bo_in (a s : Int × Int) : InSp (bo a s) a := ⟨Int.le_max_left _ _, Int.min_le_left _ _⟩
theorem bo_in2 (a s : Int × Int) : InSp (bo a s) s := ⟨Int.le_max_right _ _, Int.min_le_right _ _⟩
/-- each offset is a span of small numbers -/
def Fine (o : Ofs) : Prop := ∀ i, -20000 ≤ (o i).1 ∧ (o i).1 ≤ (o i).2 ∧ (o i).2 ≤ 20000
/-- nothing can be narrowed -/
def Bk.Fix (b : Bk) (o : Ofs) : Prop := ∀ i, i ≤ b.ticks → ∀ s ∈ b.bounds o i, InSp (o i) s
/-- a truth lies in all bounds -/
theorem Bk.Tru.bound {b : Bk} {v : Nat → Int} (h : b.Tru v) {o : Ofs} (ho : ∀ i, i ≤ b.ticks → (o i).1 ≤ v i ∧ v i ≤ (o i).2) {i : Nat} (hi : i ≤ b.ticks) {s : Int × Int} (hs : s ∈ b.bounds o i) : s.1 ≤ v i ∧ v i ≤ s.2 := by
  unfold Bk.bounds at hs
  rw [List.mem_append, List.mem_append] at hs
  rcases hs with (hs | hs) | hs
  · obtain ⟨l, hl, rfl⟩ := List.mem_map.1 hs
    rw [List.mem_filter] at hl
    exact h.look i hi l hl.1 (of_decide_eq_true hl.2)
  · by_cases h0 : 0 < i
    · rw [if_pos h0, List.mem_singleton] at hs
      subst hs
      have a := h.step (i - 1) (by omega)
      have c := ho (i - 1) (by omega)
      rw [show i - 1 + 1 = i by omega] at a
      constructor <;> simp only <;> omega
    · rw [if_neg h0] at hs; simp at hs
  · by_cases h0 : i < b.ticks
    · rw [if_pos h0, List.mem_singleton] at hs
      subst hs
      have a := h.step i h0
      have c := ho (i + 1) (by omega)
      constructor <;> simp only <;> omega
    · rw [if_neg h0] at hs; simp at hs
theorem Bk.mem_look {b : Bk} {o : Ofs} {i : Nat} {l : Int × Int × Int} (hl : l ∈ b.looks) (he : l.1 = (i : Int)) : l.2 ∈ b.bounds o i := by
  unfold Bk.bounds
  rw [List.mem_append, List.mem_append]
  exact Or.inl (Or.inl (List.mem_map.2 ⟨l, List.mem_filter.2 ⟨hl, decide_eq_true he⟩, rfl⟩))
theorem Bk.mem_before {b : Bk} {o : Ofs} {i : Nat} (hi : 0 < i) : ((o (i - 1)).1 + b.cL (i - 1), (o (i - 1)).2 + b.cH (i - 1)) ∈ b.bounds o i := by
  unfold Bk.bounds
  rw [List.mem_append, List.mem_append, if_pos hi]
  exact Or.inl (Or.inr (List.mem_singleton.2 rfl))
theorem Bk.mem_behind {b : Bk} {o : Ofs} {i : Nat} (hi : i < b.ticks) : ((o (i + 1)).1 + -b.cH i, (o (i + 1)).2 + -b.cL i) ∈ b.bounds o i := by
  unfold Bk.bounds
  rw [List.mem_append, List.mem_append, if_pos hi]
  exact Or.inr (List.mem_singleton.2 rfl)
/-- upwards from a tick on -/
theorem Bk.up {b : Bk} {o : Ofs} (F : Fine o) (hx : b.Fix o) (i : Nat) (x : Int) (h1 : (o i).1 ≤ x) (h2 : x ≤ (o i).2) : ∀ n, i + n ≤ b.ticks → ∃ v : Nat → Int, v i = x ∧ (∀ j, i ≤ j → j ≤ i + n → (o j).1 ≤ v j ∧ v j ≤ (o j).2) ∧ ∀ j, i ≤ j → j < i + n → b.cL j ≤ v (j + 1) - v j ∧ v (j + 1) - v j ≤ b.cH j := by
  intro n
  induction n with
  | zero =>
    intro _
    refine ⟨fun _ => x, rfl, fun j a c => ?_, fun j a c => by omega⟩
    obtain rfl : i = j := by omega
    exact ⟨h1, h2⟩
  | succ n ih =>
    intro hn
    obtain ⟨v, v0, v1, v2⟩ := ih (by omega)
    have a := hx (i + n) (by omega) _ (Bk.mem_behind (by omega))
    have c := v1 (i + n) (by omega) (Nat.le_refl _)
    have f := F (i + n + 1)
    unfold InSp at a
    simp only at a
    -- the next number
    obtain ⟨y, y1, y2, y3, y4⟩ : ∃ y, (o (i + n + 1)).1 ≤ y ∧ y ≤ (o (i + n + 1)).2 ∧ b.cL (i + n) ≤ y - v (i + n) ∧ y - v (i + n) ≤ b.cH (i + n) := by
      by_cases hm : (o (i + n + 1)).1 ≤ v (i + n) + b.cL (i + n)
      · by_cases hc : b.cL (i + n) ≤ b.cH (i + n)
        · exact ⟨v (i + n) + b.cL (i + n), by omega, by omega, by omega, by omega⟩
        · have g := hx (i + n + 1) (by omega) _ (Bk.mem_before (by omega))
          unfold InSp at g
          simp only [Nat.add_sub_cancel] at g
          omega
      · exact ⟨(o (i + n + 1)).1, by omega, by omega, by omega, by omega⟩
    refine ⟨fun j => if j = i + n + 1 then y else v j, ?_, ?_, ?_⟩
    · simp only
      rw [if_neg (by omega)]; exact v0
    · intro j a1 a2
      simp only
      by_cases hj : j = i + n + 1
      · rw [if_pos hj]; subst hj; exact ⟨y1, y2⟩
      · rw [if_neg hj]; exact v1 j a1 (by omega)
    · intro j a1 a2
      simp only
      by_cases hj : j = i + n
      · subst hj
        rw [if_pos rfl, if_neg (by omega)]; exact ⟨y3, y4⟩
      · rw [if_neg (by omega), if_neg (by omega)]; exact v2 j a1 (by omega)
/-- and downwards -/
theorem Bk.down {b : Bk} {o : Ofs} (F : Fine o) (hx : b.Fix o) (i : Nat) (v : Nat → Int) (hi : i ≤ b.ticks) (v1 : ∀ j, i ≤ j → j ≤ b.ticks → (o j).1 ≤ v j ∧ v j ≤ (o j).2) (v2 : ∀ j, i ≤ j → j < b.ticks → b.cL j ≤ v (j + 1) - v j ∧ v (j + 1) - v j ≤ b.cH j) : ∃ u : Nat → Int, (∀ j, i ≤ j → u j = v j) ∧ (∀ j, j ≤ b.ticks → (o j).1 ≤ u j ∧ u j ≤ (o j).2) ∧ ∀ j, j < b.ticks → b.cL j ≤ u (j + 1) - u j ∧ u (j + 1) - u j ≤ b.cH j := by
  induction i generalizing v with
  | zero => exact ⟨v, fun _ _ => rfl, fun j h => v1 j (Nat.zero_le _) h, fun j h => v2 j (Nat.zero_le _) h⟩
  | succ n ih =>
    have a := hx (n + 1) hi _ (Bk.mem_before (by omega))
    have c := v1 (n + 1) (Nat.le_refl _) hi
    have f := F n
    unfold InSp at a
    simp only [Nat.add_sub_cancel] at a
    obtain ⟨y, y1, y2, y3, y4⟩ : ∃ y, (o n).1 ≤ y ∧ y ≤ (o n).2 ∧ b.cL n ≤ v (n + 1) - y ∧ v (n + 1) - y ≤ b.cH n := by
      by_cases hm : (o n).1 ≤ v (n + 1) - b.cH n
      · by_cases hc : b.cL n ≤ b.cH n
        · exact ⟨v (n + 1) - b.cH n, by omega, by omega, by omega, by omega⟩
        · have g := hx n (by omega) _ (Bk.mem_behind (by omega))
          unfold InSp at g
          simp only at g
          omega
      · exact ⟨(o n).1, by omega, by omega, by omega, by omega⟩
    obtain ⟨u, u0, u1, u2⟩ := ih (fun j => if j = n then y else v j) (by omega) (fun j a1 a2 => by
      by_cases hj : j = n
      · rw [if_pos hj]; subst hj; exact ⟨y1, y2⟩
      · rw [if_neg hj]; exact v1 j (by omega) a2) (fun j a1 a2 => by
      by_cases hj : j = n
      · subst hj
        rw [if_pos rfl, if_neg (by omega)]; exact ⟨y3, y4⟩
      · rw [if_neg (by omega), if_neg hj]; exact v2 j (by omega) a2)
    refine ⟨u, fun j hj => ?_, u1, u2⟩
    rw [u0 j (by omega), if_neg (by omega)]
/-- THE FIXED POINT IS TIGHT: each number that is left is so in a truth -/
theorem Bk.tight {b : Bk} {o : Ofs} (F : Fine o) (hx : b.Fix o) {i : Nat} {x : Int} (hi : i ≤ b.ticks) (h1 : (o i).1 ≤ x) (h2 : x ≤ (o i).2) : ∃ v, b.Tru v ∧ v i = x := by
  obtain ⟨v, v0, v1, v2⟩ := Bk.up F hx i x h1 h2 (b.ticks - i) (by omega)
  obtain ⟨u, u0, u1, u2⟩ := Bk.down F hx i v hi (fun j a c => v1 j a (by omega)) (fun j a c => v2 j a (by omega))
  refine ⟨u, ⟨fun j hj => ?_, fun j hj l hl he => ?_, u2⟩, (u0 i (Nat.le_refl _)).trans v0⟩
  · have a := u1 j hj
    have f := F j
    omega
  · have a := u1 j hj
    have k := hx j hj _ (Bk.mem_look hl he)
    unfold InSp at k
    omega
/-- at a tick the offset lies between these numbers, and both ends are so in a truth -/
structure Bk.Ends (b : Bk) (i : Nat) (l h : Int) : Prop where
  low : ∃ v, b.Tru v ∧ v i = l
  high : ∃ v, b.Tru v ∧ v i = h
  all : ∀ v, b.Tru v → l ≤ v i ∧ v i ≤ h
theorem Bk.Ends.uniq {b : Bk} {i : Nat} {l h l' h' : Int} (a : b.Ends i l h) (c : b.Ends i l' h') : l = l' ∧ h = h' := by
  obtain ⟨v, v1, v2⟩ := a.low
  obtain ⟨u, u1, u2⟩ := a.high
  obtain ⟨x, x1, x2⟩ := c.low
  obtain ⟨y, y1, y2⟩ := c.high
  have p := c.all v v1
  have q := c.all u u1
  have r := a.all x x1
  have s := a.all y y1
  omega
theorem Bk.Ends.of {b : Bk} {o : Ofs} (F : Fine o) (hx : b.Fix o) (hh : b.Holds o) {i : Nat} (hi : i ≤ b.ticks) : b.Ends i (o i).1 (o i).2 :=
  ⟨Bk.tight F hx hi (Int.le_refl _) (F i).2.1, Bk.tight F hx hi (F i).2.1 (Int.le_refl _), fun v hv => hh v hv i hi⟩
theorem Bk.Ends.fine {b : Bk} {i : Nat} {l h : Int} (a : b.Ends i l h) (hi : i ≤ b.ticks) : -20000 ≤ l ∧ l ≤ h ∧ h ≤ 20000 := by
  obtain ⟨v, v1, v2⟩ := a.low
  obtain ⟨u, u1, u2⟩ := a.high
  have p := a.all v v1
  have q := v1.off i hi
  have r := u1.off i hi
  omega

/-- the offsets after a change at one tick -/
def put (o : Ofs) (t : Nat) (s : Int × Int) : Ofs := fun i => if i = t then s else o i
theorem put_self (o : Ofs) (t : Nat) (s : Int × Int) : put o t s t = s := if_pos rfl
theorem put_ne (o : Ofs) {t i : Nat} (s : Int × Int) (h : i ≠ t) : put o t s i = o i := if_neg h
/-- what a round of narrow keeps: `o0` stood at its beginning, ticks before `t` are done, and of `t` the first `k` bounds -/
structure Bk.Nar (b : Bk) (o0 o : Ofs) (t k : Nat) : Prop where
  fine : Fine o
  sub : ∀ i, InSp (o i) (o0 i)
  holds : b.Holds o0 → b.Holds o
  past : ∀ i, b.ticks < i → o i = o0 i
  done : o = o0 → ∀ i, i < t → ∀ s ∈ b.bounds o0 i, InSp (o0 i) s
  some : o = o0 → ∀ s ∈ (b.bounds o0 t).take k, InSp (o0 t) s
theorem Bk.Nar.start {b : Bk} {o : Ofs} (F : Fine o) : b.Nar o o 0 0 :=
  ⟨F, fun _ => InSp.refl _, id, fun _ _ => rfl, fun _ i h => absurd h (Nat.not_lt_zero i), fun _ s h => by simp at h⟩
theorem Bk.Nar.next {b : Bk} {o0 o : Ofs} {t k : Nat} (h : b.Nar o0 o t k) (hk : (b.bounds o0 t).length ≤ k) : b.Nar o0 o (t + 1) 0 :=
  ⟨h.fine, h.sub, h.holds, h.past, fun e i hi => by
    by_cases ht : i = t
    · subst ht
      intro s hs
      exact h.some e s (by rw [List.take_of_length_le hk]; exact hs)
    · exact h.done e i (by omega), fun _ s h => by simp at h⟩
theorem Bk.bounds_ext {b : Bk} {o o' : Ofs} {t : Nat} (h : ∀ i, i ≠ t → o i = o' i) : b.bounds o t = b.bounds o' t := by
  unfold Bk.bounds
  by_cases h0 : 0 < t
  · rw [h (t - 1) (by omega), h (t + 1) (by omega)]
  · rw [if_neg h0, if_neg h0, h (t + 1) (by omega)]
theorem Bk.bounds_put {b : Bk} (o : Ofs) (t : Nat) (s : Int × Int) : b.bounds (put o t s) t = b.bounds o t :=
  Bk.bounds_ext fun _ hi => put_ne o s hi
/-- one bound more -/
theorem Bk.Nar.step {b : Bk} {o0 o : Ofs} {t k : Nat} (h : b.Nar o0 o t k) (ht : t ≤ b.ticks) {s : Int × Int} (hs : (b.bounds o t)[k]? = .some s) (hn : (bo (o t) s).1 ≤ (bo (o t) s).2) : b.Nar o0 (put o t (bo (o t) s)) t (k + 1) := by
  have hmem : s ∈ b.bounds o t := List.mem_of_getElem? hs
  have hsub : ∀ i, InSp (put o t (bo (o t) s) i) (o i) := fun i => by
    by_cases hi : i = t
    · subst hi; rw [put_self]; exact bo_in _ _
    · rw [put_ne _ _ hi]; exact InSp.refl _
  have same : put o t (bo (o t) s) = o0 → o = o0 ∧ bo (o t) s = o t := fun e => by
    have e1 : o = o0 := funext fun i => InSp.anti (h.sub i) (by rw [← e]; exact hsub i)
    refine ⟨e1, ?_⟩
    have := congrFun e t
    rw [put_self] at this
    rw [this, e1]
  refine ⟨fun i => ?_, fun i => (hsub i).trans (h.sub i), fun h0 v hv i hi => ?_, fun i hi => ?_, fun e => h.done (same e).1, fun e => ?_⟩
  · by_cases hi : i = t
    · subst hi
      rw [put_self]
      have f := h.fine i
      have g := bo_in (o i) s
      unfold InSp at g
      omega
    · rw [put_ne _ _ hi]; exact h.fine i
  · have a := h.holds h0 v hv
    by_cases hi' : i = t
    · subst hi'
      rw [put_self]
      have c := hv.bound a ht hmem
      have d := a i hi
      unfold bo
      exact ⟨by show max _ _ ≤ _; omega, by show _ ≤ min _ _; omega⟩
    · rw [put_ne _ _ hi']; exact a i hi
  · rw [put_ne _ _ (by omega)]; exact h.past i hi
  · obtain ⟨e1, e2⟩ := same e
    intro s' hs'
    rw [e1] at hs e2
    rw [List.take_add_one, List.mem_append] at hs'
    rcases hs' with hs' | hs'
    · exact h.some e1 s' hs'
    · rw [hs] at hs'
      simp at hs'
      subst hs'
      rw [← e2]
      exact bo_in2 _ _
/-- a bound that leaves nothing: the book cannot be true -/
theorem Bk.Nar.none {b : Bk} {o0 o : Ofs} {t k : Nat} (h : b.Nar o0 o t k) (h0 : b.Holds o0) (ht : t ≤ b.ticks) {s : Int × Int} (hs : (b.bounds o t)[k]? = .some s) (hn : ¬ (bo (o t) s).1 ≤ (bo (o t) s).2) : ∀ v, ¬ b.Tru v := by
  intro v hv
  have a := h.holds h0 v hv
  have c := hv.bound a ht (List.mem_of_getElem? hs)
  have d := a t ht
  unfold bo at hn
  simp only at hn
  omega
/-- what narrow leaves -/
structure Bk.Left (b : Bk) (o0 o : Ofs) : Prop where
  fine : Fine o
  sub : ∀ i, InSp (o i) (o0 i)
  holds : b.Holds o0 → b.Holds o
  past : ∀ i, b.ticks < i → o i = o0 i
  fix : o = o0 → b.Fix o0
theorem Bk.Nar.left {b : Bk} {o0 o : Ofs} {t : Nat} (h : b.Nar o0 o t 0) (ht : b.ticks < t) : b.Left o0 o :=
  ⟨h.fine, h.sub, h.holds, h.past, fun e i hi => h.done e i (Nat.lt_of_le_of_lt hi ht)⟩
/-- how wide offsets are, together -/
def width (o : Ofs) : Nat → Nat
  | 0 => 0
  | n + 1 => width o n + ((o n).2 - (o n).1).toNat
theorem width_le {o o0 : Ofs} (h : ∀ i, InSp (o i) (o0 i)) (n : Nat) : width o n ≤ width o0 n := by
  induction n with
  | zero => exact Nat.le_refl _
  | succ n ih =>
    have a := h n
    unfold InSp at a
    show width o n + _ ≤ width o0 n + _
    omega
theorem width_lt {o o0 : Ofs} (h : ∀ i, InSp (o i) (o0 i)) (F : Fine o) {n i : Nat} (hi : i < n) (hne : o i ≠ o0 i) : width o n < width o0 n := by
  induction n with
  | zero => omega
  | succ n ih =>
    have a := h n
    have l := width_le h n
    unfold InSp at a
    show width o n + _ < width o0 n + _
    by_cases hn : i = n
    · subst hn
      have f := F i
      have : (o i).1 ≠ (o0 i).1 ∨ (o i).2 ≠ (o0 i).2 := by
        by_cases h1 : (o i).1 = (o0 i).1
        · exact Or.inr fun h2 => hne (Prod.ext h1 h2)
        · exact Or.inl h1
      omega
    · have := ih (by omega)
      omega
/-- at first nothing is known -/
def ofs0 : Ofs := fun _ => (-20000, 20000)
theorem fine0 : Fine ofs0 := fun _ => ⟨Int.le_refl _, by unfold ofs0; omega, Int.le_refl _⟩
theorem Bk.holds0 (b : Bk) : b.Holds ofs0 := fun _ hv i hi => hv.off i hi
end S

end Go.Proofs.Ytcadpdbadgejfaa

/- The contracts of change, within the list and behind it, and of farthest. -/
namespace Go.Proofs.Ytcadpdbadgejfaa
open Go.RowKit

theorem cell_book {w : World} {b : Nat} {cs : Array Value} (h : mblk w b = some (.cells cs 104 (0, 0))) (j : Nat) : w.cell? ⟨b, j, none⟩ = cs[j]? := cellB h j
theorem cell_end {w : World} {b : Nat} {cs : Array Value} (h : mblk w b = some (.cells cs 139 (0, 0))) (j : Nat) : w.cell? ⟨b, j, none⟩ = cs[j]? := cellB h j
attribute [go_sem] cell_book cell_end
section
variable {f s j dl dh ticks : Int} {a a' : Option Addr} {n c n' c' : Nat}
set_option maxRecDepth 100000 in
set_option maxHeartbeats 2000000 in
theorem change_in {xs : List Int} (t : Nat) (ht : t < xs.length) {w : World} (I : Ints w (.slice a n c) xs) (hx : -500 ≤ xs.getD t 0 ∧ xs.getD t 0 ≤ 500) (d1 : -100 ≤ dl ∧ dl ≤ 100) (d2 : -100 ≤ dh ∧ dh ≤ 100) : Calls Try.prog 118 #[BV f s j dl dh ticks (.slice a n c) (.slice a' n' c'), .int .i64 t] w fun e w' => e = .returned (SpV (xs.getD t 0 + dl) (xs.getD t 0 + dh)) ∧ Up w w' := by
  obtain ⟨a0, c0, e0, _, hl, hm⟩ := I.is
  injection e0 with e1 e2 e3
  subst e1 e2 e3
  obtain ⟨g, off, rfl, gl, hc⟩ := hm (by omega)
  have cx := hc t ht
  generalize xs.getD t 0 = x at *
  have HA := Lib.hid (fun w => added_any x x dl dh w (by omega) (by omega) (by omega) (by omega))
  generalize x + dl = y1 at *
  generalize x + dh = y2 at *
  clear hc hm I hx d1 d2
  go_enter Try.func118, Try.ntmps118
  go_wp2_with fail
  obtain ⟨W0, hW0⟩ : ∃ W0, (w.alloc (.cells (BC f s j dl dh ticks (.slice (some ⟨g, off, none⟩) xs.length c) (.slice a' n' c')) 104)).alloc (.cells #[.int .i64 0, .int .i64 0] 23) = W0 := ⟨_, rfl⟩
  have U0 : Up w W0 := by rw [← hW0]; exact ((Up.refl w).alloc _).alloc _
  have kb : mblk W0 w.heap.size = some (.cells (BC f s j dl dh ticks (.slice (some ⟨g, off, none⟩) xs.length c) (.slice a' n' c')) 104 (0, 0)) := by rw [← hW0]; exact blk_keep _ (blk_new _ _ _ rfl)
  have kc : mblk W0 (w.heap.size + 1) = some (.cells #[.int .i64 0, .int .i64 0] 23 (0, 0)) := by rw [← hW0]; exact blk_new _ _ _ (by simp)
  have cx0 := (U0.facts.1 g _ gl).trans cx
  try rw [hW0]
  clear hW0
  refine wp_region_held_drew (S := fun w' => Up w w' ∧ mblk w' w.heap.size = some (.cells (BC f s j dl dh ticks (.slice (some ⟨g, off, none⟩) xs.length c) (.slice a' n' c')) 104 (0, 0)) ∧ w'.cell? ⟨g, off + t, none⟩ = some (.int .i64 x) ∧ ∃ q : Value × Value, mblk w' (w.heap.size + 1) = some (.cells #[q.1, q.2] 23 (0, 0))) (by kernel_rfl) ⟨U0.drew, by rw [blk_drew]; exact kb, cx0, (.int .i64 0, .int .i64 0), by rw [blk_drew]; exact kc⟩ (fun hHeld => ?_)
  refine takeH (i := 0) (d := (some 15)) (v := ?v1) rfl rfl (by kernel_rfl) (by kernel_rfl) (by kernel_rfl) (fun _ _ _ h => h) (by rfl) ?hy1 (by assumption) ?_
  case hy1 => ((intro w hSw; (try dsimp only at hSw); (try go_split_ands); go_simp); try with_reducible rfl)
  simp only [Act.put, List.setIfInBounds_toArray, List.set_cons_zero, List.set_cons_succ]
  refine takeH (i := 1) (d := (some 16)) (v := ?v2) rfl rfl (by kernel_rfl) (by kernel_rfl) (by kernel_rfl) (fun _ _ _ h => h) (by rfl) ?hy2 (by assumption) ?_
  case hy2 => ((intro w hSw; (try dsimp only at hSw); (try go_split_ands); go_simp); try with_reducible rfl)
  simp only [Act.put, List.setIfInBounds_toArray, List.set_cons_zero, List.set_cons_succ]
  refine takeH (i := 2) (d := (some 17)) (v := ?v3) rfl rfl (by kernel_rfl) (by kernel_rfl) (by kernel_rfl) (fun _ _ _ h => h) (by rfl) ?hy3 (by assumption) ?_
  case hy3 => ((intro w hSw; (try dsimp only at hSw); (try go_split_ands); go_simp); try with_reducible rfl)
  simp only [Act.put, List.setIfInBounds_toArray, List.set_cons_zero, List.set_cons_succ]
  refine takeH (i := 3) (d := (some 18)) (v := ?v4) rfl rfl (by kernel_rfl) (by kernel_rfl) (by kernel_rfl) (fun _ _ _ h => h) (by rfl) ?hy4 (by assumption) ?_
  case hy4 => ((intro w hSw; (try dsimp only at hSw); (try go_split_ands); go_simp); try with_reducible rfl)
  simp only [Act.put, List.setIfInBounds_toArray, List.set_cons_zero, List.set_cons_succ]
  refine takeH (i := 4) (d := (some 19)) (v := ?v5) rfl rfl (by kernel_rfl) (by kernel_rfl) (by kernel_rfl) (fun _ _ _ h => h) (by rfl) ?hy5 (by assumption) ?_
  case hy5 => ((intro w hSw; (try dsimp only at hSw); (try go_split_ands); go_simp); try with_reducible rfl)
  simp only [Act.put, List.setIfInBounds_toArray, List.set_cons_zero, List.set_cons_succ]
  refine takeH (i := 5) (d := (some 20)) (v := ?v6) rfl rfl (by kernel_rfl) (by kernel_rfl) (by kernel_rfl) (fun _ _ _ h => h) (by rfl) ?hy6 (by assumption) ?_
  case hy6 => ((intro w hSw; (try dsimp only at hSw); (try go_split_ands); go_simp); try with_reducible rfl)
  simp only [Act.put, List.setIfInBounds_toArray, List.set_cons_zero, List.set_cons_succ]
  refine takeH (i := 6) (d := (some 21)) (v := ?v7) rfl rfl (by kernel_rfl) (by kernel_rfl) (by kernel_rfl) (fun _ _ _ h => h) (by rfl) ?hy7 (by assumption) ?_
  case hy7 => ((intro w hSw; (try dsimp only at hSw); (try go_split_ands); go_simp); try with_reducible rfl)
  simp only [Act.put, List.setIfInBounds_toArray, List.set_cons_zero, List.set_cons_succ]
  refine takeH (i := 7) (d := (some 22)) (v := ?v8) rfl rfl (by kernel_rfl) (by kernel_rfl) (by kernel_rfl) (fun _ _ _ h => h) (by rfl) ?hy8 (by assumption) ?_
  case hy8 => ((intro w hSw; (try dsimp only at hSw); (try go_split_ands); go_simp); try with_reducible rfl)
  simp only [Act.put, List.setIfInBounds_toArray, List.set_cons_zero, List.set_cons_succ]
  refine takeH (i := 8) (d := (some 23)) (v := ?v9) rfl rfl (by kernel_rfl) (by kernel_rfl) (by kernel_rfl) (fun _ _ _ h => h) (by rfl) ?hy9 (by assumption) ?_
  case hy9 => ((intro w hSw; (try dsimp only at hSw); (try go_split_ands); go_simp); try with_reducible rfl)
  simp only [Act.put, List.setIfInBounds_toArray, List.set_cons_zero, List.set_cons_succ]
  refine takeH (i := 9) (d := (some 24)) (v := ?v10) rfl rfl (by kernel_rfl) (by kernel_rfl) (by kernel_rfl) (fun _ _ _ h => h) (by rfl) ?hy10 (by assumption) ?_
  case hy10 => ((intro w hSw; (try dsimp only at hSw); (try go_split_ands); go_simp); try with_reducible rfl)
  simp only [Act.put, List.setIfInBounds_toArray, List.set_cons_zero, List.set_cons_succ]
  refine takeH (i := 10) (d := (some 25)) (v := ?v11) rfl rfl (by kernel_rfl) (by kernel_rfl) (by kernel_rfl) (fun _ _ _ h => h) (by rfl) ?hy11 (by assumption) ?_
  case hy11 => ((intro w hSw; (try dsimp only at hSw); (try go_split_ands); go_simp); try with_reducible rfl)
  simp only [Act.put, List.setIfInBounds_toArray, List.set_cons_zero, List.set_cons_succ]
  refine takeH (i := 11) (d := (some 26)) (v := ?v12) rfl rfl (by kernel_rfl) (by kernel_rfl) (by kernel_rfl) (fun _ _ _ h => h) (by rfl) ?hy12 (by assumption) ?_
  case hy12 => ((intro w hSw; (try dsimp only at hSw); (try go_split_ands); go_simp); try with_reducible rfl)
  simp only [Act.put, List.setIfInBounds_toArray, List.set_cons_zero, List.set_cons_succ]
  refine takeH (i := 12) (d := (some 27)) (v := ?v13) rfl rfl (by kernel_rfl) (by kernel_rfl) (by kernel_rfl) (fun _ _ _ h => h) (by rfl) ?hy13 (by assumption) ?_
  case hy13 => ((intro w hSw; (try dsimp only at hSw); (try go_split_ands); go_simp); try with_reducible rfl)
  simp only [Act.put, List.setIfInBounds_toArray, List.set_cons_zero, List.set_cons_succ]
  refine takeH (i := 13) (d := (some 28)) (v := ?v14) rfl rfl (by kernel_rfl) (by kernel_rfl) (by kernel_rfl) (fun _ _ _ h => h) (by rfl) ?hy14 (by assumption) ?_
  case hy14 => ((intro w hSw; (try dsimp only at hSw); (try go_split_ands); go_simp); try with_reducible rfl)
  simp only [Act.put, List.setIfInBounds_toArray, List.set_cons_zero, List.set_cons_succ]
  refine takeH (i := 14) (d := (some 29)) (v := ?v15) rfl rfl (by kernel_rfl) (by kernel_rfl) (by kernel_rfl) (fun _ _ _ h => h) (by rfl) ?hy15 (by assumption) ?_
  case hy15 => ((intro w hSw; (try dsimp only at hSw); (try go_split_ands); go_simp); try with_reducible rfl)
  simp only [Act.put, List.setIfInBounds_toArray, List.set_cons_zero, List.set_cons_succ]
  refine takeH (i := 15) (d := (some 30)) (v := ?v16) rfl rfl (by kernel_rfl) (by kernel_rfl) (by kernel_rfl) (fun _ _ _ h => h) (by rfl) ?hy16 (by assumption) ?_
  case hy16 => ((intro w hSw; (try dsimp only at hSw); (try go_split_ands); go_simp); try with_reducible rfl)
  simp only [Act.put, List.setIfInBounds_toArray, List.set_cons_zero, List.set_cons_succ]
  refine takeH (i := 16) (d := (some 31)) (v := ?v17) rfl rfl (by kernel_rfl) (by kernel_rfl) (by kernel_rfl) (fun _ _ _ h => h) (by rfl) ?hy17 (by assumption) ?_
  case hy17 => ((intro w hSw; (try dsimp only at hSw); (try go_split_ands); go_simp); try with_reducible rfl)
  simp only [Act.put, List.setIfInBounds_toArray, List.set_cons_zero, List.set_cons_succ]
  refine wpAnyH_ready (rs := [17]) (by kernel_rfl) (by simp) ?_
  refine AllReadyH.cons rfl (fun K hK => ?_) AllReadyH.nil
  go_simp
  refine (HA.out _).mono ?_
  rintro e w1 ⟨rfl, u1⟩
  go_wp2_with fail
  refine hK.out _ _ ⟨hHeld.1.trans u1, u1.blk hHeld.2.1, (u1.facts.1 g _ (World.block_lt_of_cell? _ _ hHeld.2.2.1)).trans hHeld.2.2.1, hHeld.2.2.2.elim fun q k => ⟨q, u1.blk k⟩⟩ (fun hHeld => ?_)
  clear hK K u1
  obtain ⟨qc, kq⟩ := hHeld.2.2.2
  have fc := cellB kq
  have gc := frozB kq
  refine wpAnyH_ready (rs := [18]) (by kernel_rfl) (by simp) ?_
  refine AllReadyH.cons rfl (fun K hK => ?_) AllReadyH.nil
  go_simp
  obtain ⟨s5, hY⟩ : ∃ Y, (w1.setCell ⟨w.heap.size + 1, 0, none⟩ (.int .i64 y1)).setCell ⟨w.heap.size + 1, 1, none⟩ (.int .i64 y2) = Y := ⟨_, rfl⟩
  have kd : mblk s5 (w.heap.size + 1) = some (.cells #[.int .i64 y1, .int .i64 y2] 23 (0, 0)) := by rw [← hY]; exact blk_put (blk_put kq 0 _) 1 _
  have V : Up w s5 := by rw [← hY]; exact Up.set (Up.set hHeld.1 (by show w.heap.size ≤ w.heap.size + 1; omega) _) (by show w.heap.size ≤ w.heap.size + 1; omega) _
  have ka' : mblk s5 w.heap.size = some (.cells (BC f s j dl dh ticks (.slice (some ⟨g, off, none⟩) xs.length c) (.slice a' n' c')) 104 (0, 0)) := by rw [← hY, blk_set _ _ _ _ (by show w.heap.size ≠ w.heap.size + 1; omega), blk_set _ _ _ _ (by show w.heap.size ≠ w.heap.size + 1; omega)]; exact hHeld.2.1
  have cx' : s5.cell? ⟨g, off + t, none⟩ = some (.int .i64 x) := (V.facts.1 g _ gl).trans cx
  rw [hY]
  refine hK.out _ _ ⟨V, ka', cx', (_, _), kd⟩ (fun hHeld => ?_)
  clear hK K hY hHeld kq fc gc
  refine wpAnyH_done (by kernel_rfl) ?_ _
  have c7 := cellB kd
  go_wp2_with fail
  exact bodyPost_ret (v := SpV y1 y2) (by simp [results, Try.results118, go_sem, c7]) rfl ⟨rfl, V⟩

/-- how far a span reaches from 0 -/
def S.far (l h : Int) : Int := max (max 0 (-l)) h
set_option maxRecDepth 100000 in
set_option maxHeartbeats 2000000 in
theorem farthest_any (l h : Int) (w : World) (l1 : -1000000 ≤ l) (l2 : l ≤ 1000000) (h1 : -1000000 ≤ h) (h2 : h ≤ 1000000) : Calls Try.prog 78 #[SpV l h] w fun e w' => e = .returned (.int .i64 (S.far l h)) ∧ Up w w' := by
  obtain ⟨s0, hs0, hx0⟩ : ∃ sg : Int, sg = -1 ∧ (∀ w, (Instr.index 140 EV (.int .i64 0)).run Try.prog w = .ok (.agg #[.func (.func 110) #[] #[], .int .i64 sg]) w) := ⟨-1, rfl, fun w => by kernel_rfl⟩
  obtain ⟨s1, hs1, hx1⟩ : ∃ sg : Int, sg = 1 ∧ (∀ w, (Instr.index 140 EV (.int .i64 1)).run Try.prog w = .ok (.agg #[.func (.func 111) #[] #[], .int .i64 sg]) w) := ⟨1, rfl, fun w => by kernel_rfl⟩
  have U0 := (Up.refl w).alloc (.cells #[.int .i64 l, .int .i64 h] 23)
  have k0 := blk_new w (.cells #[.int .i64 l, .int .i64 h] 23) w.heap.size rfl
  have HE := Lib.hid (fun w => ends_any w)
  have H1 := Lib.hid (fun w => ends1_any l h w)
  have H2 := Lib.hid (fun w => ends2_any l h w)
  have e1 : IntKind.i64.wrap (s0 * l) = -l := by rw [hs0, IntWalk.i64_in _ (by omega)]; omega
  have e2 : IntKind.i64.wrap (s1 * h) = h := by rw [hs1, IntWalk.i64_in _ (by omega)]; omega
  have hM0 : ∀ (ts : Array TypeId) (t' : TypeId) (w : World), (Builtin.max_ ts t' #[.int .i64 0, .int .i64 (-l)]).run Try.prog w = .ok (.int .i64 (max 0 (-l))) w := fun ts t' w => by
    have e : (if -l > 0 then -l else 0) = max 0 (-l) := by split <;> omega
    rw [run_max_int2, e]
  have hM1 : ∀ (ts : Array TypeId) (t' : TypeId) (w : World), (Builtin.max_ ts t' #[.int .i64 (max 0 (-l)), .int .i64 h]).run Try.prog w = .ok (.int .i64 (S.far l h)) w := fun ts t' w => by
    have e : (if h > max 0 (-l) then h else max 0 (-l)) = S.far l h := by unfold S.far; split <;> omega
    rw [run_max_int2, e]
  generalize S.far l h = m1 at *
  generalize max 0 (-l) = m0 at *
  clear hs0 hs1
  go_enter Try.func78, Try.ntmps78
  go_wp2_with fail
  refine (HE.out _).mono ?_
  rintro e w1 ⟨rfl, u1⟩
  have U1 := U0.trans u1
  have k1 := u1.blk k0
  clear U0 u1 k0 HE
  go_wp2_with fail
  go_loopw [3, 7] (fun fr i wr => ((i = .int .i64 0 ∧ fr = .int .i64 0) ∨ (i = .int .i64 1 ∧ fr = .int .i64 m0) ∨ (i = .int .i64 2 ∧ fr = .int .i64 m1)) ∧ mblk wr w.heap.size = some (.cells #[.int .i64 l, .int .i64 h] 23 (0, 0)) ∧ Up w wr) (fun _ i _ => 2 - (intOf i).toNat)
  case atStart => exact ⟨.inl ⟨rfl, rfl⟩, k1, U1⟩
  case round =>
    obtain ⟨hi, k2, V⟩ := hrel
    rcases hi with ⟨rfl, rfl⟩ | ⟨rfl, rfl⟩ | ⟨rfl, rfl⟩
    · go_wp2_with fail
      obtain ⟨W1, hW1⟩ : ∃ W1, wr.alloc (.cells #[.func (.func 110) #[] #[], .int .i64 s0] 139) = W1 := ⟨_, rfl⟩
      obtain ⟨b5, hb5⟩ : ∃ b, wr.heap.size = b := ⟨_, rfl⟩
      have k5 : mblk W1 b5 = some (.cells #[.func (.func 110) #[] #[], .int .i64 s0] 139 (0, 0)) := by rw [← hW1]; exact blk_new _ _ _ hb5.symm
      have V1 : Up w W1 := by rw [← hW1]; exact V.alloc _
      have k3 : mblk W1 w.heap.size = some (.cells #[.int .i64 l, .int .i64 h] 23 (0, 0)) := by rw [← hW1]; exact blk_keep _ k2
      rw [hb5, hW1]
      clear hb5 hW1 V k2
      refine wp_region_held_drew (S := fun w' => Up w w' ∧ mblk w' b5 = some (.cells #[.func (.func 110) #[] #[], .int .i64 s0] 139 (0, 0)) ∧ mblk w' w.heap.size = some (.cells #[.int .i64 l, .int .i64 h] 23 (0, 0))) (by kernel_rfl) ⟨V1.drew, by rw [blk_drew]; exact k5, by rw [blk_drew]; exact k3⟩ (fun hHeld => ?_)
      clear V1 k5 k3
      refine takeH (i := 0) (d := (some 10)) (v := ?v20) rfl rfl (by kernel_rfl) (by kernel_rfl) (by kernel_rfl) (fun _ _ _ h => h) (by rfl) ?hy20 (by assumption) ?_
      case hy20 => ((intro w hSw; (try dsimp only at hSw); (try go_split_ands); go_simp); try with_reducible rfl)
      simp only [Act.put, List.setIfInBounds_toArray, List.set_cons_zero, List.set_cons_succ]
      refine takeH (i := 1) (d := (some 11)) (v := ?v21) rfl rfl (by kernel_rfl) (by kernel_rfl) (by kernel_rfl) (fun _ _ _ h => h) (by rfl) ?hy21 (by assumption) ?_
      case hy21 => ((intro w hSw; (try dsimp only at hSw); (try go_split_ands); go_simp); try with_reducible rfl)
      simp only [Act.put, List.setIfInBounds_toArray, List.set_cons_zero, List.set_cons_succ]
      refine takeH (i := 2) (d := (some 12)) (v := ?v22) rfl rfl (by kernel_rfl) (by kernel_rfl) (by kernel_rfl) (fun _ _ _ h => h) (by rfl) ?hy22 (by assumption) ?_
      case hy22 => ((intro w hSw; (try dsimp only at hSw); (try go_split_ands); go_simp); try with_reducible rfl)
      simp only [Act.put, List.setIfInBounds_toArray, List.set_cons_zero, List.set_cons_succ]
      refine takeH (i := 3) (d := (some 13)) (v := ?v23) rfl rfl (by kernel_rfl) (by kernel_rfl) (by kernel_rfl) (fun _ _ _ h => h) (by rfl) ?hy23 (by assumption) ?_
      case hy23 => ((intro w hSw; (try dsimp only at hSw); (try go_split_ands); go_simp); try with_reducible rfl)
      simp only [Act.put, List.setIfInBounds_toArray, List.set_cons_zero, List.set_cons_succ]
      refine takeH (i := 4) (d := (some 14)) (v := ?v24) rfl rfl (by kernel_rfl) (by kernel_rfl) (by kernel_rfl) (fun _ _ _ h => h) (by rfl) ?hy24 (by assumption) ?_
      case hy24 => ((intro w hSw; (try dsimp only at hSw); (try go_split_ands); go_simp); try with_reducible rfl)
      simp only [Act.put, List.setIfInBounds_toArray, List.set_cons_zero, List.set_cons_succ]
      refine takeH (i := 5) (d := (some 15)) (v := ?v25) rfl rfl (by kernel_rfl) (by kernel_rfl) (by kernel_rfl) (fun _ _ _ h => h) (by rfl) ?hy25 (by assumption) ?_
      case hy25 => ((intro w hSw; (try dsimp only at hSw); (try go_split_ands); go_simp); try with_reducible rfl)
      simp only [Act.put, List.setIfInBounds_toArray, List.set_cons_zero, List.set_cons_succ]
      refine wpAnyH_ready (rs := [6]) (by kernel_rfl) (by simp) ?_
      refine AllReadyH.cons rfl (fun K hK => ?_) AllReadyH.nil
      go_simp
      refine (H1.out _).mono ?_
      rintro e w3 ⟨rfl, u3⟩
      go_wp2_with fail
      refine hK.out _ _ ⟨hHeld.1.trans u3, u3.blk hHeld.2.1, u3.blk hHeld.2.2⟩ (fun hHeld => ?_)
      clear hK K u3
      refine takeH (i := 7) (d := (some 17)) (v := ?v27) rfl rfl (by kernel_rfl) (by kernel_rfl) (by kernel_rfl) (fun _ _ _ h => h) (by rfl) ?hy27 (by assumption) ?_
      case hy27 => ((intro w hSw; (try dsimp only at hSw); (try go_split_ands); go_simp); try with_reducible rfl)
      simp only [Act.put, List.setIfInBounds_toArray, List.set_cons_zero, List.set_cons_succ]
      refine takeH (i := 8) (d := (some 18)) (v := .int .i64 m0) rfl rfl (by kernel_rfl) (by kernel_rfl) (by kernel_rfl) (fun _ _ _ h => h) (by rfl) ?hymax (by assumption) ?_
      case hymax => ((intro w hSw; (try dsimp only at hSw); go_simp); try with_reducible rfl)
      simp only [Act.put, List.setIfInBounds_toArray, List.set_cons_zero, List.set_cons_succ]
      refine takeH (i := 9) (d := (some 3)) (v := ?v28) rfl rfl (by kernel_rfl) (by kernel_rfl) (by kernel_rfl) (fun _ _ _ h => h) (by rfl) ?hy28 (by assumption) ?_
      case hy28 => ((intro w hSw; (try dsimp only at hSw); (try go_split_ands); go_simp); try with_reducible rfl)
      simp only [Act.put, List.setIfInBounds_toArray, List.set_cons_zero, List.set_cons_succ]
      refine wpAnyH_done (by kernel_rfl) ?_ _
      have V1 := hHeld.1
      have k3 := hHeld.2.2
      clear hHeld
      go_wp2
      go_roundw
      case rel => exact ⟨.inr (.inl ⟨by go_num, rfl⟩), k3, V1⟩
      case measure => simp [intOf]
    · go_wp2_with fail
      obtain ⟨W1, hW1⟩ : ∃ W1, wr.alloc (.cells #[.func (.func 111) #[] #[], .int .i64 s1] 139) = W1 := ⟨_, rfl⟩
      obtain ⟨b5, hb5⟩ : ∃ b, wr.heap.size = b := ⟨_, rfl⟩
      have k5 : mblk W1 b5 = some (.cells #[.func (.func 111) #[] #[], .int .i64 s1] 139 (0, 0)) := by rw [← hW1]; exact blk_new _ _ _ hb5.symm
      have V1 : Up w W1 := by rw [← hW1]; exact V.alloc _
      have k3 : mblk W1 w.heap.size = some (.cells #[.int .i64 l, .int .i64 h] 23 (0, 0)) := by rw [← hW1]; exact blk_keep _ k2
      rw [hb5, hW1]
      clear hb5 hW1 V k2
      refine wp_region_held_drew (S := fun w' => Up w w' ∧ mblk w' b5 = some (.cells #[.func (.func 111) #[] #[], .int .i64 s1] 139 (0, 0)) ∧ mblk w' w.heap.size = some (.cells #[.int .i64 l, .int .i64 h] 23 (0, 0))) (by kernel_rfl) ⟨V1.drew, by rw [blk_drew]; exact k5, by rw [blk_drew]; exact k3⟩ (fun hHeld => ?_)
      clear V1 k5 k3
      refine takeH (i := 0) (d := (some 10)) (v := ?v29) rfl rfl (by kernel_rfl) (by kernel_rfl) (by kernel_rfl) (fun _ _ _ h => h) (by rfl) ?hy29 (by assumption) ?_
      case hy29 => ((intro w hSw; (try dsimp only at hSw); (try go_split_ands); go_simp); try with_reducible rfl)
      simp only [Act.put, List.setIfInBounds_toArray, List.set_cons_zero, List.set_cons_succ]
      refine takeH (i := 1) (d := (some 11)) (v := ?v30) rfl rfl (by kernel_rfl) (by kernel_rfl) (by kernel_rfl) (fun _ _ _ h => h) (by rfl) ?hy30 (by assumption) ?_
      case hy30 => ((intro w hSw; (try dsimp only at hSw); (try go_split_ands); go_simp); try with_reducible rfl)
      simp only [Act.put, List.setIfInBounds_toArray, List.set_cons_zero, List.set_cons_succ]
      refine takeH (i := 2) (d := (some 12)) (v := ?v31) rfl rfl (by kernel_rfl) (by kernel_rfl) (by kernel_rfl) (fun _ _ _ h => h) (by rfl) ?hy31 (by assumption) ?_
      case hy31 => ((intro w hSw; (try dsimp only at hSw); (try go_split_ands); go_simp); try with_reducible rfl)
      simp only [Act.put, List.setIfInBounds_toArray, List.set_cons_zero, List.set_cons_succ]
      refine takeH (i := 3) (d := (some 13)) (v := ?v32) rfl rfl (by kernel_rfl) (by kernel_rfl) (by kernel_rfl) (fun _ _ _ h => h) (by rfl) ?hy32 (by assumption) ?_
      case hy32 => ((intro w hSw; (try dsimp only at hSw); (try go_split_ands); go_simp); try with_reducible rfl)
      simp only [Act.put, List.setIfInBounds_toArray, List.set_cons_zero, List.set_cons_succ]
      refine takeH (i := 4) (d := (some 14)) (v := ?v33) rfl rfl (by kernel_rfl) (by kernel_rfl) (by kernel_rfl) (fun _ _ _ h => h) (by rfl) ?hy33 (by assumption) ?_
      case hy33 => ((intro w hSw; (try dsimp only at hSw); (try go_split_ands); go_simp); try with_reducible rfl)
      simp only [Act.put, List.setIfInBounds_toArray, List.set_cons_zero, List.set_cons_succ]
      refine takeH (i := 5) (d := (some 15)) (v := ?v34) rfl rfl (by kernel_rfl) (by kernel_rfl) (by kernel_rfl) (fun _ _ _ h => h) (by rfl) ?hy34 (by assumption) ?_
      case hy34 => ((intro w hSw; (try dsimp only at hSw); (try go_split_ands); go_simp); try with_reducible rfl)
      simp only [Act.put, List.setIfInBounds_toArray, List.set_cons_zero, List.set_cons_succ]
      refine wpAnyH_ready (rs := [6]) (by kernel_rfl) (by simp) ?_
      refine AllReadyH.cons rfl (fun K hK => ?_) AllReadyH.nil
      go_simp
      refine (H2.out _).mono ?_
      rintro e w3 ⟨rfl, u3⟩
      go_wp2_with fail
      refine hK.out _ _ ⟨hHeld.1.trans u3, u3.blk hHeld.2.1, u3.blk hHeld.2.2⟩ (fun hHeld => ?_)
      clear hK K u3
      refine takeH (i := 7) (d := (some 17)) (v := ?v36) rfl rfl (by kernel_rfl) (by kernel_rfl) (by kernel_rfl) (fun _ _ _ h => h) (by rfl) ?hy36 (by assumption) ?_
      case hy36 => ((intro w hSw; (try dsimp only at hSw); (try go_split_ands); go_simp); try with_reducible rfl)
      simp only [Act.put, List.setIfInBounds_toArray, List.set_cons_zero, List.set_cons_succ]
      refine takeH (i := 8) (d := (some 18)) (v := .int .i64 m1) rfl rfl (by kernel_rfl) (by kernel_rfl) (by kernel_rfl) (fun _ _ _ h => h) (by rfl) ?hymax (by assumption) ?_
      case hymax => ((intro w hSw; (try dsimp only at hSw); go_simp); try with_reducible rfl)
      simp only [Act.put, List.setIfInBounds_toArray, List.set_cons_zero, List.set_cons_succ]
      refine takeH (i := 9) (d := (some 3)) (v := ?v37) rfl rfl (by kernel_rfl) (by kernel_rfl) (by kernel_rfl) (fun _ _ _ h => h) (by rfl) ?hy37 (by assumption) ?_
      case hy37 => ((intro w hSw; (try dsimp only at hSw); (try go_split_ands); go_simp); try with_reducible rfl)
      simp only [Act.put, List.setIfInBounds_toArray, List.set_cons_zero, List.set_cons_succ]
      refine wpAnyH_done (by kernel_rfl) ?_ _
      have V1 := hHeld.1
      have k3 := hHeld.2.2
      clear hHeld
      go_wp2
      go_roundw
      case rel => exact ⟨.inr (.inr ⟨by go_num, rfl⟩), k3, V1⟩
      case measure => simp [intOf]
    · go_wp2
      go_ret
      exact ⟨rfl, V⟩
end

end Go.Proofs.Ytcadpdbadgejfaa

/- The contracts of areAll, of the library functions below it, and of newBook. -/
namespace Go.Proofs.Ytcadpdbadgejfaa
open Go.RowKit

/-- a slice of looks, in memory -/
structure Lks (w : World) (v : Value) (ls : List (Int × Int × Int)) : Prop where
  mk :: (is : ∃ a c, v = .slice a ls.length c ∧ ls.length ≤ c ∧ ls.length ≤ 9223372036854775807 ∧ (0 < ls.length → ∃ g off, a = some ⟨g, off, none⟩ ∧ g < w.heap.size ∧ ∀ j, j < ls.length → w.cell? ⟨g, off + j * 3, none⟩ = some (.int .i64 (ls.getD j (0, 0, 0)).1) ∧ w.cell? ⟨g, off + j * 3 + 1, none⟩ = some (.int .i64 (ls.getD j (0, 0, 0)).2.1) ∧ w.cell? ⟨g, off + j * 3 + 2, none⟩ = some (.int .i64 (ls.getD j (0, 0, 0)).2.2)))
theorem Lks.up {w w' : World} {v : Value} {ls : List (Int × Int × Int)} (h : Lks w v ls) (u : Up w w') : Lks w' v ls := by
  obtain ⟨a, c, e, hc, hl, hm⟩ := h.is
  refine ⟨a, c, e, hc, hl, fun h0 => ?_⟩
  obtain ⟨g, off, e1, e2, e3⟩ := hm h0
  exact ⟨g, off, e1, by have := u.size; omega, fun j hj => ⟨(u.facts.1 g _ e2).trans (e3 j hj).1, (u.facts.1 g _ e2).trans (e3 j hj).2.1, (u.facts.1 g _ e2).trans (e3 j hj).2.2⟩⟩
/-- is a look one? -/
def S.lookOk (ticks : Int) (l : Int × Int × Int) : Bool := inB l.1 0 ticks && S.spanOk l.2.1 l.2.2 20000
theorem S.all_drop {p : Int × Int × Int → Bool} {ls : List (Int × Int × Int)} {k : Nat} (hk : k < ls.length) : (ls.drop k).all p = (p (ls.getD k (0, 0, 0)) && (ls.drop (k + 1)).all p) := by
  rw [List.drop_eq_getElem_cons hk, List.all_cons, List.getD_eq_getElem?_getD, List.getElem?_eq_getElem hk]
  rfl
abbrev LV (t l h : Int) : Value := .agg #[.int .i64 t, .int .i64 l, .int .i64 h]

section
variable {f s j dl dh ticks : Int} {a a' : Option Addr} {n c n' c' : Nat}
set_option maxRecDepth 100000 in
theorem areAll1_any (t l h : Int) {B : Nat} {w : World} (kB : mblk w B = some (.cells #[.func (.func 92) #[BV f s j dl dh ticks (.slice a n c) (.slice a' n' c')] #[]] 134 (0, 0))) : Calls Try.prog 107 #[LV t l h, .pointer (some ⟨B, 0, none⟩)] w fun e w' => e = .returned (.bool (!S.lookOk ticks (t, l, h))) ∧ Up w w' := by
  have U := (Up.refl w).alloc (.cells #[.int .i64 t, .int .i64 l, .int .i64 h] 71)
  have k0 := blk_new w (.cells #[.int .i64 t, .int .i64 l, .int .i64 h] 71) w.heap.size rfl
  have k1 := blk_keep (.cells #[.int .i64 t, .int .i64 l, .int .i64 h] 71) kB
  have lB := blk_lt kB
  have f0 := cellB k0
  have f1 := cellB k1
  have HL := Lib.hid (fun w => isLook_any (f := f) (s := s) (j := j) (dl := dl) (dh := dh) (ticks := ticks) (a := a) (n := n) (c := c) (a' := a') (n' := n') (c' := c') t l h w)
  have eq : S.lookOk ticks (t, l, h) = (inB t 0 ticks && S.spanOk l h 20000) := rfl
  rw [eq]
  generalize (inB t 0 ticks && S.spanOk l h 20000) = q at *
  clear eq
  go_enter Try.func107, Try.ntmps107
  go_wp2_with fail
  refine (HL.out _).mono ?_
  rintro e w1 ⟨rfl, u1⟩
  go_wp2
  go_ret
  exact ⟨rfl, U.trans u1⟩

set_option maxRecDepth 100000 in
set_option maxHeartbeats 1000000 in
theorem indexFunc_any {ls : List (Int × Int × Int)} {v : Value} {w : World} (I : Lks w v ls) {B : Nat} (kB : mblk w B = some (.cells #[.func (.func 92) #[BV f s j dl dh ticks (.slice a n c) (.slice a' n' c')] #[]] 134 (0, 0))) : Calls Try.prog 115 #[v, .func (.func 107) #[] #[.pointer (some ⟨B, 0, none⟩)]] w fun e w' => ∃ r : Int, e = .returned (.int .i64 r) ∧ decide (r ≥ 0) = !ls.all (S.lookOk ticks) ∧ Up w w' := by
  obtain ⟨a0, c0, rfl, _, hl, hm⟩ := I.is
  have HI := Lib.hid I
  have HB := Lib.hid (fun w' (u : Up w w') t l h => areAll1_any t l h (u.blk kB))
  clear hm I kB
  go_enter Try.func115, Try.ntmps115
  go_wp2_with fail
  go_loopw [8] (fun i wr => ∃ k : Nat, k ≤ ls.length ∧ i = .int .i64 k ∧ Hid (ls.all (S.lookOk ticks) = (ls.drop k).all (S.lookOk ticks)) ∧ Up w wr) (fun i _ => ls.length - (intOf i).toNat)
  case atStart => exact ⟨0, Nat.zero_le _, rfl, rfl, Up.refl _⟩
  case round =>
    obtain ⟨k, hk, rfl, hD, U⟩ := hrel
    by_cases hlt : k < ls.length
    · obtain ⟨a1, c1, e1, _, _, hm⟩ := (HI.out.up U).is
      injection e1 with e1 e2 e3
      subst e1 e3
      clear e2
      obtain ⟨g, off, rfl, gl, hc⟩ := hm (by omega)
      obtain ⟨x1, x2, x3⟩ := hc k hlt
      have st := S.all_drop (p := S.lookOk ticks) hlt
      generalize ls.getD k (0, 0, 0) = z at *
      obtain ⟨t, lo, hi⟩ := z
      simp only at x1 x2 x3
      have HC := Lib.hid (HB.out wr U t lo hi)
      clear hc hm
      cases hq : S.lookOk ticks (t, lo, hi) with
      | true =>
        rw [hq, Bool.true_and] at st
        have h3 := Lib.hid (hD.out.trans st)
        rw [hq, Bool.not_true] at HC
        clear st hD hq
        go_wp2_with fail
        refine HC.out.mono ?_
        rintro e w1 ⟨rfl, u1⟩
        go_wp2
        go_roundw
        case rel => exact ⟨k + 1, by omega, by go_num, h3, U.trans u1⟩
        case measure => simp [intOf]; omega
      | false =>
        rw [hq, Bool.false_and] at st
        have h3 := Lib.hid (hD.out.trans st)
        rw [hq, Bool.not_false] at HC
        clear st hD hq
        go_wp2_with fail
        refine HC.out.mono ?_
        rintro e w1 ⟨rfl, u1⟩
        go_wp2
        go_ret
        exact ⟨_, rfl, (by rw [h3.out]; simp : decide ((k : Int) ≥ 0) = _), U.trans u1⟩
    · have h3 := hD.out
      rw [List.drop_eq_nil_of_le (by omega)] at h3
      have h4 := Lib.hid h3
      clear h3
      go_wp2
      go_ret
      exact ⟨-1, rfl, by rw [h4.out]; simp, U⟩
set_option maxRecDepth 100000 in
theorem containsFunc_any {ls : List (Int × Int × Int)} {v : Value} {w : World} (I : Lks w v ls) {B : Nat} (kB : mblk w B = some (.cells #[.func (.func 92) #[BV f s j dl dh ticks (.slice a n c) (.slice a' n' c')] #[]] 134 (0, 0))) : Calls Try.prog 106 #[v, .func (.func 107) #[] #[.pointer (some ⟨B, 0, none⟩)]] w fun e w' => e = .returned (.bool (!ls.all (S.lookOk ticks))) ∧ Up w w' := by
  have H := Lib.hid (indexFunc_any I kB)
  generalize (!ls.all (S.lookOk ticks)) = q at *
  clear I kB
  go_enter Try.func106, Try.ntmps106
  go_wp2_with fail
  refine H.out.mono ?_
  rintro e w1 ⟨r, rfl, hr, u1⟩
  go_wp2
  go_ret
  exact ⟨rfl, u1⟩
set_option maxRecDepth 100000 in
theorem areAll_any {ls : List (Int × Int × Int)} {v : Value} {w : World} (I : Lks w v ls) : Calls Try.prog 91 #[v, .int .i64 10, .func (.func 92) #[BV f s j dl dh ticks (.slice a n c) (.slice a' n' c')] #[]] w fun e w' => e = .returned (.bool (decide (ls.length ≤ 10) && ls.all (S.lookOk ticks))) ∧ Up w w' := by
  have U := (Up.refl w).alloc (.cells #[.func (.func 92) #[BV f s j dl dh ticks (.slice a n c) (.slice a' n' c')] #[]] 134)
  have H := Lib.hid (containsFunc_any (I.up U) (blk_new w (.cells #[.func (.func 92) #[BV f s j dl dh ticks (.slice a n c) (.slice a' n' c')] #[]] 134) _ rfl))
  obtain ⟨a0, c0, rfl, _, hl, _⟩ := I.is
  clear I
  by_cases h10 : ls.length ≤ 10
  · rw [decide_eq_true h10, Bool.true_and]
    generalize ls.all (S.lookOk ticks) = q at *
    have g : (ls.length : Int) ≤ 10 := by omega
    go_enter Try.func91, Try.ntmps91
    go_wp2_with fail
    refine H.out.mono ?_
    rintro e w1 ⟨rfl, u1⟩
    go_wp2
    go_ret
    exact ⟨rfl, U.trans u1⟩
  · rw [decide_eq_false h10, Bool.false_and]
    have g : ¬ (ls.length : Int) ≤ 10 := by omega
    clear H
    go_enter Try.func91, Try.ntmps91
    go_wp2
    go_ret
    exact ⟨rfl, U⟩
end

end Go.Proofs.Ytcadpdbadgejfaa
