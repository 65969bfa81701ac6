import Derived.Test.YtckjggkikpgidaaDad
/- The mathematics of a book: what the offsets can be at each tick. -/
namespace Go.Proofs.Ytckjggkikpgidaa

/-- what a book says of its offsets -/
structure S.Bk where
  ticks : Nat
  lo : Int
  hi : Int
  steer : List Int
  looks : List (Int × Int × Int)
namespace S
def Bk.cL (b : Bk) (t : Nat) : Int := b.steer.getD t 0 + b.lo
def Bk.cH (b : Bk) (t : Nat) : Int := b.steer.getD t 0 + b.hi
/-- what offsets lie between, tick by tick -/
abbrev Ofs := Nat → Int × Int
/-- all spans that bind the offset at a tick -/
def Bk.bounds (b : Bk) (o : Ofs) (t : Nat) : List (Int × Int) :=
  ((b.looks.filter fun l => decide (l.1 = (t : Int))).map fun l => l.2) ++ (if 0 < t then [((o (t - 1)).1 + b.cL (t - 1), (o (t - 1)).2 + b.cH (t - 1))] else []) ++ (if t < b.ticks then [((o (t + 1)).1 + -b.cH t, (o (t + 1)).2 + -b.cL t)] else [])
/-- the offsets truly were so -/
structure Bk.Tru (b : Bk) (v : Nat → Int) : Prop where
  off : ∀ i, i ≤ b.ticks → -20000 ≤ v i ∧ v i ≤ 20000
  look : ∀ i, i ≤ b.ticks → ∀ l ∈ b.looks, l.1 = (i : Int) → l.2.1 ≤ v i ∧ v i ≤ l.2.2
  step : ∀ i, i < b.ticks → b.cL i ≤ v (i + 1) - v i ∧ v (i + 1) - v i ≤ b.cH i
/-- all truths lie within -/
def Bk.Holds (b : Bk) (o : Ofs) : Prop := ∀ v, b.Tru v → ∀ i, i ≤ b.ticks → (o i).1 ≤ v i ∧ v i ≤ (o i).2
def InSp (o s : Int × Int) : Prop := s.1 ≤ o.1 ∧ o.2 ≤ s.2
theorem InSp.refl (o : Int × Int) : InSp o o := ⟨Int.le_refl _, Int.le_refl _⟩
theorem InSp.trans {a b c : Int × Int} (h : InSp a b) (k : InSp b c) : InSp a c := ⟨Int.le_trans k.1 h.1, Int.le_trans h.2 k.2⟩
theorem InSp.anti {a b : Int × Int} (h : InSp a b) (k : InSp b a) : a = b := Prod.ext (Int.le_antisymm k.1 h.1) (Int.le_antisymm h.2 k.2)
/-- what both spans have -/
def bo (a s : Int × Int) : Int × Int := (max a.1 s.1, min a.2 s.2)
theorem bo_in (a s : Int × Int) : InSp (bo a s) a := ⟨Int.le_max_left _ _, Int.min_le_left _ _⟩
theorem bo_in2 (a s : Int × Int) : InSp (bo a s) s := ⟨Int.le_max_right _ _, Int.min_le_right _ _⟩
/-- each offset is a span of small numbers -/
def Fine (o : Ofs) : Prop := ∀ i, -20000 ≤ (o i).1 ∧ (o i).1 ≤ (o i).2 ∧ (o i).2 ≤ 20000
/-- nothing can be narrowed -/
def Bk.Fix (b : Bk) (o : Ofs) : Prop := ∀ i, i ≤ b.ticks → ∀ s ∈ b.bounds o i, InSp (o i) s
/-- a truth lies in all bounds -/
theorem Bk.Tru.bound {b : Bk} {v : Nat → Int} (h : b.Tru v) {o : Ofs} (ho : ∀ i, i ≤ b.ticks → (o i).1 ≤ v i ∧ v i ≤ (o i).2) {i : Nat} (hi : i ≤ b.ticks) {s : Int × Int} (hs : s ∈ b.bounds o i) : s.1 ≤ v i ∧ v i ≤ s.2 := by
  unfold Bk.bounds at hs
  rw [List.mem_append, List.mem_append] at hs
  rcases hs with (hs | hs) | hs
  · obtain ⟨l, hl, rfl⟩ := List.mem_map.1 hs
    rw [List.mem_filter] at hl
    exact h.look i hi l hl.1 (of_decide_eq_true hl.2)
  · by_cases h0 : 0 < i
    · rw [if_pos h0, List.mem_singleton] at hs
      subst hs
      have a := h.step (i - 1) (by omega)
      have c := ho (i - 1) (by omega)
      rw [show i - 1 + 1 = i by omega] at a
      constructor <;> simp only <;> omega
    · rw [if_neg h0] at hs; simp at hs
  · by_cases h0 : i < b.ticks
    · rw [if_pos h0, List.mem_singleton] at hs
      subst hs
      have a := h.step i h0
      have c := ho (i + 1) (by omega)
      constructor <;> simp only <;> omega
    · rw [if_neg h0] at hs; simp at hs
theorem Bk.mem_look {b : Bk} {o : Ofs} {i : Nat} {l : Int × Int × Int} (hl : l ∈ b.looks) (he : l.1 = (i : Int)) : l.2 ∈ b.bounds o i := by
  unfold Bk.bounds
  rw [List.mem_append, List.mem_append]
  exact Or.inl (Or.inl (List.mem_map.2 ⟨l, List.mem_filter.2 ⟨hl, decide_eq_true he⟩, rfl⟩))
theorem Bk.mem_before {b : Bk} {o : Ofs} {i : Nat} (hi : 0 < i) : ((o (i - 1)).1 + b.cL (i - 1), (o (i - 1)).2 + b.cH (i - 1)) ∈ b.bounds o i := by
  unfold Bk.bounds
  rw [List.mem_append, List.mem_append, if_pos hi]
  exact Or.inl (Or.inr (List.mem_singleton.2 rfl))
theorem Bk.mem_behind {b : Bk} {o : Ofs} {i : Nat} (hi : i < b.ticks) : ((o (i + 1)).1 + -b.cH i, (o (i + 1)).2 + -b.cL i) ∈ b.bounds o i := by
  unfold Bk.bounds
  rw [List.mem_append, List.mem_append, if_pos hi]
  exact Or.inr (List.mem_singleton.2 rfl)
/-- upwards from a tick on -/
theorem Bk.up {b : Bk} {o : Ofs} (F : Fine o) (hx : b.Fix o) (i : Nat) (x : Int) (h1 : (o i).1 ≤ x) (h2 : x ≤ (o i).2) : ∀ n, i + n ≤ b.ticks → ∃ v : Nat → Int, v i = x ∧ (∀ j, i ≤ j → j ≤ i + n → (o j).1 ≤ v j ∧ v j ≤ (o j).2) ∧ ∀ j, i ≤ j → j < i + n → b.cL j ≤ v (j + 1) - v j ∧ v (j + 1) - v j ≤ b.cH j := by
  intro n
  induction n with
  | zero =>
    intro _
    refine ⟨fun _ => x, rfl, fun j a c => ?_, fun j a c => by omega⟩
    obtain rfl : i = j := by omega
    exact ⟨h1, h2⟩
  | succ n ih =>
    intro hn
    obtain ⟨v, v0, v1, v2⟩ := ih (by omega)
    have a := hx (i + n) (by omega) _ (Bk.mem_behind (by omega))
    have c := v1 (i + n) (by omega) (Nat.le_refl _)
    have f := F (i + n + 1)
    unfold InSp at a
    simp only at a
    -- the next number
    obtain ⟨y, y1, y2, y3, y4⟩ : ∃ y, (o (i + n + 1)).1 ≤ y ∧ y ≤ (o (i + n + 1)).2 ∧ b.cL (i + n) ≤ y - v (i + n) ∧ y - v (i + n) ≤ b.cH (i + n) := by
      by_cases hm : (o (i + n + 1)).1 ≤ v (i + n) + b.cL (i + n)
      · by_cases hc : b.cL (i + n) ≤ b.cH (i + n)
        · exact ⟨v (i + n) + b.cL (i + n), by omega, by omega, by omega, by omega⟩
        · have g := hx (i + n + 1) (by omega) _ (Bk.mem_before (by omega))
          unfold InSp at g
          simp only [Nat.add_sub_cancel] at g
          omega
      · exact ⟨(o (i + n + 1)).1, by omega, by omega, by omega, by omega⟩
    refine ⟨fun j => if j = i + n + 1 then y else v j, ?_, ?_, ?_⟩
    · simp only
      rw [if_neg (by omega)]; exact v0
    · intro j a1 a2
      simp only
      by_cases hj : j = i + n + 1
      · rw [if_pos hj]; subst hj; exact ⟨y1, y2⟩
      · rw [if_neg hj]; exact v1 j a1 (by omega)
    · intro j a1 a2
      simp only
      by_cases hj : j = i + n
      · subst hj
        rw [if_pos rfl, if_neg (by omega)]; exact ⟨y3, y4⟩
      · rw [if_neg (by omega), if_neg (by omega)]; exact v2 j a1 (by omega)
/-- and downwards -/
theorem Bk.down {b : Bk} {o : Ofs} (F : Fine o) (hx : b.Fix o) (i : Nat) (v : Nat → Int) (hi : i ≤ b.ticks) (v1 : ∀ j, i ≤ j → j ≤ b.ticks → (o j).1 ≤ v j ∧ v j ≤ (o j).2) (v2 : ∀ j, i ≤ j → j < b.ticks → b.cL j ≤ v (j + 1) - v j ∧ v (j + 1) - v j ≤ b.cH j) : ∃ u : Nat → Int, (∀ j, i ≤ j → u j = v j) ∧ (∀ j, j ≤ b.ticks → (o j).1 ≤ u j ∧ u j ≤ (o j).2) ∧ ∀ j, j < b.ticks → b.cL j ≤ u (j + 1) - u j ∧ u (j + 1) - u j ≤ b.cH j := by
  induction i generalizing v with
  | zero => exact ⟨v, fun _ _ => rfl, fun j h => v1 j (Nat.zero_le _) h, fun j h => v2 j (Nat.zero_le _) h⟩
  | succ n ih =>
    have a := hx (n + 1) hi _ (Bk.mem_before (by omega))
    have c := v1 (n + 1) (Nat.le_refl _) hi
    have f := F n
    unfold InSp at a
    simp only [Nat.add_sub_cancel] at a
    obtain ⟨y, y1, y2, y3, y4⟩ : ∃ y, (o n).1 ≤ y ∧ y ≤ (o n).2 ∧ b.cL n ≤ v (n + 1) - y ∧ v (n + 1) - y ≤ b.cH n := by
      by_cases hm : (o n).1 ≤ v (n + 1) - b.cH n
      · by_cases hc : b.cL n ≤ b.cH n
        · exact ⟨v (n + 1) - b.cH n, by omega, by omega, by omega, by omega⟩
        · have g := hx n (by omega) _ (Bk.mem_behind (by omega))
          unfold InSp at g
          simp only at g
          omega
      · exact ⟨(o n).1, by omega, by omega, by omega, by omega⟩
    obtain ⟨u, u0, u1, u2⟩ := ih (fun j => if j = n then y else v j) (by omega) (fun j a1 a2 => by
      by_cases hj : j = n
      · rw [if_pos hj]; subst hj; exact ⟨y1, y2⟩
      · rw [if_neg hj]; exact v1 j (by omega) a2) (fun j a1 a2 => by
      by_cases hj : j = n
      · subst hj
        rw [if_pos rfl, if_neg (by omega)]; exact ⟨y3, y4⟩
      · rw [if_neg (by omega), if_neg hj]; exact v2 j (by omega) a2)
    refine ⟨u, fun j hj => ?_, u1, u2⟩
    rw [u0 j (by omega), if_neg (by omega)]
/-- THE FIXED POINT IS TIGHT: each number that is left is so in a truth -/
theorem Bk.tight {b : Bk} {o : Ofs} (F : Fine o) (hx : b.Fix o) {i : Nat} {x : Int} (hi : i ≤ b.ticks) (h1 : (o i).1 ≤ x) (h2 : x ≤ (o i).2) : ∃ v, b.Tru v ∧ v i = x := by
  obtain ⟨v, v0, v1, v2⟩ := Bk.up F hx i x h1 h2 (b.ticks - i) (by omega)
  obtain ⟨u, u0, u1, u2⟩ := Bk.down F hx i v hi (fun j a c => v1 j a (by omega)) (fun j a c => v2 j a (by omega))
  refine ⟨u, ⟨fun j hj => ?_, fun j hj l hl he => ?_, u2⟩, (u0 i (Nat.le_refl _)).trans v0⟩
  · have a := u1 j hj
    have f := F j
    omega
  · have a := u1 j hj
    have k := hx j hj _ (Bk.mem_look hl he)
    unfold InSp at k
    omega
/-- at a tick the offset lies between these numbers, and both ends are so in a truth -/
structure Bk.Ends (b : Bk) (i : Nat) (l h : Int) : Prop where
  low : ∃ v, b.Tru v ∧ v i = l
  high : ∃ v, b.Tru v ∧ v i = h
  all : ∀ v, b.Tru v → l ≤ v i ∧ v i ≤ h
theorem Bk.Ends.uniq {b : Bk} {i : Nat} {l h l' h' : Int} (a : b.Ends i l h) (c : b.Ends i l' h') : l = l' ∧ h = h' := by
  obtain ⟨v, v1, v2⟩ := a.low
  obtain ⟨u, u1, u2⟩ := a.high
  obtain ⟨x, x1, x2⟩ := c.low
  obtain ⟨y, y1, y2⟩ := c.high
  have p := c.all v v1
  have q := c.all u u1
  have r := a.all x x1
  have s := a.all y y1
  omega
theorem Bk.Ends.of {b : Bk} {o : Ofs} (F : Fine o) (hx : b.Fix o) (hh : b.Holds o) {i : Nat} (hi : i ≤ b.ticks) : b.Ends i (o i).1 (o i).2 :=
  ⟨Bk.tight F hx hi (Int.le_refl _) (F i).2.1, Bk.tight F hx hi (F i).2.1 (Int.le_refl _), fun v hv => hh v hv i hi⟩
theorem Bk.Ends.fine {b : Bk} {i : Nat} {l h : Int} (a : b.Ends i l h) (hi : i ≤ b.ticks) : -20000 ≤ l ∧ l ≤ h ∧ h ≤ 20000 := by
  obtain ⟨v, v1, v2⟩ := a.low
  obtain ⟨u, u1, u2⟩ := a.high
  have p := a.all v v1
  have q := v1.off i hi
  have r := u1.off i hi
  omega

/-- the offsets after a change at one tick -/
def put (o : Ofs) (t : Nat) (s : Int × Int) : Ofs := fun i => if i = t then s else o i
theorem put_self (o : Ofs) (t : Nat) (s : Int × Int) : put o t s t = s := if_pos rfl
theorem put_ne (o : Ofs) {t i : Nat} (s : Int × Int) (h : i ≠ t) : put o t s i = o i := if_neg h
/-- what a round of narrow keeps: `o0` stood at its beginning, ticks before `t` are done, and of `t` the first `k` bounds -/
structure Bk.Nar (b : Bk) (o0 o : Ofs) (t k : Nat) : Prop where
  fine : Fine o
  sub : ∀ i, InSp (o i) (o0 i)
  holds : b.Holds o0 → b.Holds o
  past : ∀ i, b.ticks < i → o i = o0 i
  done : o = o0 → ∀ i, i < t → ∀ s ∈ b.bounds o0 i, InSp (o0 i) s
  some : o = o0 → ∀ s ∈ (b.bounds o0 t).take k, InSp (o0 t) s
theorem Bk.Nar.start {b : Bk} {o : Ofs} (F : Fine o) : b.Nar o o 0 0 :=
  ⟨F, fun _ => InSp.refl _, id, fun _ _ => rfl, fun _ i h => absurd h (Nat.not_lt_zero i), fun _ s h => by simp at h⟩
theorem Bk.Nar.next {b : Bk} {o0 o : Ofs} {t k : Nat} (h : b.Nar o0 o t k) (hk : (b.bounds o0 t).length ≤ k) : b.Nar o0 o (t + 1) 0 :=
  ⟨h.fine, h.sub, h.holds, h.past, fun e i hi => by
    by_cases ht : i = t
    · subst ht
      intro s hs
      exact h.some e s (by rw [List.take_of_length_le hk]; exact hs)
    · exact h.done e i (by omega), fun _ s h => by simp at h⟩
theorem Bk.bounds_ext {b : Bk} {o o' : Ofs} {t : Nat} (h : ∀ i, i ≠ t → o i = o' i) : b.bounds o t = b.bounds o' t := by
  unfold Bk.bounds
  by_cases h0 : 0 < t
  · rw [h (t - 1) (by omega), h (t + 1) (by omega)]
  · rw [if_neg h0, if_neg h0, h (t + 1) (by omega)]
theorem Bk.bounds_put {b : Bk} (o : Ofs) (t : Nat) (s : Int × Int) : b.bounds (put o t s) t = b.bounds o t :=
  Bk.bounds_ext fun _ hi => put_ne o s hi
/-- one bound more -/
theorem Bk.Nar.step {b : Bk} {o0 o : Ofs} {t k : Nat} (h : b.Nar o0 o t k) (ht : t ≤ b.ticks) {s : Int × Int} (hs : (b.bounds o t)[k]? = .some s) (hn : (bo (o t) s).1 ≤ (bo (o t) s).2) : b.Nar o0 (put o t (bo (o t) s)) t (k + 1) := by
  have hmem : s ∈ b.bounds o t := List.mem_of_getElem? hs
  have hsub : ∀ i, InSp (put o t (bo (o t) s) i) (o i) := fun i => by
    by_cases hi : i = t
    · subst hi; rw [put_self]; exact bo_in _ _
    · rw [put_ne _ _ hi]; exact InSp.refl _
  have same : put o t (bo (o t) s) = o0 → o = o0 ∧ bo (o t) s = o t := fun e => by
    have e1 : o = o0 := funext fun i => InSp.anti (h.sub i) (by rw [← e]; exact hsub i)
    refine ⟨e1, ?_⟩
    have := congrFun e t
    rw [put_self] at this
    rw [this, e1]
  refine ⟨fun i => ?_, fun i => (hsub i).trans (h.sub i), fun h0 v hv i hi => ?_, fun i hi => ?_, fun e => h.done (same e).1, fun e => ?_⟩
  · by_cases hi : i = t
    · subst hi
      rw [put_self]
      have f := h.fine i
      have g := bo_in (o i) s
      unfold InSp at g
      omega
    · rw [put_ne _ _ hi]; exact h.fine i
  · have a := h.holds h0 v hv
    by_cases hi' : i = t
    · subst hi'
      rw [put_self]
      have c := hv.bound a ht hmem
      have d := a i hi
      unfold bo
      exact ⟨by show max _ _ ≤ _; omega, by show _ ≤ min _ _; omega⟩
    · rw [put_ne _ _ hi']; exact a i hi
  · rw [put_ne _ _ (by omega)]; exact h.past i hi
  · obtain ⟨e1, e2⟩ := same e
    intro s' hs'
    rw [e1] at hs e2
    rw [List.take_add_one, List.mem_append] at hs'
    rcases hs' with hs' | hs'
    · exact h.some e1 s' hs'
    · rw [hs] at hs'
      simp at hs'
      subst hs'
      rw [← e2]
      exact bo_in2 _ _
/-- a bound that leaves nothing: the book cannot be true -/
theorem Bk.Nar.none {b : Bk} {o0 o : Ofs} {t k : Nat} (h : b.Nar o0 o t k) (h0 : b.Holds o0) (ht : t ≤ b.ticks) {s : Int × Int} (hs : (b.bounds o t)[k]? = .some s) (hn : ¬ (bo (o t) s).1 ≤ (bo (o t) s).2) : ∀ v, ¬ b.Tru v := by
  intro v hv
  have a := h.holds h0 v hv
  have c := hv.bound a ht (List.mem_of_getElem? hs)
  have d := a t ht
  unfold bo at hn
  simp only at hn
  omega
/-- what narrow leaves -/
structure Bk.Left (b : Bk) (o0 o : Ofs) : Prop where
  fine : Fine o
  sub : ∀ i, InSp (o i) (o0 i)
  holds : b.Holds o0 → b.Holds o
  past : ∀ i, b.ticks < i → o i = o0 i
  fix : o = o0 → b.Fix o0
theorem Bk.Nar.left {b : Bk} {o0 o : Ofs} {t : Nat} (h : b.Nar o0 o t 0) (ht : b.ticks < t) : b.Left o0 o :=
  ⟨h.fine, h.sub, h.holds, h.past, fun e i hi => h.done e i (Nat.lt_of_le_of_lt hi ht)⟩
/-- how wide offsets are, together -/
def width (o : Ofs) : Nat → Nat
  | 0 => 0
  | n + 1 => width o n + ((o n).2 - (o n).1).toNat
theorem width_le {o o0 : Ofs} (h : ∀ i, InSp (o i) (o0 i)) (n : Nat) : width o n ≤ width o0 n := by
  induction n with
  | zero => exact Nat.le_refl _
  | succ n ih =>
    have a := h n
    unfold InSp at a
    show width o n + _ ≤ width o0 n + _
    omega
theorem width_lt {o o0 : Ofs} (h : ∀ i, InSp (o i) (o0 i)) (F : Fine o) {n i : Nat} (hi : i < n) (hne : o i ≠ o0 i) : width o n < width o0 n := by
  induction n with
  | zero => omega
  | succ n ih =>
    have a := h n
    have l := width_le h n
    unfold InSp at a
    show width o n + _ < width o0 n + _
    by_cases hn : i = n
    · subst hn
      have f := F i
      have : (o i).1 ≠ (o0 i).1 ∨ (o i).2 ≠ (o0 i).2 := by
        by_cases h1 : (o i).1 = (o0 i).1
        · exact Or.inr fun h2 => hne (Prod.ext h1 h2)
        · exact Or.inl h1
      omega
    · have := ih (by omega)
      omega
/-- at first nothing is known -/
def ofs0 : Ofs := fun _ => (-20000, 20000)
theorem fine0 : Fine ofs0 := fun _ => ⟨Int.le_refl _, by unfold ofs0; omega, Int.le_refl _⟩
theorem Bk.holds0 (b : Bk) : b.Holds ofs0 := fun _ hv i hi => hv.off i hi
end S

end Go.Proofs.Ytckjggkikpgidaa
