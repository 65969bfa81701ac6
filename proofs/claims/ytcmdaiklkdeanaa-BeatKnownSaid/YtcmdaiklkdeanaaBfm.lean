import Derived.Test.YtcmdaiklkdeanaaFar
/- The mathematics of ties: what is brought near, pass by pass, and when nothing changes any more. -/
namespace Go.Proofs.Ytcmdaiklkdeanaa

/-- a tie: two places, and a span -/
abbrev T.Tie := (Int × Int) × (Int × Int) × Int × Int
/-- how far a tie reaches: ahead, or behind -/
def T.rch (ah : Bool) (t : T.Tie) : Int := if ah then t.2.2.2 else -t.2.2.1
def T.relax (ah : Bool) (f : (Int × Int) → Int) (t : T.Tie) : (Int × Int) → Int := fun i => if i = t.1 then min (f t.1) (f t.2.1 + T.rch ah t) else f i
def T.pass (ah : Bool) (L : List T.Tie) (f : (Int × Int) → Int) : (Int × Int) → Int := L.foldl (T.relax ah) f
def T.many (ah : Bool) (L : List T.Tie) (f : (Int × Int) → Int) : Nat → (Int × Int) → Int
  | 0 => f
  | k + 1 => T.pass ah L (T.many ah L f k)
def T.Feas (ah : Bool) (L : List T.Tie) (g : (Int × Int) → Int) : Prop := ∀ t ∈ L, g t.1 ≤ g t.2.1 + T.rch ah t

theorem T.relax_le (ah : Bool) (f : (Int × Int) → Int) (t : T.Tie) (i : (Int × Int)) : T.relax ah f t i ≤ f i := by
  unfold T.relax; split
  · rename_i h; subst h; omega
  · omega
theorem T.pass_le (ah : Bool) : ∀ (L : List T.Tie) (f : (Int × Int) → Int) (i : (Int × Int)), T.pass ah L f i ≤ f i
  | [], _, _ => Int.le_refl _
  | t :: L, f, i => Int.le_trans (T.pass_le ah L (T.relax ah f t) i) (T.relax_le ah f t i)
theorem T.relax_ge {ah : Bool} {f g : (Int × Int) → Int} {t : T.Tie} (hg : g t.1 ≤ g t.2.1 + T.rch ah t) (h : ∀ i, g i ≤ f i) (i : (Int × Int)) : g i ≤ T.relax ah f t i := by
  unfold T.relax; split
  · rename_i e; subst e; have := h t.1; have := h t.2.1; omega
  · exact h i
theorem T.pass_ge {ah : Bool} {g : (Int × Int) → Int} : ∀ {L : List T.Tie} {f : (Int × Int) → Int}, T.Feas ah L g → (∀ i, g i ≤ f i) → ∀ i, g i ≤ T.pass ah L f i
  | [], _, _, h => h
  | t :: L, f, hg, h => T.pass_ge (L := L) (f := T.relax ah f t) (fun x hx => hg x (List.mem_cons_of_mem _ hx)) (T.relax_ge (hg t List.mem_cons_self) h)
theorem T.pass_tie {ah : Bool} : ∀ {L : List T.Tie} {f f' : (Int × Int) → Int}, (∀ i, f i ≤ f' i) → ∀ t ∈ L, T.pass ah L f t.1 ≤ f' t.2.1 + T.rch ah t
  | [], _, _, _, t, ht => absurd ht (by simp)
  | x :: L, f, f', h, t, ht => by
    rcases List.mem_cons.1 ht with rfl | ht
    · refine Int.le_trans (T.pass_le ah L (T.relax ah f t) t.1) ?_
      unfold T.relax
      have := h t.2.1
      simp only [if_true]
      omega
    · exact T.pass_tie (L := L) (f := T.relax ah f x) (fun i => Int.le_trans (T.relax_le ah f x i) (h i)) t ht
/-- what does not change in a pass keeps to all ties -/
theorem T.feas_of_fix {ah : Bool} {L : List T.Tie} {f : (Int × Int) → Int} (h : ∀ t ∈ L, T.pass ah L f t.1 = f t.1) : T.Feas ah L f := fun t ht => by
  have := T.pass_tie (ah := ah) (f := f) (f' := f) (fun i => Int.le_refl _) t ht
  rw [h t ht] at this; exact this
theorem T.many_ge {ah : Bool} {L : List T.Tie} {f g : (Int × Int) → Int} (hg : T.Feas ah L g) (h : ∀ i, g i ≤ f i) : ∀ k i, g i ≤ T.many ah L f k i
  | 0, i => h i
  | k + 1, i => T.pass_ge hg (T.many_ge hg h k) i
theorem T.many_le {ah : Bool} {L : List T.Tie} {f : (Int × Int) → Int} : ∀ k i, T.many ah L f k i ≤ f i
  | 0, _ => Int.le_refl _
  | k + 1, i => Int.le_trans (T.pass_le ah L _ i) (T.many_le k i)
/-- places that no tie brings nearer stay -/
theorem T.relax_out {ah : Bool} {f : (Int × Int) → Int} {t : T.Tie} {i : (Int × Int)} (h : i ≠ t.1) : T.relax ah f t i = f i := by unfold T.relax; rw [if_neg h]
theorem T.pass_out {ah : Bool} {i : (Int × Int)} : ∀ {L : List T.Tie} {f : (Int × Int) → Int}, (∀ t ∈ L, i ≠ t.1) → T.pass ah L f i = f i
  | [], _, _ => rfl
  | t :: L, f, h => (T.pass_out (L := L) (f := T.relax ah f t) fun x hx => h x (List.mem_cons_of_mem _ hx)).trans (T.relax_out (h t List.mem_cons_self))

/-- how much lies between two functions at some places -/
def T.gap (V : List (Int × Int)) (f g : (Int × Int) → Int) : Nat := (V.map fun i => (f i - g i).toNat).sum
theorem T.gap_lt : ∀ {V : List (Int × Int)} {f f' g : (Int × Int) → Int}, (∀ i, f' i ≤ f i) → (∀ i, g i ≤ f' i) → (∃ i ∈ V, f' i ≠ f i) → T.gap V f' g < T.gap V f g
  | [], _, _, _, _, _, ⟨_, h, _⟩ => absurd h (by simp)
  | x :: V, f, f', g, h1, h2, ⟨i, hi, hne⟩ => by
    have le : ∀ V : List (Int × Int), T.gap V f' g ≤ T.gap V f g := by
      intro V; induction V with
      | nil => exact Nat.le_refl _
      | cons y V ih =>
        have := h1 y; have := h2 y
        show (f' y - g y).toNat + T.gap V f' g ≤ (f y - g y).toNat + T.gap V f g
        omega
    show (f' x - g x).toNat + T.gap V f' g < (f x - g x).toNat + T.gap V f g
    have a := h1 x; have b := h2 x
    by_cases e : f' x = f x
    · have hi' : i ∈ V := by
        rcases List.mem_cons.1 hi with rfl | h
        · exact absurd e hne
        · exact h
      have := T.gap_lt (V := V) h1 h2 ⟨i, hi', hne⟩
      rw [e]; omega
    · have := le V
      omega
/-- a pass that changes nothing is reached -/
theorem T.fix_ex {ah : Bool} {L : List T.Tie} {V : List (Int × Int)} (hV : ∀ t ∈ L, t.1 ∈ V) : ∀ (m : Nat) {f g : (Int × Int) → Int}, T.Feas ah L g → (∀ i, g i ≤ f i) → T.gap V f g ≤ m → ∃ k, ∀ i, T.many ah L f (k + 1) i = T.many ah L f k i := by
  intro m
  induction m with
  | zero =>
    intro f g hg h hm
    refine ⟨0, fun i => ?_⟩
    by_cases hi : i ∈ V
    · by_cases e : T.pass ah L f i = f i
      · exact e
      · have := T.gap_lt (V := V) (T.pass_le ah L f) (T.pass_ge hg h) ⟨i, hi, e⟩
        omega
    · exact T.pass_out fun t ht e => hi (e ▸ hV t ht)
  | succ m ih =>
    intro f g hg h hm
    by_cases hc : ∃ i ∈ V, T.pass ah L f i ≠ f i
    · have := T.gap_lt (V := V) (T.pass_le ah L f) (T.pass_ge hg h) hc
      obtain ⟨k, hk⟩ := ih (f := T.pass ah L f) hg (T.pass_ge hg h) (by omega)
      have sh : ∀ k, T.many ah L (T.pass ah L f) k = T.many ah L f (k + 1) := by
        intro k; induction k with
        | zero => rfl
        | succ k ih => show T.pass ah L _ = T.pass ah L _; rw [ih]
      refine ⟨k + 1, fun i => ?_⟩
      have q := hk i
      rw [sh, sh] at q; exact q
    · refine ⟨0, fun i => ?_⟩
      by_cases hi : i ∈ V
      · exact Classical.byContradiction fun e => hc ⟨i, hi, e⟩
      · exact T.pass_out fun t ht e => hi (e ▸ hV t ht)
theorem T.many_mono {ah : Bool} {L : List T.Tie} {f : (Int × Int) → Int} {k j : Nat} (h : k ≤ j) (i : (Int × Int)) : T.many ah L f j i ≤ T.many ah L f k i := by
  induction h with
  | refl => exact Int.le_refl _
  | step _ ih => exact Int.le_trans (T.pass_le ah L _ i) ih
theorem T.many_fixed {ah : Bool} {L : List T.Tie} {f : (Int × Int) → Int} {k : Nat} (h : ∀ i, T.many ah L f (k + 1) i = T.many ah L f k i) : ∀ j i, T.many ah L f (k + j) i = T.many ah L f k i
  | 0, _ => rfl
  | j + 1, i => by
    have e : T.many ah L f (k + j) = T.many ah L f k := funext (T.many_fixed h j)
    show T.pass ah L (T.many ah L f (k + j)) i = _
    rw [e]; exact h i
/-- at least one place more is as it will be, each pass -/
theorem T.more {ah : Bool} {L : List T.Tie} {V : List (Int × Int)} {f D : (Int × Int) → Int} {k : Nat} (hV : ∀ t ∈ L, t.1 ∈ V) (hD : T.Feas ah L D) (hf : ∀ i, D i ≤ f i)
    (hmax : ∀ g, T.Feas ah L g → (∀ i, g i ≤ f i) → ∀ i, g i ≤ D i) (hne : ∃ i ∈ V, T.many ah L f k i ≠ D i) :
    (V.filter fun i => decide (T.many ah L f (k + 1) i ≠ D i)).length < (V.filter fun i => decide (T.many ah L f k i ≠ D i)).length := by
  have ge : ∀ k i, D i ≤ T.many ah L f k i := T.many_ge hD hf
  have stay : ∀ i, T.many ah L f k i = D i → T.many ah L f (k + 1) i = D i := fun i e => by
    have := T.pass_le ah L (T.many ah L f k) i; have := ge (k + 1) i
    have : T.many ah L f (k + 1) i ≤ T.many ah L f k i := T.pass_le ah L _ i
    omega
  have new : ∃ i ∈ V, T.many ah L f k i ≠ D i ∧ T.many ah L f (k + 1) i = D i := by
    refine Classical.byContradiction fun hno => ?_
    obtain ⟨x, _, hx⟩ := hne
    have key := hmax (fun i => if T.many ah L f k i ≠ D i then D i + 1 else D i) (fun t ht => by
      have a := hD t ht
      have b : T.many ah L f (k + 1) t.1 ≤ T.many ah L f k t.2.1 + T.rch ah t := T.pass_tie (fun i => Int.le_refl _) t ht
      show (if T.many ah L f k t.1 ≠ D t.1 then D t.1 + 1 else D t.1) ≤ (if T.many ah L f k t.2.1 ≠ D t.2.1 then D t.2.1 + 1 else D t.2.1) + T.rch ah t
      by_cases h1 : T.many ah L f k t.1 = D t.1
      · rw [if_neg (by simpa using h1)]
        split <;> omega
      · rw [if_pos h1]
        by_cases h2 : T.many ah L f k t.2.1 = D t.2.1
        · rw [if_neg (by simpa using h2)]
          have c : T.many ah L f (k + 1) t.1 ≠ D t.1 := fun e => hno ⟨t.1, hV t ht, h1, e⟩
          have := ge (k + 1) t.1
          omega
        · rw [if_pos h2]; omega) (fun i => by
      show (if T.many ah L f k i ≠ D i then D i + 1 else D i) ≤ f i
      have := ge k i
      have : T.many ah L f k i ≤ f i := T.many_le k i
      have := hf i
      split
      · rename_i h; have : D i ≠ T.many ah L f k i := fun e => h e.symm
        omega
      · omega) x
    have e : (if T.many ah L f k x ≠ D x then D x + 1 else D x) = D x + 1 := if_pos hx
    have key' : (if T.many ah L f k x ≠ D x then D x + 1 else D x) ≤ D x := key
    rw [e] at key'
    omega
  obtain ⟨y, hy, hy1, hy2⟩ := new
  clear hV hmax hne hD
  induction V with
  | nil => exact absurd hy (by simp)
  | cons v V ih =>
    have le : ∀ V : List (Int × Int), (V.filter fun i => decide (T.many ah L f (k + 1) i ≠ D i)).length ≤ (V.filter fun i => decide (T.many ah L f k i ≠ D i)).length := by
      intro V; induction V with
      | nil => exact Nat.le_refl _
      | cons u V ih2 =>
        by_cases h1 : T.many ah L f k u = D u
        · have h2 := stay u h1
          rw [List.filter_cons_of_neg (by simpa using h2), List.filter_cons_of_neg (by simpa using h1)]; exact ih2
        · rw [List.filter_cons_of_pos (p := fun i => decide (T.many ah L f k i ≠ D i)) (by simpa using h1)]
          by_cases h2 : T.many ah L f (k + 1) u = D u
          · rw [List.filter_cons_of_neg (by simpa using h2)]; exact Nat.le_succ_of_le ih2
          · rw [List.filter_cons_of_pos (by simpa using h2)]; exact Nat.succ_le_succ ih2
    by_cases e : y = v
    · subst e
      rw [List.filter_cons_of_pos (p := fun i => decide (T.many ah L f k i ≠ D i)) (by simpa using hy1), List.filter_cons_of_neg (by simpa using hy2)]
      exact Nat.lt_succ_of_le (le V)
    · have hyV : y ∈ V := by
        rcases List.mem_cons.1 hy with h | h
        · exact absurd h e
        · exact h
      have q := ih hyV
      by_cases h1 : T.many ah L f k v = D v
      · have h2 := stay v h1
        rw [List.filter_cons_of_neg (by simpa using h2), List.filter_cons_of_neg (by simpa using h1)]; exact q
      · rw [List.filter_cons_of_pos (p := fun i => decide (T.many ah L f k i ≠ D i)) (by simpa using h1)]
        by_cases h2 : T.many ah L f (k + 1) v = D v
        · rw [List.filter_cons_of_neg (by simpa using h2)]; exact Nat.lt_succ_of_lt q
        · rw [List.filter_cons_of_pos (by simpa using h2)]; exact Nat.succ_lt_succ q
/-- where something keeps to all ties, a pass that changes nothing comes before there are as many passes as places -/
theorem T.soon {ah : Bool} {L : List T.Tie} {V : List (Int × Int)} {f g : (Int × Int) → Int} {x : (Int × Int)} (hV : ∀ t ∈ L, t.1 ∈ V) (hg : T.Feas ah L g) (hf : ∀ i, g i ≤ f i) (hx : x ∈ V) (hgx : g x = f x) :
    ∃ k, k < V.length ∧ ∀ i, T.many ah L f (k + 1) i = T.many ah L f k i := by
  obtain ⟨K, hK⟩ := T.fix_ex hV _ hg hf (Nat.le_refl (T.gap V f g))
  have hD : T.Feas ah L (T.many ah L f K) := T.feas_of_fix fun t _ => hK t.1
  have hmax : ∀ g, T.Feas ah L g → (∀ i, g i ≤ f i) → ∀ i, g i ≤ T.many ah L f K i := fun g a b => T.many_ge a b K
  have cnt : ∀ k, (V.filter fun i => decide (T.many ah L f k i ≠ T.many ah L f K i)).length + k < V.length ∨ ∃ j, j ≤ k ∧ ∀ i ∈ V, T.many ah L f j i = T.many ah L f K i := by
    intro k; induction k with
    | zero =>
      left
      have e : T.many ah L f K x = f x := by
        have := hmax g hg hf x; have : T.many ah L f K x ≤ f x := T.many_le K x
        omega
      refine Nat.lt_of_le_of_ne (List.length_filter_le _ _) fun h => ?_
      have := (List.length_filter_eq_length_iff.1 h) x hx
      simp only [decide_eq_true_eq] at this
      exact this e.symm
    | succ k ih =>
      rcases ih with h | ⟨j, hj, h⟩
      · by_cases hc : ∃ i ∈ V, T.many ah L f k i ≠ T.many ah L f K i
        · left
          have := T.more hV hD (T.many_le K) hmax hc
          omega
        · exact .inr ⟨k, by omega, fun i hi => Classical.byContradiction fun e => hc ⟨i, hi, e⟩⟩
      · exact .inr ⟨j, by omega, h⟩
  have hpos : 0 < V.length := List.length_pos_of_mem hx
  rcases cnt (V.length - 1) with h | ⟨j, hj, h⟩
  · have z : (V.filter fun i => decide (T.many ah L f (V.length - 1) i ≠ T.many ah L f K i)).length = 0 := by omega
    have all : ∀ i ∈ V, T.many ah L f (V.length - 1) i = T.many ah L f K i := fun i hi => Classical.byContradiction fun e => by
      have : i ∈ V.filter fun i => decide (T.many ah L f (V.length - 1) i ≠ T.many ah L f K i) := List.mem_filter.2 ⟨hi, by simpa using e⟩
      rw [List.length_eq_zero_iff.1 z] at this
      exact absurd this (by simp)
    refine ⟨V.length - 1, by omega, fun i => ?_⟩
    by_cases hi : i ∈ V
    · have a := all i hi
      have b : T.many ah L f (V.length - 1 + 1) i ≤ T.many ah L f (V.length - 1) i := T.pass_le ah L _ i
      have c := T.many_ge hD (T.many_le K) (V.length - 1 + 1) i
      omega
    · exact T.pass_out fun t ht e => hi (e ▸ hV t ht)
  · refine ⟨j, by omega, fun i => ?_⟩
    by_cases hi : i ∈ V
    · have a := h i hi
      have b : T.many ah L f (j + 1) i ≤ T.many ah L f j i := T.pass_le ah L _ i
      have c := T.many_ge hD (T.many_le K) (j + 1) i
      omega
    · exact T.pass_out fun t ht e => hi (e ▸ hV t ht)

/-! ### the same, of ties of moments -/
def T.tie (t : T.T6) : T.Tie := (T.one t, T.oth t, T.by t)
theorem T.rlxAll_pass (ah : Bool) (f : Int × Int → Int) (hf : ∀ s : Int × Int, f s = if ah then s.2 else -s.1) (o : Int × Int → Int) (ts : List T.T6) : T.rlxAll f o ts = T.pass ah (ts.map T.tie) o := by
  unfold T.rlxAll T.pass
  rw [List.foldl_map]
  congr 1
  funext o t
  unfold T.rlx T.relax T.put T.rch T.tie
  funext i
  simp only [hf]
theorem T.it_many (ah : Bool) (f : Int × Int → Int) (hf : ∀ s : Int × Int, f s = if ah then s.2 else -s.1) (ts : List T.T6) (o : Int × Int → Int) : ∀ k, T.it f ts o k = T.many ah (ts.map T.tie) o k
  | 0 => rfl
  | k + 1 => by
    show T.rlxAll f (T.it f ts o k) ts = T.pass ah (ts.map T.tie) (T.many ah (ts.map T.tie) o k)
    rw [T.it_many ah f hf ts o k, T.rlxAll_pass ah f hf]
/-- numbers that keep to all ties -/
def T.Sat (f : Int × Int → Int) (ts : List T.T6) (y : Int × Int → Int) : Prop := ∀ t ∈ ts, y (T.one t) ≤ y (T.oth t) + f (T.by t)
theorem T.sat_feas {ah : Bool} {f : Int × Int → Int} (hf : ∀ s : Int × Int, f s = if ah then s.2 else -s.1) {ts : List T.T6} {y : Int × Int → Int} : T.Sat f ts y ↔ T.Feas ah (ts.map T.tie) y := by
  unfold T.Sat T.Feas
  simp only [List.forall_mem_map]
  constructor
  · intro h t ht
    have := h t ht
    rw [hf] at this
    exact this
  · intro h t ht
    have := h t ht
    rw [hf]
    exact this
/-- what is told, if something keeps to all ties -/
theorem T.FarIs.yes {ah : Bool} {f : Int × Int → Int} (hf : ∀ s : Int × Int, f s = if ah then s.2 else -s.1) {ts : List T.T6} {D : List (Int × Int)} {m0 : Int × Int} {cs : Array Value} {r : Bool} (h : T.FarIs f ts (T.o0 D m0) D.length cs r)
    (hD : ∀ t ∈ ts, T.one t ∈ D ∧ T.oth t ∈ D) (hin : ∀ m ∈ D, T.in6 m) (hm0 : m0 ∈ D) (hfar : ∀ y, T.Sat f ts y → ∀ m ∈ D, y m - y m0 ≤ 200000) :
    (r = true ∧ ∃ d, T.Sat f ts d ∧ d m0 = 0 ∧ T.OC cs d ∧ ∀ y, T.Sat f ts y → ∀ m ∈ D, y m - y m0 ≤ d m) ∨ (r = false ∧ cs = OZ ∧ ∀ y, ¬ T.Sat f ts y) := by
  have hV : ∀ t ∈ ts.map T.tie, t.1 ∈ D := by
    intro t ht
    obtain ⟨u, hu, rfl⟩ := List.mem_map.1 ht
    exact (hD u hu).1
  -- outside of the places nothing is below what it was
  have low : ∀ y, T.Sat f ts y → ∃ g, T.Sat f ts g ∧ (∀ i, g i ≤ T.o0 D m0 i) ∧ g m0 = 0 ∧ ∀ m ∈ D, g m = y m - y m0 := fun y hy => by
    refine ⟨fun m => if m ∈ D then y m - y m0 else min (y m - y m0) 0, fun t ht => ?_, fun i => ?_, by simp [hm0], fun m hm => by simp [hm]⟩
    · have q := hy t ht
      have a := hD t ht
      simp only [if_pos a.1, if_pos a.2]
      omega
    · unfold T.o0
      by_cases e : i = m0
      · subst e; simp [hm0]
      · by_cases e2 : i ∈ D
        · simp only [if_neg e, if_pos e2]; exact hfar y hy i e2
        · simp only [if_neg e, if_neg e2]; omega
  have i2 : ∀ k, T.it f ts (T.o0 D m0) k = T.many ah (ts.map T.tie) (T.o0 D m0) k := T.it_many ah f hf ts _
  have dom : ∀ y, T.Sat f ts y → ∀ k, ∀ m ∈ D, y m - y m0 ≤ T.it f ts (T.o0 D m0) k m := fun y hy k m hm => by
    obtain ⟨g, g1, g2, g3, g4⟩ := low y hy
    rw [i2, ← g4 m hm]
    exact T.many_ge ((T.sat_feas hf).1 g1) g2 k m
  rcases h with ⟨rfl, j, hj, hs, hO⟩ | ⟨rfl, rfl, ha⟩
  · left
    have hsat : T.Sat f ts (T.it f ts (T.o0 D m0) j) := by
      refine (T.sat_feas hf).2 ?_
      rw [i2]
      refine T.feas_of_fix fun t ht => ?_
      have q := hs t.1 (hin _ (hV t ht))
      rw [i2, i2] at q
      exact q
    refine ⟨rfl, _, hsat, ?_, ⟨hO.size, fun m hm => by rw [← hs m hm]; exact hO.at_ m hm⟩, fun y hy => dom y hy j⟩
    have a := dom _ hsat j m0 hm0
    have b : T.it f ts (T.o0 D m0) j m0 ≤ T.o0 D m0 m0 := by rw [i2]; exact T.many_le j m0
    have c : T.o0 D m0 m0 = 0 := by unfold T.o0; simp
    omega
  · refine .inr ⟨rfl, rfl, fun y hy => ?_⟩
    obtain ⟨g, g1, g2, g3, g4⟩ := low y hy
    have c : T.o0 D m0 m0 = 0 := by unfold T.o0; simp
    obtain ⟨k, hk, hfix⟩ := T.soon hV ((T.sat_feas hf).1 g1) g2 hm0 (by rw [g3, c])
    refine ha k hk fun m _ => ?_
    rw [i2, i2]
    exact hfix m
end Go.Proofs.Ytcmdaiklkdeanaa
