import Derived.Test.YtlpkheoljbdajaaArr
/- The mathematics of ties: what is brought near, pass by pass, and when nothing changes any more; what is not known yet is as far as can be. -/
namespace Go.Proofs.Ytlpkheoljbdajaa

/-- not known yet -/
def T.M : Int := 9223372036854775807
/-- how far a tie reaches: ahead, or behind -/
def T.rch (ah : Bool) (t : T.T4) : Int := if ah then t.2.2 else -t.2.1
def T.relax (ah : Bool) (f : Int → Int) (t : T.T4) : Int → Int := fun i => if i = t.1.1 ∧ f t.1.2 < T.M then min (f t.1.1) (f t.1.2 + T.rch ah t) else f i
def T.pass (ah : Bool) (L : List T.T4) (f : Int → Int) : Int → Int := L.foldl (T.relax ah) f
def T.rnds (ah : Bool) (L : List T.T4) (f : Int → Int) : Nat → Int → Int
  | 0 => f
  | k + 1 => T.pass ah L (T.rnds ah L f k)
def T.Feas (ah : Bool) (L : List T.T4) (g : Int → Int) : Prop := ∀ t ∈ L, g t.1.2 < T.M → g t.1.1 ≤ g t.1.2 + T.rch ah t

theorem T.relax_le (ah : Bool) (f : Int → Int) (t : T.T4) (i : Int) : T.relax ah f t i ≤ f i := by
  unfold T.relax; split
  · rename_i h; rw [h.1]; omega
  · omega
theorem T.pass_le (ah : Bool) : ∀ (L : List T.T4) (f : Int → Int) (i : Int), T.pass ah L f i ≤ f i
  | [], _, _ => Int.le_refl _
  | t :: L, f, i => Int.le_trans (T.pass_le ah L (T.relax ah f t) i) (T.relax_le ah f t i)
theorem T.relax_ge {ah : Bool} {f g : Int → Int} {t : T.T4} (hg : g t.1.2 < T.M → g t.1.1 ≤ g t.1.2 + T.rch ah t) (h : ∀ i, g i ≤ f i) (i : Int) : g i ≤ T.relax ah f t i := by
  unfold T.relax; split
  · rename_i e; rw [e.1]; have := h t.1.1; have := h t.1.2; have := hg (by omega); omega
  · exact h i
theorem T.pass_ge {ah : Bool} {g : Int → Int} : ∀ {L : List T.T4} {f : Int → Int}, T.Feas ah L g → (∀ i, g i ≤ f i) → ∀ i, g i ≤ T.pass ah L f i
  | [], _, _, h => h
  | t :: L, f, hg, h => T.pass_ge (L := L) (f := T.relax ah f t) (fun x hx => hg x (List.mem_cons_of_mem _ hx)) (T.relax_ge (hg t List.mem_cons_self) h)
theorem T.pass_tie {ah : Bool} : ∀ {L : List T.T4} {f f' : Int → Int}, (∀ i, f i ≤ f' i) → ∀ t ∈ L, f' t.1.2 < T.M → T.pass ah L f t.1.1 ≤ f' t.1.2 + T.rch ah t
  | [], _, _, _, t, ht => absurd ht (by simp)
  | x :: L, f, f', h, t, ht => fun hM => by
    rcases List.mem_cons.1 ht with rfl | ht
    · refine Int.le_trans (T.pass_le ah L (T.relax ah f t) t.1.1) ?_
      unfold T.relax
      have := h t.1.2
      rw [if_pos ⟨rfl, by omega⟩]
      omega
    · exact T.pass_tie (L := L) (f := T.relax ah f x) (fun i => Int.le_trans (T.relax_le ah f x i) (h i)) t ht hM
/-- what does not change in a pass keeps to all ties -/
theorem T.feas_of_fix {ah : Bool} {L : List T.T4} {f : Int → Int} (h : ∀ t ∈ L, T.pass ah L f t.1.1 = f t.1.1) : T.Feas ah L f := fun t ht hM => by
  have := T.pass_tie (ah := ah) (f := f) (f' := f) (fun i => Int.le_refl _) t ht hM
  rw [h t ht] at this; exact this
theorem T.rnds_ge {ah : Bool} {L : List T.T4} {f g : Int → Int} (hg : T.Feas ah L g) (h : ∀ i, g i ≤ f i) : ∀ k i, g i ≤ T.rnds ah L f k i
  | 0, i => h i
  | k + 1, i => T.pass_ge hg (T.rnds_ge hg h k) i
theorem T.rnds_le {ah : Bool} {L : List T.T4} {f : Int → Int} : ∀ k i, T.rnds ah L f k i ≤ f i
  | 0, _ => Int.le_refl _
  | k + 1, i => Int.le_trans (T.pass_le ah L _ i) (T.rnds_le k i)
/-- places that no tie brings nearer stay -/
theorem T.relax_out {ah : Bool} {f : Int → Int} {t : T.T4} {i : Int} (h : i ≠ t.1.1) : T.relax ah f t i = f i := by unfold T.relax; rw [if_neg (fun e => h e.1)]
theorem T.pass_out {ah : Bool} {i : Int} : ∀ {L : List T.T4} {f : Int → Int}, (∀ t ∈ L, i ≠ t.1.1) → T.pass ah L f i = f i
  | [], _, _ => rfl
  | t :: L, f, h => (T.pass_out (L := L) (f := T.relax ah f t) fun x hx => h x (List.mem_cons_of_mem _ hx)).trans (T.relax_out (h t List.mem_cons_self))

/-- how much lies between two functions at some places -/
def T.gap (V : List Int) (f g : Int → Int) : Nat := (V.map fun i => (f i - g i).toNat).sum
theorem T.gap_lt : ∀ {V : List Int} {f f' g : Int → Int}, (∀ i, f' i ≤ f i) → (∀ i, g i ≤ f' i) → (∃ i ∈ V, f' i ≠ f i) → T.gap V f' g < T.gap V f g
  | [], _, _, _, _, _, ⟨_, h, _⟩ => absurd h (by simp)
  | x :: V, f, f', g, h1, h2, ⟨i, hi, hne⟩ => by
    have le : ∀ V : List Int, T.gap V f' g ≤ T.gap V f g := by
      intro V; induction V with
      | nil => exact Nat.le_refl _
      | cons y V ih =>
        have := h1 y; have := h2 y
        show (f' y - g y).toNat + T.gap V f' g ≤ (f y - g y).toNat + T.gap V f g
        omega
    show (f' x - g x).toNat + T.gap V f' g < (f x - g x).toNat + T.gap V f g
    have a := h1 x; have b := h2 x
    by_cases e : f' x = f x
    · have hi' : i ∈ V := by
        rcases List.mem_cons.1 hi with rfl | h
        · exact absurd e hne
        · exact h
      have := T.gap_lt (V := V) h1 h2 ⟨i, hi', hne⟩
      rw [e]; omega
    · have := le V
      omega
/-- a pass that changes nothing is reached -/
theorem T.fix_ex {ah : Bool} {L : List T.T4} {V : List Int} (hV : ∀ t ∈ L, t.1.1 ∈ V) : ∀ (m : Nat) {f g : Int → Int}, T.Feas ah L g → (∀ i, g i ≤ f i) → T.gap V f g ≤ m → ∃ k, ∀ i, T.rnds ah L f (k + 1) i = T.rnds ah L f k i := by
  intro m
  induction m with
  | zero =>
    intro f g hg h hm
    refine ⟨0, fun i => ?_⟩
    by_cases hi : i ∈ V
    · by_cases e : T.pass ah L f i = f i
      · exact e
      · have := T.gap_lt (V := V) (T.pass_le ah L f) (T.pass_ge hg h) ⟨i, hi, e⟩
        omega
    · exact T.pass_out fun t ht e => hi (e ▸ hV t ht)
  | succ m ih =>
    intro f g hg h hm
    by_cases hc : ∃ i ∈ V, T.pass ah L f i ≠ f i
    · have := T.gap_lt (V := V) (T.pass_le ah L f) (T.pass_ge hg h) hc
      obtain ⟨k, hk⟩ := ih (f := T.pass ah L f) hg (T.pass_ge hg h) (by omega)
      have sh : ∀ k, T.rnds ah L (T.pass ah L f) k = T.rnds ah L f (k + 1) := by
        intro k; induction k with
        | zero => rfl
        | succ k ih => show T.pass ah L _ = T.pass ah L _; rw [ih]
      refine ⟨k + 1, fun i => ?_⟩
      have q := hk i
      rw [sh, sh] at q; exact q
    · refine ⟨0, fun i => ?_⟩
      by_cases hi : i ∈ V
      · exact Classical.byContradiction fun e => hc ⟨i, hi, e⟩
      · exact T.pass_out fun t ht e => hi (e ▸ hV t ht)
theorem T.rnds_mono {ah : Bool} {L : List T.T4} {f : Int → Int} {k j : Nat} (h : k ≤ j) (i : Int) : T.rnds ah L f j i ≤ T.rnds ah L f k i := by
  induction h with
  | refl => exact Int.le_refl _
  | step _ ih => exact Int.le_trans (T.pass_le ah L _ i) ih
theorem T.rnds_fixed {ah : Bool} {L : List T.T4} {f : Int → Int} {k : Nat} (h : ∀ i, T.rnds ah L f (k + 1) i = T.rnds ah L f k i) : ∀ j i, T.rnds ah L f (k + j) i = T.rnds ah L f k i
  | 0, _ => rfl
  | j + 1, i => by
    have e : T.rnds ah L f (k + j) = T.rnds ah L f k := funext (T.rnds_fixed h j)
    show T.pass ah L (T.rnds ah L f (k + j)) i = _
    rw [e]; exact h i
/-- at least one place more is as it will be, each pass -/
theorem T.more {ah : Bool} {L : List T.T4} {V : List Int} {f D : Int → Int} {k : Nat} (hV : ∀ t ∈ L, t.1.1 ∈ V) (hD : T.Feas ah L D) (hf : ∀ i, D i ≤ f i)
    (hmax : ∀ g, T.Feas ah L g → (∀ i, g i ≤ f i) → ∀ i, g i ≤ D i) (hne : ∃ i ∈ V, T.rnds ah L f k i ≠ D i) :
    (V.filter fun i => decide (T.rnds ah L f (k + 1) i ≠ D i)).length < (V.filter fun i => decide (T.rnds ah L f k i ≠ D i)).length := by
  have ge : ∀ k i, D i ≤ T.rnds ah L f k i := T.rnds_ge hD hf
  have stay : ∀ i, T.rnds ah L f k i = D i → T.rnds ah L f (k + 1) i = D i := fun i e => by
    have := T.pass_le ah L (T.rnds ah L f k) i; have := ge (k + 1) i
    have : T.rnds ah L f (k + 1) i ≤ T.rnds ah L f k i := T.pass_le ah L _ i
    omega
  have new : ∃ i ∈ V, T.rnds ah L f k i ≠ D i ∧ T.rnds ah L f (k + 1) i = D i := by
    refine Classical.byContradiction fun hno => ?_
    obtain ⟨x, _, hx⟩ := hne
    have key := hmax (fun i => if T.rnds ah L f k i ≠ D i then D i + 1 else D i) (fun t ht hM => by
      have hM' : (if T.rnds ah L f k t.1.2 ≠ D t.1.2 then D t.1.2 + 1 else D t.1.2) < T.M := hM
      have dM : D t.1.2 < T.M := by split at hM' <;> omega
      have a := hD t ht dM
      show (if T.rnds ah L f k t.1.1 ≠ D t.1.1 then D t.1.1 + 1 else D t.1.1) ≤ (if T.rnds ah L f k t.1.2 ≠ D t.1.2 then D t.1.2 + 1 else D t.1.2) + T.rch ah t
      by_cases h1 : T.rnds ah L f k t.1.1 = D t.1.1
      · rw [if_neg (by simpa using h1)]
        split <;> omega
      · rw [if_pos h1]
        by_cases h2 : T.rnds ah L f k t.1.2 = D t.1.2
        · rw [if_neg (by simpa using h2)]
          have c : T.rnds ah L f (k + 1) t.1.1 ≠ D t.1.1 := fun e => hno ⟨t.1.1, hV t ht, h1, e⟩
          have b : T.rnds ah L f (k + 1) t.1.1 ≤ T.rnds ah L f k t.1.2 + T.rch ah t := T.pass_tie (fun i => Int.le_refl _) t ht (by omega)
          have := ge (k + 1) t.1.1
          omega
        · rw [if_pos h2]; omega) (fun i => by
      show (if T.rnds ah L f k i ≠ D i then D i + 1 else D i) ≤ f i
      have := ge k i
      have : T.rnds ah L f k i ≤ f i := T.rnds_le k i
      have := hf i
      split
      · rename_i h; have : D i ≠ T.rnds ah L f k i := fun e => h e.symm
        omega
      · omega) x
    have e : (if T.rnds ah L f k x ≠ D x then D x + 1 else D x) = D x + 1 := if_pos hx
    have key' : (if T.rnds ah L f k x ≠ D x then D x + 1 else D x) ≤ D x := key
    rw [e] at key'
    omega
  obtain ⟨y, hy, hy1, hy2⟩ := new
  clear hV hmax hne hD
  induction V with
  | nil => exact absurd hy (by simp)
  | cons v V ih =>
    have le : ∀ V : List Int, (V.filter fun i => decide (T.rnds ah L f (k + 1) i ≠ D i)).length ≤ (V.filter fun i => decide (T.rnds ah L f k i ≠ D i)).length := by
      intro V; induction V with
      | nil => exact Nat.le_refl _
      | cons u V ih2 =>
        by_cases h1 : T.rnds ah L f k u = D u
        · have h2 := stay u h1
          rw [List.filter_cons_of_neg (by simpa using h2), List.filter_cons_of_neg (by simpa using h1)]; exact ih2
        · rw [List.filter_cons_of_pos (p := fun i => decide (T.rnds ah L f k i ≠ D i)) (by simpa using h1)]
          by_cases h2 : T.rnds ah L f (k + 1) u = D u
          · rw [List.filter_cons_of_neg (by simpa using h2)]; exact Nat.le_succ_of_le ih2
          · rw [List.filter_cons_of_pos (by simpa using h2)]; exact Nat.succ_le_succ ih2
    by_cases e : y = v
    · subst e
      rw [List.filter_cons_of_pos (p := fun i => decide (T.rnds ah L f k i ≠ D i)) (by simpa using hy1), List.filter_cons_of_neg (by simpa using hy2)]
      exact Nat.lt_succ_of_le (le V)
    · have hyV : y ∈ V := by
        rcases List.mem_cons.1 hy with h | h
        · exact absurd h e
        · exact h
      have q := ih hyV
      by_cases h1 : T.rnds ah L f k v = D v
      · have h2 := stay v h1
        rw [List.filter_cons_of_neg (by simpa using h2), List.filter_cons_of_neg (by simpa using h1)]; exact q
      · rw [List.filter_cons_of_pos (p := fun i => decide (T.rnds ah L f k i ≠ D i)) (by simpa using h1)]
        by_cases h2 : T.rnds ah L f (k + 1) v = D v
        · rw [List.filter_cons_of_neg (by simpa using h2)]; exact Nat.lt_succ_of_lt q
        · rw [List.filter_cons_of_pos (by simpa using h2)]; exact Nat.succ_lt_succ q
/-- where something keeps to all ties, a pass that changes nothing comes before there are as many passes as places -/
theorem T.soon {ah : Bool} {L : List T.T4} {V : List Int} {f g : Int → Int} {x : Int} (hV : ∀ t ∈ L, t.1.1 ∈ V) (hg : T.Feas ah L g) (hf : ∀ i, g i ≤ f i) (hx : x ∈ V) (hgx : g x = f x) :
    ∃ k, k < V.length ∧ ∀ i, T.rnds ah L f (k + 1) i = T.rnds ah L f k i := by
  obtain ⟨K, hK⟩ := T.fix_ex hV _ hg hf (Nat.le_refl (T.gap V f g))
  have hD : T.Feas ah L (T.rnds ah L f K) := T.feas_of_fix fun t _ => hK t.1.1
  have hmax : ∀ g, T.Feas ah L g → (∀ i, g i ≤ f i) → ∀ i, g i ≤ T.rnds ah L f K i := fun g a b => T.rnds_ge a b K
  have cnt : ∀ k, (V.filter fun i => decide (T.rnds ah L f k i ≠ T.rnds ah L f K i)).length + k < V.length ∨ ∃ j, j ≤ k ∧ ∀ i ∈ V, T.rnds ah L f j i = T.rnds ah L f K i := by
    intro k; induction k with
    | zero =>
      left
      have e : T.rnds ah L f K x = f x := by
        have := hmax g hg hf x; have : T.rnds ah L f K x ≤ f x := T.rnds_le K x
        omega
      refine Nat.lt_of_le_of_ne (List.length_filter_le _ _) fun h => ?_
      have := (List.length_filter_eq_length_iff.1 h) x hx
      simp only [decide_eq_true_eq] at this
      exact this e.symm
    | succ k ih =>
      rcases ih with h | ⟨j, hj, h⟩
      · by_cases hc : ∃ i ∈ V, T.rnds ah L f k i ≠ T.rnds ah L f K i
        · left
          have := T.more hV hD (T.rnds_le K) hmax hc
          omega
        · exact .inr ⟨k, by omega, fun i hi => Classical.byContradiction fun e => hc ⟨i, hi, e⟩⟩
      · exact .inr ⟨j, by omega, h⟩
  have hpos : 0 < V.length := List.length_pos_of_mem hx
  rcases cnt (V.length - 1) with h | ⟨j, hj, h⟩
  · have z : (V.filter fun i => decide (T.rnds ah L f (V.length - 1) i ≠ T.rnds ah L f K i)).length = 0 := by omega
    have all : ∀ i ∈ V, T.rnds ah L f (V.length - 1) i = T.rnds ah L f K i := fun i hi => Classical.byContradiction fun e => by
      have : i ∈ V.filter fun i => decide (T.rnds ah L f (V.length - 1) i ≠ T.rnds ah L f K i) := List.mem_filter.2 ⟨hi, by simpa using e⟩
      rw [List.length_eq_zero_iff.1 z] at this
      exact absurd this (by simp)
    refine ⟨V.length - 1, by omega, fun i => ?_⟩
    by_cases hi : i ∈ V
    · have a := all i hi
      have b : T.rnds ah L f (V.length - 1 + 1) i ≤ T.rnds ah L f (V.length - 1) i := T.pass_le ah L _ i
      have c := T.rnds_ge hD (T.rnds_le K) (V.length - 1 + 1) i
      omega
    · exact T.pass_out fun t ht e => hi (e ▸ hV t ht)
  · refine ⟨j, by omega, fun i => ?_⟩
    by_cases hi : i ∈ V
    · have a := h i hi
      have b : T.rnds ah L f (j + 1) i ≤ T.rnds ah L f j i := T.pass_le ah L _ i
      have c := T.rnds_ge hD (T.rnds_le K) (j + 1) i
      omega
    · exact T.pass_out fun t ht e => hi (e ▸ hV t ht)


/-- numbers that keep to all ties -/
def T.Sat (ah : Bool) (ts : List T.T4) (y : Int → Int) : Prop := ∀ t ∈ ts, y t.1.1 ≤ y t.1.2 + T.rch ah t
/-- where it begins: 0 at one thing, and not known at all others -/
def T.d0 (m : Int) : Int → Int := fun i => if i = m then 0 else T.M
/-- what farthest tells -/
def T.FarIs (ah : Bool) (ts : List T.T4) (m : Int) (cs : Array Value) (r : Bool) : Prop :=
  (r = true ∧ ∃ j, j < 17 ∧ (∀ i : Int, 0 ≤ i → i ≤ 16 → T.rnds ah ts (T.d0 m) (j + 1) i = T.rnds ah ts (T.d0 m) j i) ∧ T.OC cs (T.rnds ah ts (T.d0 m) (j + 1))) ∨
  (r = false ∧ cs = NZ ∧ ∀ j, j < 17 → ¬ ∀ i : Int, 0 ≤ i → i ≤ 16 → T.rnds ah ts (T.d0 m) (j + 1) i = T.rnds ah ts (T.d0 m) j i)
/-- ties of things that there are -/
def T.Tin (ts : List T.T4) : Prop := ∀ t ∈ ts, (0 ≤ t.1.1 ∧ t.1.1 ≤ 16) ∧ (0 ≤ t.1.2 ∧ t.1.2 ≤ 16) ∧ T.Bs 10000000 t.2
def T.V : List Int := (List.range 17).map (Nat.cast : Nat → Int)
theorem T.mem_V {i : Int} : i ∈ T.V ↔ 0 ≤ i ∧ i ≤ 16 := by
  unfold T.V
  rw [List.mem_map]
  constructor
  · rintro ⟨k, hk, rfl⟩
    have := List.mem_range.1 hk
    omega
  · intro h
    exact ⟨i.toNat, List.mem_range.2 (by omega), by omega⟩
/-- things that ties lead to, in so many steps -/
inductive T.Rn (ts : List T.T4) (m : Int) : Nat → Int → Prop
  | here : T.Rn ts m 0 m
  | step {n : Nat} {t : T.T4} : t ∈ ts → T.Rn ts m n t.1.2 → T.Rn ts m (n + 1) t.1.1
theorem T.rch_bs {ah : Bool} {t : T.T4} (h : T.Bs 10000000 t.2) : -10000000 ≤ T.rch ah t ∧ T.rch ah t ≤ 10000000 := by
  obtain ⟨⟨h1, h2⟩, h3, h4⟩ := h
  unfold T.rch
  cases ah <;> simp <;> omega
theorem T.Rn.sat {ah : Bool} {ts : List T.T4} {m : Int} (hts : T.Tin ts) {y : Int → Int} (hy : T.Sat ah ts y) {n : Nat} {i : Int} (h : T.Rn ts m n i) : y i - y m ≤ 10000000 * n := by
  induction h with
  | here => simp
  | step ht _ ih =>
    have := hy _ ht
    have := (T.rch_bs (ah := ah) (hts _ ht).2.2).2
    push_cast
    omega
theorem T.Rn.feas {ah : Bool} {ts : List T.T4} {m : Int} (hts : T.Tin ts) {d : Int → Int} (hd : T.Feas ah ts d) (h0 : d m ≤ 0) {n : Nat} {i : Int} (h : T.Rn ts m n i) (hn : n ≤ 21) : d i ≤ 10000000 * n := by
  induction h with
  | here => simpa using h0
  | step ht _ ih =>
    have q := ih (by omega)
    have := hd _ ht (by unfold T.M; omega)
    have := (T.rch_bs (ah := ah) (hts _ ht).2.2).2
    push_cast
    omega
/-- what keeps to all ties lies below what has come up -/
def T.Und (y : Int → Int) (m : Int) (f : Int → Int) : Prop := ∀ i, f i < T.M → y i - y m ≤ f i
theorem T.Und.relax {ah : Bool} {y f : Int → Int} {m : Int} {t : T.T4} (hy : y t.1.1 ≤ y t.1.2 + T.rch ah t) (h : T.Und y m f) : T.Und y m (T.relax ah f t) := fun i hi => by
  unfold T.relax at hi ⊢
  split
  · rename_i e
    rw [if_pos e] at hi
    have := h _ e.2
    rw [e.1]
    by_cases h1 : f t.1.1 < T.M
    · have := h _ h1
      omega
    · omega
  · rename_i e
    rw [if_neg e] at hi
    exact h i hi
theorem T.Und.pass {ah : Bool} {y : Int → Int} {m : Int} : ∀ {ts : List T.T4} {f : Int → Int}, T.Sat ah ts y → T.Und y m f → T.Und y m (T.pass ah ts f)
  | [], _, _, h => h
  | t :: ts, _, hy, h => T.Und.pass (ts := ts) (fun u hu => hy u (List.mem_cons_of_mem _ hu)) (h.relax (hy t List.mem_cons_self))
theorem T.Und.rnds {ah : Bool} {y : Int → Int} {m : Int} {ts : List T.T4} (hy : T.Sat ah ts y) : ∀ k, T.Und y m (T.rnds ah ts (T.d0 m) k)
  | 0 => fun i hi => by
    have hi' : T.d0 m i < T.M := hi
    show y i - y m ≤ T.d0 m i
    unfold T.d0 at hi' ⊢
    split
    · rename_i e; rw [e]; omega
    · rename_i e; rw [if_neg e] at hi'; omega
  | k + 1 => (T.Und.rnds hy k).pass hy
/-- what is told, if something keeps to all ties -/
theorem T.FarIs.yes {ah : Bool} {ts : List T.T4} {m : Int} {cs : Array Value} {r : Bool} (h : T.FarIs ah ts m cs r) (hm : 0 ≤ m ∧ m ≤ 16) (hts : T.Tin ts) (hc : ∀ t ∈ ts, ∃ n, n ≤ 20 ∧ T.Rn ts m n t.1.2) :
    (r = true ∧ ∃ d, T.OC cs d ∧ d m = 0 ∧ T.Sat ah ts d ∧ (∀ n i, n ≤ 21 → T.Rn ts m n i → d i ≤ 10000000 * n) ∧ ∀ y, T.Sat ah ts y → ∀ i, d i < T.M → y i - y m ≤ d i) ∨ (r = false ∧ cs = NZ ∧ ∀ y, ¬ T.Sat ah ts y) := by
  have hV : ∀ t ∈ ts, t.1.1 ∈ T.V := fun t ht => T.mem_V.2 (hts t ht).1
  rcases h with ⟨rfl, j, hj, hs, hO⟩ | ⟨rfl, rfl, ha⟩
  · left
    obtain ⟨d, hd⟩ : ∃ d, T.rnds ah ts (T.d0 m) j = d := ⟨_, rfl⟩
    have hF : T.Feas ah ts d := by
      refine T.feas_of_fix fun t ht => ?_
      have q := hs t.1.1 (hts t ht).1.1 (hts t ht).1.2
      rw [← hd]
      exact q
    have d0 : d m ≤ 0 := by
      rw [← hd]
      have := T.rnds_le (ah := ah) (L := ts) (f := T.d0 m) j m
      have e : T.d0 m m = 0 := by unfold T.d0; rw [if_pos rfl]
      omega
    have rn : ∀ n i, n ≤ 21 → T.Rn ts m n i → d i ≤ 10000000 * n := fun n i hn hr => hr.feas hts hF d0 hn
    have sat : T.Sat ah ts d := fun t ht => by
      obtain ⟨n, hn, hr⟩ := hc t ht
      have := rn n _ (by omega) hr
      exact hF t ht (by unfold T.M; omega)
    have dom : ∀ y, T.Sat ah ts y → ∀ i, d i < T.M → y i - y m ≤ d i := fun y hy i hi => by
      rw [← hd] at hi ⊢
      exact T.Und.rnds hy j i hi
    have d1 := dom d sat m (by unfold T.M; omega)
    refine ⟨rfl, d, ⟨hO.size, fun i hi => ?_⟩, by omega, sat, rn, dom⟩
    rw [hO.at_ i hi, hs i (by omega) (by omega), hd]
  · refine .inr ⟨rfl, rfl, fun y hy => ?_⟩
    haveI : ∀ i, Decidable (∃ n, n ≤ 21 ∧ T.Rn ts m n i) := fun _ => Classical.propDecidable _
    obtain ⟨k, hk, hfix⟩ := T.soon (ah := ah) (L := ts) (V := T.V) (f := T.d0 m) (g := fun i => if ∃ n, n ≤ 21 ∧ T.Rn ts m n i then y i - y m else T.M) (x := m) hV (fun t ht _ => by
      obtain ⟨n, hn, hr⟩ := hc t ht
      have a1 : ∃ n, n ≤ 21 ∧ T.Rn ts m n t.1.2 := ⟨n, by omega, hr⟩
      have a2 : ∃ n, n ≤ 21 ∧ T.Rn ts m n t.1.1 := ⟨n + 1, by omega, .step ht hr⟩
      simp only [if_pos a1, if_pos a2]
      have := hy t ht
      omega) (fun i => by
      show (if ∃ n, n ≤ 21 ∧ T.Rn ts m n i then y i - y m else T.M) ≤ T.d0 m i
      unfold T.d0
      by_cases e : i = m
      · subst e
        rw [if_pos ⟨0, by omega, .here⟩, if_pos rfl]
        omega
      · rw [if_neg e]
        split
        · rename_i h
          obtain ⟨n, hn, hr⟩ := h
          have := hr.sat hts hy
          unfold T.M
          omega
        · omega) (T.mem_V.2 hm) (by
      show (if ∃ n, n ≤ 21 ∧ T.Rn ts m n m then y m - y m else T.M) = T.d0 m m
      rw [if_pos ⟨0, by omega, .here⟩]
      unfold T.d0
      rw [if_pos rfl]
      omega)
    exact ha k (by have : T.V.length = 17 := by simp [T.V]
                   omega) fun i _ _ => hfix i
/-- numbers between two bounds, or not known -/
def T.Bn (B : Int) (f : Int → Int) : Prop := ∀ i, (-B ≤ f i ∧ f i ≤ B) ∨ f i = T.M
theorem T.Bn.relax {ah : Bool} {B : Int} {f : Int → Int} {t : T.T4} (h : T.Bn B f) (hB : 0 ≤ B ∧ B ≤ 1000000000000) (ht : T.Bs 10000000 t.2) : T.Bn (B + 10000000) (T.relax ah f t) := fun i => by
  have r := T.rch_bs (ah := ah) ht
  have a := h i
  have b := h t.1.1
  have c := h t.1.2
  unfold T.relax
  unfold T.M at *
  split
  · rename_i e
    left
    omega
  · omega
theorem T.Bn.mono {B C : Int} {f : Int → Int} (h : T.Bn B f) (hc : B ≤ C) : T.Bn C f := fun i => by
  have := h i
  omega
theorem T.Bn.pass {ah : Bool} : ∀ {ts : List T.T4} {B : Int} {f : Int → Int}, T.Bn B f → 0 ≤ B → B + 10000000 * ts.length ≤ 1000000000000 → (∀ t ∈ ts, T.Bs 10000000 t.2) → T.Bn (B + 10000000 * ts.length) (T.pass ah ts f)
  | [], B, _, h, _, _, _ => h.mono (by simp)
  | t :: ts, B, f, h, h0, h1, hts => by
    rw [List.length_cons] at h1 ⊢
    push_cast at h1 ⊢
    exact (T.Bn.pass (ts := ts) (B := B + 10000000) (f := T.relax ah f t) (h.relax ⟨h0, by omega⟩ (hts t List.mem_cons_self)) (by omega) (by omega) fun u hu => hts u (List.mem_cons_of_mem _ hu)).mono (by omega)
theorem T.Bn.d0 (m : Int) : T.Bn 0 (T.d0 m) := fun i => by
  unfold T.d0
  split
  · left; omega
  · right; rfl
theorem T.Bn.rnds {ah : Bool} {ts : List T.T4} {m : Int} (hl : ts.length ≤ 300) (hts : ∀ t ∈ ts, T.Bs 10000000 t.2) : ∀ k : Nat, k ≤ 20 → T.Bn (3000000000 * k) (T.rnds ah ts (T.d0 m) k)
  | 0, _ => T.Bn.d0 m
  | k + 1, hk => ((T.Bn.rnds hl hts k (by omega)).pass (by omega) (by omega) hts).mono (by push_cast; omega)
theorem T.Bn.fine {B : Int} {f : Int → Int} (h : T.Bn B f) (hB : B ≤ 1000000000000) : T.Fine f := fun i _ _ => by
  have := h i
  unfold T.M at this
  unfold D.in64
  omega

end Go.Proofs.Ytlpkheoljbdajaa
