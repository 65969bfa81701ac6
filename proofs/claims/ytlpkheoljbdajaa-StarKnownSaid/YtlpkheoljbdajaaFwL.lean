import Derived.Test.YtlpkheoljbdajaaClA
/- What the search for the fewest clocks finds: the first of the smallest sets that will do. -/
namespace Go.Proofs.Ytlpkheoljbdajaa

/-- how many of a set lie from one place on, below another one -/
def T.cnt (t : Nat → Bool) (fr many : Nat) : Nat := ((List.range' fr (many - fr)).filter t).length
theorem T.cnt_step {t : Nat → Bool} {fr many : Nat} (h : fr < many) : T.cnt t fr many = (if t fr = true then 1 else 0) + T.cnt t (fr + 1) many := by
  unfold T.cnt
  rw [show many - fr = (many - (fr + 1)) + 1 by omega, List.range'_succ, List.filter_cons]
  split
  · rw [List.length_cons]; omega
  · omega
theorem T.cnt_end {t : Nat → Bool} {many : Nat} : T.cnt t many many = 0 := by
  unfold T.cnt
  rw [Nat.sub_self]
  rfl
theorem T.cnt_zero {t : Nat → Bool} {many : Nat} : ∀ {d fr : Nat}, many - fr = d → T.cnt t fr many = 0 → ∀ c, fr ≤ c → c < many → t c = false
  | 0, fr, hd, _, c, h1, h2 => by omega
  | d + 1, fr, hd, h, c, h1, h2 => by
    rw [T.cnt_step (by omega)] at h
    by_cases e : c = fr
    · subst e
      cases ht : t c with
      | false => rfl
      | true => rw [if_pos ht] at h; omega
    · exact T.cnt_zero (d := d) (fr := fr + 1) (by omega) (by omega) c (by omega) h2
/-- a set with so many clocks more from a place on -/
structure T.Ext (many l fr : Nat) (s0 t : Nat → Bool) : Prop where
  low : ∀ c, c < fr → t c = s0 c
  num : T.cnt t fr many = l
  high : ∀ c, many ≤ c → t c = false
/-- one set comes before another one -/
def T.Lex (s t : Nat → Bool) : Prop := ∃ c, (∀ d, d < c → s d = t d) ∧ s c = true ∧ t c = false
/-- what a search finds -/
def T.Fnds (P : (Nat → Bool) → Bool) (many l fr : Nat) (s0 : Nat → Bool) (r : Option (Nat → Bool)) : Prop :=
  (r = none → ∀ t, T.Ext many l fr s0 t → P t = false) ∧ ∀ s, r = some s → T.Ext many l fr s0 s ∧ P s = true ∧ ∀ t, T.Ext many l fr s0 t → P t = true → t = s ∨ T.Lex s t
theorem T.st_at (s : Nat → Bool) (c : Nat) (v : Bool) : T.st s c v c = v := by unfold T.st; rw [if_pos rfl]
theorem T.st_ne (s : Nat → Bool) {c d : Nat} (v : Bool) (h : d ≠ c) : T.st s c v d = s d := by unfold T.st; rw [if_neg h]
theorem T.ch_fnds {P : (Nat → Bool) → Bool} {many : Nat} : ∀ (l fr : Nat) (s0 : Nat → Bool), fr ≤ many → (∀ c, fr ≤ c → s0 c = false) → T.Fnds P many l fr s0 (T.ch P many l fr s0)
  | 0, fr, s0, hf, h0 => by
    have key : ∀ t, T.Ext many 0 fr s0 t → t = s0 := fun t ht => by
      funext c
      by_cases c1 : c < fr
      · exact ht.low c c1
      · rw [h0 c (by omega)]
        by_cases c2 : c < many
        · exact T.cnt_zero rfl ht.num c (by omega) c2
        · exact ht.high c (by omega)
    have e0 : T.Ext many 0 fr s0 s0 := ⟨fun _ _ => rfl, by
      unfold T.cnt
      rw [List.length_eq_zero_iff, List.filter_eq_nil_iff]
      intro c hc
      rw [h0 c (by have := List.mem_range'_1.1 hc; omega)]
      decide, fun c hc => h0 c (by omega)⟩
    show T.Fnds P many 0 fr s0 (if P s0 then some s0 else none)
    cases hP : P s0 with
    | true =>
      refine ⟨fun h => by simp at h, fun s hs => ?_⟩
      have : s0 = s := by simpa using hs
      subst this
      exact ⟨e0, hP, fun t ht _ => .inl (key t ht)⟩
    | false =>
      refine ⟨fun _ t ht => by rw [key t ht]; exact hP, fun s hs => by simp at hs⟩
  | l + 1, fr, s0, hf, h0 => by
    have main : ∀ (d fr : Nat), many - fr = d → fr ≤ many → (∀ c, fr ≤ c → s0 c = false) → T.Fnds P many (l + 1) fr s0 ((List.range' fr (many - fr)).findSome? fun c => T.ch P many l (c + 1) (T.st s0 c true)) := by
      intro d
      induction d with
      | zero =>
        intro fr hd hf h0
        obtain rfl : fr = many := by omega
        rw [Nat.sub_self]
        refine ⟨fun _ t ht => ?_, fun s hs => by simp at hs⟩
        have := ht.num
        rw [T.cnt_end] at this
        omega
      | succ d ih =>
        intro fr hd hf h0
        rw [T.find_step _ (by omega)]
        have q := T.ch_fnds (P := P) (many := many) l (fr + 1) (T.st s0 fr true) (by omega) (fun c hc => by rw [T.st_ne _ _ (by omega)]; exact h0 c (by omega))
        have sub : ∀ t, T.Ext many (l + 1) fr s0 t → t fr = true → T.Ext many l (fr + 1) (T.st s0 fr true) t := fun t ht h1 => ⟨fun c hc => by
          by_cases e : c = fr
          · subst e; rw [T.st_at]; exact h1
          · rw [T.st_ne _ _ e]; exact ht.low c (by omega), by
          have := ht.num
          rw [T.cnt_step (by omega), if_pos h1] at this
          omega, ht.high⟩
        cases hr : T.ch P many l (fr + 1) (T.st s0 fr true) with
        | some x =>
          rw [hr] at q
          refine ⟨fun h => by simp at h, fun s hs => ?_⟩
          have : x = s := by simpa using hs
          subst this
          obtain ⟨p1, p2, p3⟩ := q.2 x rfl
          have xf : x fr = true := by rw [p1.low fr (by omega), T.st_at]
          refine ⟨⟨fun c hc => by rw [p1.low c (by omega), T.st_ne _ _ (by omega)], by rw [T.cnt_step (by omega), if_pos xf, p1.num]; omega, p1.high⟩, p2, fun t ht hP => ?_⟩
          cases h1 : t fr with
          | true => exact p3 t (sub t ht h1) hP
          | false => exact .inr ⟨fr, fun c hc => by rw [p1.low c (by omega), T.st_ne _ _ (by omega), ht.low c hc], xf, h1⟩
        | none =>
          rw [hr] at q
          have i := ih (fr + 1) (by omega) (by omega) (fun c hc => h0 c (by omega))
          have down : ∀ t, T.Ext many (l + 1) fr s0 t → t fr = false → T.Ext many (l + 1) (fr + 1) s0 t := fun t ht h1 => ⟨fun c hc => by
            by_cases e : c = fr
            · subst e; rw [h1, h0 c (Nat.le_refl _)]
            · exact ht.low c (by omega), by
            have := ht.num
            rw [T.cnt_step (by omega), h1, if_neg (by decide)] at this
            omega, ht.high⟩
          refine ⟨fun h t ht => ?_, fun s hs => ?_⟩
          · cases h1 : t fr with
            | true => exact q.1 rfl t (sub t ht h1)
            | false => exact i.1 h t (down t ht h1)
          · obtain ⟨p1, p2, p3⟩ := i.2 s hs
            have sf : s fr = false := by rw [p1.low fr (by omega), h0 fr (Nat.le_refl _)]
            refine ⟨⟨fun c hc => p1.low c (by omega), by rw [T.cnt_step (by omega), sf, if_neg (by decide), p1.num]; omega, p1.high⟩, p2, fun t ht hP => ?_⟩
            cases h1 : t fr with
            | true =>
              have := q.1 rfl t (sub t ht h1)
              rw [hP] at this
              cases this
            | false => exact p3 t (down t ht h1) hP
    exact main _ fr rfl hf h0
/-- the fewest: the first one of as few as will do -/
theorem T.few_is {P : (Nat → Bool) → Bool} {many : Nat} : (T.few P many 0 = none → ∀ t, (∀ c, many ≤ c → t c = false) → P t = false) ∧
    ∀ s, T.few P many 0 = some s → (∀ c, many ≤ c → s c = false) ∧ P s = true ∧ ∀ t, (∀ c, many ≤ c → t c = false) → P t = true → T.cnt s 0 many ≤ T.cnt t 0 many ∧ (T.cnt t 0 many = T.cnt s 0 many → t = s ∨ T.Lex s t) := by
  have ext : ∀ t : Nat → Bool, (∀ c, many ≤ c → t c = false) → T.Ext many (T.cnt t 0 many) 0 (fun _ => false) t := fun t ht => ⟨fun c hc => by omega, rfl, ht⟩
  have cle : ∀ t : Nat → Bool, T.cnt t 0 many ≤ many := fun t => by
    unfold T.cnt
    have := List.length_filter_le t (List.range' 0 (many - 0))
    rw [List.length_range'] at this
    omega
  have q := fun l => T.ch_fnds (P := P) (many := many) l 0 (fun _ => false) (Nat.zero_le _) (fun _ _ => rfl)
  have main : ∀ d k, many + 1 - k = d → (∀ t : Nat → Bool, (∀ c, many ≤ c → t c = false) → P t = true → k ≤ T.cnt t 0 many) → (T.few P many k = none → ∀ t, (∀ c, many ≤ c → t c = false) → P t = false) ∧
      ∀ s, T.few P many k = some s → (∀ c, many ≤ c → s c = false) ∧ P s = true ∧ ∀ t, (∀ c, many ≤ c → t c = false) → P t = true → T.cnt s 0 many ≤ T.cnt t 0 many ∧ (T.cnt t 0 many = T.cnt s 0 many → t = s ∨ T.Lex s t) := by
    intro d
    induction d with
    | zero =>
      intro k hd hk
      unfold T.few
      rw [hd]
      refine ⟨fun _ t ht => ?_, fun s hs => by simp at hs⟩
      cases hP : P t with
      | false => rfl
      | true =>
        have a := hk t ht hP
        have b := cle t
        omega
    | succ d ih =>
      intro k hd hk
      unfold T.few
      rw [T.find_step _ (by omega)]
      cases hr : T.ch P many k 0 (fun _ => false) with
      | some x =>
        have qk := q k
        rw [hr] at qk
        obtain ⟨p1, p2, p3⟩ := qk.2 x rfl
        refine ⟨fun h => by simp at h, fun s hs => ?_⟩
        have : x = s := by simpa using hs
        subst this
        refine ⟨p1.high, p2, fun t ht hP => ?_⟩
        rw [p1.num]
        refine ⟨hk t ht hP, fun e => p3 t ?_ hP⟩
        rw [← e]
        exact ext t ht
      | none =>
        have qk := q k
        rw [hr] at qk
        exact ih (k + 1) (by omega) (fun t ht hP => by
          have a := hk t ht hP
          by_cases e : T.cnt t 0 many = k
          · have b := qk.1 rfl t (by rw [← e]; exact ext t ht)
            rw [hP] at b
            cases b
          · omega)
  exact main _ 0 rfl (fun _ _ _ => Nat.zero_le _)

end Go.Proofs.Ytlpkheoljbdajaa

/- Sets as lists: how many there are, which one comes before, and that they climb. -/
namespace Go.Proofs.Ytlpkheoljbdajaa

theorem T.lst_cnt (s : Nat → Bool) (n : Nat) : (T.lst s n).length = T.cnt s 0 n := by
  unfold T.lst T.cnt
  rw [List.length_map, Nat.sub_zero, List.range_eq_range']
theorem T.lst_more (s : Nat → Bool) (c : Nat) : ∀ n, c ≤ n → ∃ B, T.lst s n = T.lst s c ++ B ∧ ∀ x ∈ B, (c : Int) ≤ x
  | 0, h => by
    obtain rfl : c = 0 := by omega
    exact ⟨[], (List.append_nil _).symm, fun x hx => by cases hx⟩
  | n + 1, h => by
    by_cases e : c = n + 1
    · subst e
      exact ⟨[], by rw [List.append_nil], fun x hx => by cases hx⟩
    · obtain ⟨B, h1, h2⟩ := T.lst_more s c n (by omega)
      cases hs : s n with
      | false => exact ⟨B, by rw [T.lst_no hs, h1], h2⟩
      | true => exact ⟨B ++ [(n : Int)], by rw [T.lst_yes hs, h1, List.append_assoc], fun x hx => by
          rcases List.mem_append.1 hx with hx | hx
          · exact h2 x hx
          · rw [List.mem_singleton.1 hx]; omega⟩
theorem T.lst_same {s t : Nat → Bool} : ∀ {c : Nat}, (∀ d, d < c → s d = t d) → T.lst s c = T.lst t c
  | 0, _ => rfl
  | c + 1, h => by
    have ih := T.lst_same (s := s) (t := t) (c := c) (fun d hd => h d (by omega))
    have e := h c (by omega)
    cases hs : s c with
    | false => rw [T.lst_no hs, T.lst_no (by rw [← e]; exact hs), ih]
    | true => rw [T.lst_yes hs, T.lst_yes (by rw [← e]; exact hs), ih]
theorem T.first_app (A : List Int) : ∀ x y : List Int, D.first (A ++ x) (A ++ y) = A.length + D.first x y := by
  induction A with
  | nil => intro x y; simp
  | cons a A ih =>
    intro x y
    show (if a = a then D.first (A ++ x) (A ++ y) + 1 else 0) = _
    rw [if_pos rfl, ih, List.length_cons]
    omega
theorem T.first_self (A : List Int) : D.first A A = A.length := by
  have := T.first_app A [] []
  rw [List.append_nil] at this
  rw [this]
  rfl
theorem T.ahd_self (A : List Int) : T.ahd A A = false := by
  unfold T.ahd
  rw [T.first_self, if_neg (by omega)]
  exact decide_eq_false (by omega)
/-- of lists as long, one that comes later is not before -/
theorem T.lex_ahd {s t : Nat → Bool} {n : Nat} (h : T.Lex s t) (ht : ∀ c, n ≤ c → s c = false) (e : T.cnt t 0 n = T.cnt s 0 n) : T.ahd (T.lst t n) (T.lst s n) = false := by
  obtain ⟨c, h1, h2, h3⟩ := h
  have hc : c < n := by
    by_cases q : c < n
    · exact q
    · have := ht c (by omega)
      rw [h2] at this
      cases this
  obtain ⟨B, b1, b2⟩ := T.lst_more s (c + 1) n (by omega)
  obtain ⟨C, c1, c2⟩ := T.lst_more t (c + 1) n (by omega)
  rw [T.lst_yes h2, T.lst_same h1] at b1
  rw [T.lst_no h3] at c1
  have l1 := T.lst_cnt s n
  have l2 := T.lst_cnt t n
  rw [b1, List.length_append, List.length_append, List.length_singleton] at l1
  rw [c1, List.length_append] at l2
  generalize T.lst t c = A at *
  cases C with
  | nil => simp at l2; omega
  | cons x C =>
    have hx := c2 x List.mem_cons_self
    have hne : ¬ x = (c : Int) := by omega
    rw [b1, c1, List.append_assoc]
    have e1 : D.first (A ++ x :: C) (A ++ ([(c : Int)] ++ B)) = A.length := by
      rw [T.first_app]
      show A.length + (if x = (c : Int) then _ else 0) = _
      rw [if_neg hne]
      rfl
    unfold T.ahd
    rw [e1, if_pos (by constructor <;> simp)]
    rw [List.getD_eq_getElem?_getD, List.getD_eq_getElem?_getD, List.getElem?_append_right (Nat.le_refl _), List.getElem?_append_right (Nat.le_refl _), Nat.sub_self]
    show decide (x < (c : Int)) = false
    exact decide_eq_false (by omega)
theorem T.clm_app {m : Int} : ∀ {xs : List Int} {l : Int} {b : Nat}, T.clm m l xs = true → (∀ x ∈ xs, x < b) → l ≤ b → (b : Int) < m → T.clm m l (xs ++ [(b : Int)]) = true
  | [], l, b, _, _, h1, h2 => by
    show (inB (b : Int) l (m - 1) && true) = true
    rw [inB_yes h1 (by omega)]
    rfl
  | x :: xs, l, b, h, hx, h1, h2 => by
    have h' : (inB x l (m - 1) && T.clm m (x + 1) xs) = true := h
    rw [Bool.and_eq_true] at h'
    show (inB x l (m - 1) && T.clm m (x + 1) (xs ++ [(b : Int)])) = true
    rw [h'.1, Bool.true_and]
    exact T.clm_app h'.2 (fun y hy => hx y (List.mem_cons_of_mem _ hy)) (by have := hx x List.mem_cons_self; omega) h2
theorem T.lst_lt (s : Nat → Bool) : ∀ n, ∀ x ∈ T.lst s n, 0 ≤ x ∧ x < n
  | 0, x, hx => by cases hx
  | n + 1, x, hx => by
    cases hs : s n with
    | false => rw [T.lst_no hs] at hx; have := T.lst_lt s n x hx; omega
    | true =>
      rw [T.lst_yes hs] at hx
      rcases List.mem_append.1 hx with hx | hx
      · have := T.lst_lt s n x hx; omega
      · rw [List.mem_singleton.1 hx]; omega
theorem T.clm_lst (s : Nat → Bool) (m : Nat) : ∀ n, n ≤ m → T.clm m 0 (T.lst s n) = true
  | 0, _ => rfl
  | n + 1, h => by
    have ih := T.clm_lst s m n (by omega)
    cases hs : s n with
    | false => rw [T.lst_no hs]; exact ih
    | true => rw [T.lst_yes hs]; exact T.clm_app ih (fun x hx => (T.lst_lt s n x hx).2) (by omega) (by omega)
theorem T.mem_lst (s : Nat → Bool) (n : Nat) {k : Nat} : (k : Int) ∈ T.lst s n ↔ k < n ∧ s k = true := by
  unfold T.lst
  rw [List.mem_map]
  constructor
  · rintro ⟨a, ha, e⟩
    have : a = k := by omega
    subst this
    rw [List.mem_filter, List.mem_range] at ha
    exact ha
  · intro h
    exact ⟨k, by rw [List.mem_filter, List.mem_range]; exact h, rfl⟩

end Go.Proofs.Ytlpkheoljbdajaa
