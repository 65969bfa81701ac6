import Derived.Test.YtlpkheoljbdajaaQue
/- The ties of a good book are well formed. -/
namespace Go.Proofs.Ytlpkheoljbdajaa
open Go.RowKit

/-- numbers that keep to what is known, to a side -/
def T.AB (ah : Bool) (K : T.Kn) (y : Int → Int) : Prop := ∀ x s, K x = some s → y x.1 ≤ y x.2 + T.rch ah (x, s)
theorem T.ab_lrn1 {ah : Bool} {K : T.Kn} {x s : Int × Int} {y : Int → Int} : T.AB ah (T.lrn1 K x s) y ↔ T.AB ah K y ∧ y x.1 ≤ y x.2 + T.rch ah (x, s) := by
  have hx : T.lrn1 K x s x = some (T.joinB (K x) s) := by unfold T.lrn1 T.upd; rw [if_pos rfl]
  have ho : ∀ z, z ≠ x → T.lrn1 K x s z = K z := fun z hz => by unfold T.lrn1 T.upd; rw [if_neg hz]
  have hj : ∀ b, T.rch ah (x, T.joinB (some b) s) = min (T.rch ah (x, b)) (T.rch ah (x, s)) := fun b => by
    unfold T.rch
    cases ah
    · show -(max b.1 s.1) = min (-b.1) (-s.1); omega
    · rfl
  constructor
  · intro h
    have q := h x _ hx
    cases hk : K x with
    | none =>
      rw [hk] at q
      refine ⟨fun z r hz => ?_, q⟩
      refine h z r ?_
      rw [ho z (fun e => by rw [e, hk] at hz; cases hz), hz]
    | some b =>
      rw [hk, hj] at q
      refine ⟨fun z r hz => ?_, by omega⟩
      by_cases e : z = x
      · subst e
        rw [hk] at hz
        injection hz with hz
        subst hz
        omega
      · exact h z r (by rw [ho z e, hz])
  · rintro ⟨h, q⟩ z r hz
    by_cases e : z = x
    · subst e
      rw [hx] at hz
      injection hz with hz
      subst hz
      cases hk : K z with
      | none => exact q
      | some b =>
        rw [hj]
        have := h z b hk
        omega
    · rw [ho z e] at hz
      exact h z r hz
/-- numbers that keep to a tie -/
def T.Hol (y : Int → Int) (t : T.T4) : Prop := t.2.1 ≤ y t.1.1 - y t.1.2 ∧ y t.1.1 - y t.1.2 ≤ t.2.2
theorem T.ab_up {K : T.Kn} {y : Int → Int} : ∀ {ts : List T.T4}, T.AB true (T.lrnAll K ts) y ↔ T.AB true K y ∧ ∀ t ∈ ts, T.Hol y t := by
  intro ts
  induction ts generalizing K with
  | nil => exact ⟨fun h => ⟨h, fun t ht => by cases ht⟩, fun h => h.1⟩
  | cons t ts ih =>
    show T.AB true (T.lrnAll (T.lrn K t.1 t.2) ts) y ↔ _
    rw [ih]
    unfold T.lrn
    rw [T.ab_lrn1, T.ab_lrn1]
    have e1 : T.rch true (t.1, t.2) = t.2.2 := rfl
    have e2 : T.rch true (T.swp t.1, T.trn t.2) = -t.2.1 := rfl
    have e3 : (T.swp t.1).1 = t.1.2 := rfl
    have e4 : (T.swp t.1).2 = t.1.1 := rfl
    rw [e1, e2, e3, e4]
    constructor
    · rintro ⟨⟨⟨a, b⟩, c⟩, d⟩
      exact ⟨a, fun u hu => (List.mem_cons.1 hu).elim (fun e => by subst e; exact ⟨by omega, by omega⟩) (d u)⟩
    · rintro ⟨a, d⟩
      have := d t List.mem_cons_self
      unfold T.Hol at this
      exact ⟨⟨⟨a, by omega⟩, by omega⟩, fun u hu => d u (List.mem_cons_of_mem _ hu)⟩
theorem T.ab_dn {K : T.Kn} {y : Int → Int} : ∀ {ts : List T.T4}, T.AB false (T.lrnAll K ts) (fun i => -y i) ↔ T.AB false K (fun i => -y i) ∧ ∀ t ∈ ts, T.Hol y t := by
  intro ts
  induction ts generalizing K with
  | nil => exact ⟨fun h => ⟨h, fun t ht => by cases ht⟩, fun h => h.1⟩
  | cons t ts ih =>
    show T.AB false (T.lrnAll (T.lrn K t.1 t.2) ts) _ ↔ _
    rw [ih]
    unfold T.lrn
    rw [T.ab_lrn1, T.ab_lrn1]
    have e1 : T.rch false (t.1, t.2) = -t.2.1 := rfl
    have e2 : T.rch false (T.swp t.1, T.trn t.2) = -(-t.2.2) := rfl
    have e3 : (T.swp t.1).1 = t.1.2 := rfl
    have e4 : (T.swp t.1).2 = t.1.1 := rfl
    rw [e1, e2, e3, e4]
    constructor
    · rintro ⟨⟨⟨a, b⟩, c⟩, d⟩
      exact ⟨a, fun u hu => (List.mem_cons.1 hu).elim (fun e => by subst e; exact ⟨by omega, by omega⟩) (d u)⟩
    · rintro ⟨a, d⟩
      have := d t List.mem_cons_self
      unfold T.Hol at this
      exact ⟨⟨⟨a, by omega⟩, by omega⟩, fun u hu => d u (List.mem_cons_of_mem _ hu)⟩
/-- what is known comes from a tie -/
theorem T.dom_of : ∀ {ts : List T.T4} {K : T.Kn} {x s : Int × Int}, T.lrnAll K ts x = some s → (∃ r, K x = some r) ∨ ∃ t ∈ ts, x = t.1 ∨ x = T.swp t.1 := by
  intro ts
  induction ts with
  | nil => intro K x s h; exact .inl ⟨s, h⟩
  | cons t ts ih =>
    intro K x s h
    rcases ih (K := T.lrn K t.1 t.2) h with ⟨r, hr⟩ | ⟨u, hu, e⟩
    · unfold T.lrn T.lrn1 T.upd at hr
      by_cases c1 : x = T.swp t.1
      · exact .inr ⟨t, List.mem_cons_self, .inr c1⟩
      · rw [if_neg c1] at hr
        by_cases c2 : x = t.1
        · exact .inr ⟨t, List.mem_cons_self, .inl c2⟩
        · rw [if_neg c2] at hr
          exact .inl ⟨r, hr⟩
    · exact .inr ⟨u, List.mem_cons_of_mem _ hu, e⟩
theorem T.lrn_some {K : T.Kn} {x z s r : Int × Int} (h : K z = some r) : ∃ r', T.lrn K x s z = some r' := by
  unfold T.lrn T.lrn1 T.upd
  split
  · exact ⟨_, rfl⟩
  · split
    · exact ⟨_, rfl⟩
    · exact ⟨r, h⟩
theorem T.dom_up : ∀ {ts : List T.T4} {K : T.Kn} {z r : Int × Int}, K z = some r → ∃ r', T.lrnAll K ts z = some r' := by
  intro ts
  induction ts with
  | nil => intro K z r h; exact ⟨r, h⟩
  | cons t ts ih =>
    intro K z r h
    obtain ⟨r1, h1⟩ := T.lrn_some (x := t.1) (s := t.2) h
    exact ih (K := T.lrn K t.1 t.2) h1
theorem T.dom_in : ∀ {ts : List T.T4} {K : T.Kn} {t : T.T4}, t ∈ ts → (∃ r, T.lrnAll K ts t.1 = some r) ∧ ∃ r, T.lrnAll K ts (T.swp t.1) = some r := by
  intro ts
  induction ts with
  | nil => intro K t h; cases h
  | cons u ts ih =>
    intro K t h
    rcases List.mem_cons.1 h with rfl | h
    · refine ⟨?_, ?_⟩
      · refine T.dom_up (K := T.lrn K t.1 t.2) (z := t.1) (r := ((T.lrn K t.1 t.2 t.1).getD (0, 0))) ?_
        unfold T.lrn T.lrn1 T.upd
        split
        · rfl
        · rw [if_pos rfl]; rfl
      · refine T.dom_up (K := T.lrn K t.1 t.2) (z := T.swp t.1) (r := ((T.lrn K t.1 t.2 (T.swp t.1)).getD (0, 0))) ?_
        unfold T.lrn T.lrn1 T.upd
        rw [if_pos rfl]; rfl
    · exact ih (K := T.lrn K u.1 u.2) h
theorem T.mem_web {K : T.Kn} {t : T.T4} : t ∈ T.webT K 17 ↔ ((0 ≤ t.1.1 ∧ t.1.1 ≤ 16) ∧ (0 ≤ t.1.2 ∧ t.1.2 ≤ 16)) ∧ K t.1 = some t.2 := by
  unfold T.webT T.rowT
  simp only [List.mem_flatMap, List.mem_range]
  obtain ⟨⟨a, b⟩, s⟩ := t
  constructor
  · rintro ⟨i, hi, j, hj, h⟩
    cases hk : K ((i : Int), (j : Int)) with
    | none => rw [hk] at h; cases h
    | some r =>
      rw [hk] at h
      rcases List.mem_cons.1 h with h | h
      · injection h with h1 h2
        injection h1 with h3 h4
        subst h2 h3 h4
        exact ⟨⟨⟨by simp only; omega, by simp only; omega⟩, by simp only; omega, by simp only; omega⟩, hk⟩
      · cases h
  · rintro ⟨⟨⟨a1, a2⟩, b1, b2⟩, hk⟩
    simp only at a1 a2 b1 b2 hk
    obtain ⟨a, rfl⟩ := Int.eq_ofNat_of_zero_le a1
    obtain ⟨b, rfl⟩ := Int.eq_ofNat_of_zero_le b1
    exact ⟨a, by omega, b, by omega, by rw [hk]; exact List.mem_cons_self⟩
theorem T.Rn.trans {ts : List T.T4} {a b : Int} {n : Nat} (h : T.Rn ts a n b) : ∀ {m : Nat} {c : Int}, T.Rn ts b m c → T.Rn ts a (n + m) c
  | 0, _, .here => h
  | _ + 1, _, .step ht k => .step ht (h.trans k)
/-- the things of a book -/
def T.Alive (N np nq : Nat) (i : Int) : Prop := i = 0 ∨ (1 ≤ i ∧ i ≤ N) ∨ (9 ≤ i ∧ i < 9 + np) ∨ (13 ≤ i ∧ i < 13 + nq)
section
variable {N : Nat} {bl bh rl rh : Int} {ps qs : List (Int × Int)} {ls : List T.T5} {o : Nat → Bool}
theorem T.sat_web {ah : Bool} {ts : List T.T4} (hf : ∀ t ∈ ts, T.Ft t) {y : Int → Int} : T.Sat ah (T.webT (T.lrnAll (fun _ => none) ts) 17) y ↔ T.AB ah (T.lrnAll (fun _ => none) ts) y := by
  constructor
  · intro h x s hx
    refine h (x, s) (T.mem_web.2 ⟨?_, hx⟩)
    rcases T.dom_of hx with ⟨r, hr⟩ | ⟨t, ht, rfl | rfl⟩
    · cases hr
    · exact ⟨(hf t ht).1, (hf t ht).2.1⟩
    · exact ⟨(hf t ht).2.1, (hf t ht).1⟩
  · intro h t ht
    exact h t.1 t.2 (T.mem_web.1 ht).2
theorem T.Bok.ties (b : T.Bok N bl bh rl rh ps qs ls) : ∀ t ∈ T.ties N bl bh rl rh ps qs ls o, T.Ft t := fun t ht => (List.mem_append.1 ht).elim (b.stg 3 t) (b.saidTo t)
/-- numbers that keep to the ties of a web are those that keep to what the book tells -/
theorem T.sat_is (b : T.Bok N bl bh rl rh ps qs ls) {y : Int → Int} : T.Sat true (T.web N bl bh rl rh ps qs ls o) y ↔ ∀ t ∈ T.ties N bl bh rl rh ps qs ls o, T.Hol y t := by
  unfold T.web
  rw [T.sat_web b.ties, T.ab_up]
  exact ⟨fun h => h.2, fun h => ⟨fun _ _ e => (by cases e), h⟩⟩
theorem T.sat_is' (b : T.Bok N bl bh rl rh ps qs ls) {y : Int → Int} : T.Sat false (T.web N bl bh rl rh ps qs ls o) (fun i => -y i) ↔ ∀ t ∈ T.ties N bl bh rl rh ps qs ls o, T.Hol y t := by
  unfold T.web
  rw [T.sat_web b.ties, T.ab_dn]
  exact ⟨fun h => h.2, fun h => ⟨fun _ _ e => (by cases e), h⟩⟩
theorem T.edge (b : T.Bok N bl bh rl rh ps qs ls) {t : T.T4} (ht : t ∈ T.ties N bl bh rl rh ps qs ls o) {m : Int} {n : Nat} :
    (T.Rn (T.web N bl bh rl rh ps qs ls o) m n t.1.2 → T.Rn (T.web N bl bh rl rh ps qs ls o) m (n + 1) t.1.1) ∧ (T.Rn (T.web N bl bh rl rh ps qs ls o) m n t.1.1 → T.Rn (T.web N bl bh rl rh ps qs ls o) m (n + 1) t.1.2) := by
  have f := b.ties (o := o) t ht
  obtain ⟨⟨r1, h1⟩, r2, h2⟩ := T.dom_in (K := fun _ => none) ht
  exact ⟨fun h => T.Rn.step (t := (t.1, r1)) (T.mem_web.2 ⟨⟨f.1, f.2.1⟩, h1⟩) h, fun h => T.Rn.step (t := (T.swp t.1, r2)) (T.mem_web.2 ⟨⟨f.2.1, f.1⟩, h2⟩) h⟩
theorem T.in_offs {t : T.T4} (h : t ∈ T.offs N bl bh rl rh) : t ∈ T.ties N bl bh rl rh ps qs ls o := List.mem_append.2 (.inl (List.mem_append.2 (.inr h)))
theorem T.in_errs {t : T.T4} (h : t ∈ T.errs ps) : t ∈ T.ties N bl bh rl rh ps qs ls o := List.mem_append.2 (.inl (List.mem_append.2 (.inl (List.mem_append.2 (.inl h)))))
theorem T.in_dels {t : T.T4} (h : t ∈ T.dels qs) : t ∈ T.ties N bl bh rl rh ps qs ls o := List.mem_append.2 (.inl (List.mem_append.2 (.inl (List.mem_append.2 (.inr h)))))
theorem T.rng_mem {α : Type} {f : Nat → α} {n k : Nat} (h : k < n) : f k ∈ T.rng f n := List.mem_map.2 ⟨k, List.mem_range.2 h, rfl⟩
/-- from nothing to a thing, and back -/
theorem T.con_night (b : T.Bok N bl bh rl rh ps qs ls) : ∀ k : Nat, k < N → T.Rn (T.web N bl bh rl rh ps qs ls o) 0 (k + 1) (1 + k) ∧ T.Rn (T.web N bl bh rl rh ps qs ls o) (1 + k) (k + 1) 0
  | 0, _ => by
    have e := T.in_offs (o := o) (ps := ps) (qs := qs) (ls := ls) (N := N) (bl := bl) (bh := bh) (rl := rl) (rh := rh) List.mem_cons_self
    exact ⟨(T.edge b e).1 .here, (T.edge b e).2 .here⟩
  | k + 1, hk => by
    obtain ⟨h1, h2⟩ := T.con_night b k (by omega)
    have e := T.in_offs (o := o) (ps := ps) (qs := qs) (ls := ls) (N := N) (bl := bl) (bh := bh) (rl := rl) (rh := rh) (List.mem_cons_of_mem _ (T.rng_mem (f := T.nig rl rh) (show k < N - 1 by omega)))
    have c : ((k + 1 : Nat) : Int) = (k : Int) + 1 := by push_cast; rfl
    rw [c]
    refine ⟨(T.edge b e).1 h1, ?_⟩
    have q : T.Rn (T.web N bl bh rl rh ps qs ls o) (1 + ((k : Int) + 1)) (0 + 1) (1 + (k : Int)) := (T.edge b e).2 .here
    have z := q.trans h2
    rw [show 0 + 1 + (k + 1) = k + 1 + 1 by omega] at z
    exact z
theorem T.con0 (b : T.Bok N bl bh rl rh ps qs ls) {i : Int} (h : T.Alive N ps.length qs.length i) : ∃ n, n ≤ 8 ∧ T.Rn (T.web N bl bh rl rh ps qs ls o) 0 n i ∧ T.Rn (T.web N bl bh rl rh ps qs ls o) i n 0 := by
  have n8 := b.n8
  rcases h with rfl | ⟨h1, h2⟩ | ⟨h1, h2⟩ | ⟨h1, h2⟩
  · exact ⟨0, by omega, .here, .here⟩
  · obtain ⟨k, hk⟩ : ∃ k : Nat, i = 1 + k := ⟨(i - 1).toNat, by omega⟩
    subst hk
    obtain ⟨a, c⟩ := T.con_night (o := o) b k (by omega)
    exact ⟨k + 1, by omega, a, c⟩
  · obtain ⟨k, hk⟩ : ∃ k : Nat, i = 9 + k := ⟨(i - 9).toNat, by omega⟩
    subst hk
    have e := T.in_errs (o := o) (qs := qs) (ls := ls) (N := N) (bl := bl) (bh := bh) (rl := rl) (rh := rh) (T.rng_mem (f := T.err ps) (show k < ps.length by omega))
    exact ⟨1, by omega, (T.edge b e).1 .here, (T.edge b e).2 .here⟩
  · obtain ⟨k, hk⟩ : ∃ k : Nat, i = 13 + k := ⟨(i - 13).toNat, by omega⟩
    subst hk
    have e := T.in_dels (o := o) (ps := ps) (ls := ls) (N := N) (bl := bl) (bh := bh) (rl := rl) (rh := rh) (T.rng_mem (f := T.del qs) (show k < qs.length by omega))
    exact ⟨1, by omega, (T.edge b e).1 .here, (T.edge b e).2 .here⟩
theorem T.ties_alive (b : T.Bok N bl bh rl rh ps qs ls) (hv : ∀ x ∈ ls, x.2.2.1 < T.many ps.length qs.length N x.2.1) : ∀ t ∈ T.ties N bl bh rl rh ps qs ls o, T.Alive N ps.length qs.length t.1.1 ∧ T.Alive N ps.length qs.length t.1.2 := fun t ht => by
  have n1 := b.n1
  have z : T.Alive N ps.length qs.length 0 := .inl rfl
  rcases List.mem_append.1 ht with ht | ht
  · rcases List.mem_append.1 ht with ht | ht
    · rcases List.mem_append.1 ht with ht | ht
      · obtain ⟨k, hk, rfl⟩ := T.mem_rng ht
        exact ⟨.inr (.inr (.inl ⟨by show (9 : Int) ≤ 9 + k; omega, by show (9 : Int) + k < _; omega⟩)), z⟩
      · obtain ⟨k, hk, rfl⟩ := T.mem_rng ht
        exact ⟨.inr (.inr (.inr ⟨by show (13 : Int) ≤ 13 + k; omega, by show (13 : Int) + k < _; omega⟩)), z⟩
    · rcases List.mem_cons.1 ht with rfl | ht
      · exact ⟨.inr (.inl ⟨by show (1 : Int) ≤ 1; omega, by show (1 : Int) ≤ N; omega⟩), z⟩
      · obtain ⟨k, hk, rfl⟩ := T.mem_rng ht
        exact ⟨.inr (.inl ⟨by show (1 : Int) ≤ 1 + ((k : Int) + 1); omega, by show 1 + ((k : Int) + 1) ≤ N; omega⟩), .inr (.inl ⟨by show (1 : Int) ≤ 1 + k; omega, by show 1 + (k : Int) ≤ N; omega⟩)⟩
  · obtain ⟨n, _, hn⟩ := List.mem_flatMap.1 ht
    obtain ⟨x, hx, rfl⟩ := List.mem_map.1 hn
    have hl := (T.lof_mem hx).1
    obtain ⟨h1, h2, h3, _⟩ := b.look _ hl
    have hv := hv x hl
    obtain ⟨n, k, v, r, e⟩ := x
    simp only at h1 h2 h3 hv
    refine ⟨.inr (.inl ⟨by show 1 ≤ 1 + n; omega, by show 1 + n ≤ N; omega⟩), ?_⟩
    rcases h2 with rfl | rfl
    · have hv' : v < (ps.length : Int) := hv
      exact .inr (.inr (.inl ⟨by show 9 ≤ 9 + v; omega, by show 9 + v < _; omega⟩))
    · have hv' : v < (qs.length : Int) := hv
      exact .inr (.inr (.inr ⟨by show 13 ≤ 13 + v; omega, by show 13 + v < _; omega⟩))
/-- the web of a good book is one -/
theorem T.web_ok (b : T.Bok N bl bh rl rh ps qs ls) (hv : ∀ x ∈ ls, x.2.2.1 < T.many ps.length qs.length N x.2.1) (o : Nat → Bool) : T.Wok (T.web N bl bh rl rh ps qs ls o) (T.Alive N ps.length qs.length) where
  tin := fun t ht => by
    obtain ⟨⟨h1, h2⟩, h3⟩ := T.mem_web.1 ht
    have q := T.lrnAll_B (T.bd_none 200000) b.ties t.1 t.2 h3
    obtain ⟨⟨a1, a2⟩, a3, a4⟩ := q
    exact ⟨h1, h2, ⟨⟨by omega, by omega⟩, by omega, by omega⟩⟩
  len := by have := T.webT_len (T.lrnAll (fun _ => none) (T.ties N bl bh rl rh ps qs ls o)) 17; unfold T.web; omega
  neg := fun y => (T.sat_is b).trans (T.sat_is' b).symm
  ain := fun i hi => by
    have := b.n8; have := b.p4; have := b.q4
    unfold T.Alive at hi
    omega
  con := fun m i hm hi => by
    obtain ⟨a, ha, _, h1⟩ := T.con0 (o := o) b hm
    obtain ⟨c, hc, h2, _⟩ := T.con0 (o := o) b hi
    exact ⟨a + c, by omega, h1.trans h2⟩
  ali := fun t ht => by
    obtain ⟨_, h3⟩ := T.mem_web.1 ht
    rcases T.dom_of h3 with ⟨r, hr⟩ | ⟨u, hu, e⟩
    · cases hr
    · obtain ⟨a1, a2⟩ := T.ties_alive b hv u hu
      rcases e with e | e <;> rw [e]
      · exact ⟨a1, a2⟩
      · exact ⟨a2, a1⟩
end

end Go.Proofs.Ytlpkheoljbdajaa
