import Derived.Test.YtcmdaiklkdeanaaTtu
/- What is learned from ties: the mathematics of newKnown. -/
namespace Go.Proofs.Ytcmdaiklkdeanaa

abbrev T.Kn := Int × Int → Int × Int → Option (Int × Int)
def T.one (t : T.T6) : Int × Int := (t.1, t.2.1)
def T.oth (t : T.T6) : Int × Int := (t.2.2.1, t.2.2.2.1)
def T.by (t : T.T6) : Int × Int := (t.2.2.2.2.1, t.2.2.2.2.2)
def T.trn (s : Int × Int) : Int × Int := (-s.2, -s.1)
def T.lrn1 (J : Option (Int × Int) → Int × Int → Int × Int) (K : T.Kn) (x y s : Int × Int) : T.Kn := T.put2 K x y (J (K x y) s)
def T.lrn (J : Option (Int × Int) → Int × Int → Int × Int) (K : T.Kn) (t : T.T6) : T.Kn := T.lrn1 J (T.lrn1 J K (T.one t) (T.oth t) (T.by t)) (T.oth t) (T.one t) (T.trn (T.by t))
def T.lrnAll (J : Option (Int × Int) → Int × Int → Int × Int) (K : T.Kn) (ts : List T.T6) : T.Kn := ts.foldl (T.lrn J) K
theorem T.lrnAll_snoc (J : Option (Int × Int) → Int × Int → Int × Int) (K : T.Kn) (ts : List T.T6) (t : T.T6) : T.lrnAll J K (ts ++ [t]) = T.lrn J (T.lrnAll J K ts) t := by
  unfold T.lrnAll
  rw [List.foldl_append]
  rfl
/-- no span goes farther than a number -/
def T.Bs (B : Int) (s : Int × Int) : Prop := (-B ≤ s.1 ∧ s.1 ≤ B) ∧ (-B ≤ s.2 ∧ s.2 ≤ B)
def T.Bd (B : Int) (K : T.Kn) : Prop := ∀ x y s, K x y = some s → T.Bs B s
theorem T.bd_none (B : Int) : T.Bd B fun _ _ => none := fun _ _ _ h => by cases h
theorem T.Bs.trn {B : Int} {s : Int × Int} (h : T.Bs B s) : T.Bs B (T.trn s) := ⟨⟨by have := h.2.2; show -B ≤ -s.2; omega, by have := h.2.1; show -s.2 ≤ B; omega⟩, ⟨by have := h.1.2; show -B ≤ -s.1; omega, by have := h.1.1; show -s.1 ≤ B; omega⟩⟩
theorem T.Bd.mono {B C : Int} {K : T.Kn} (h : T.Bd B K) (hc : B ≤ C) : T.Bd C K := fun x y s hs => by
  have := h x y s hs
  exact ⟨⟨by have := this.1.1; omega, by have := this.1.2; omega⟩, ⟨by have := this.2.1; omega, by have := this.2.2; omega⟩⟩
theorem T.put2_is {K : T.Kn} {x y s a b : Int × Int} : T.put2 K x y s a b = if a = x ∧ b = y then some s else K a b := by
  unfold T.put2
  by_cases h : a = x
  · rw [if_pos h]
    unfold T.upd
    by_cases h2 : b = y
    · rw [if_pos h2, if_pos ⟨h, h2⟩]
    · rw [if_neg h2, if_neg (fun q => h2 q.2), h]
  · rw [if_neg h, if_neg (fun q => h q.1)]
theorem T.Bd.put {B : Int} {K : T.Kn} (h : T.Bd B K) {x y s : Int × Int} (hs : T.Bs B s) : T.Bd B (T.put2 K x y s) := fun a b s' e => by
  rw [T.put2_is] at e
  split at e
  · rw [← Option.some.inj e]; exact hs
  · exact h a b s' e
theorem T.joinB_bs {B : Int} {o : Option (Int × Int)} {s : Int × Int} (ho : ∀ b, o = some b → T.Bs B b) (hs : T.Bs B s) : T.Bs B (T.joinB o s) := by
  cases o with
  | none => exact hs
  | some b =>
    have h := ho b rfl
    obtain ⟨⟨a1, a2⟩, a3, a4⟩ := h
    obtain ⟨⟨b1, b2⟩, b3, b4⟩ := hs
    exact ⟨⟨by show -B ≤ max b.1 s.1; omega, by show max b.1 s.1 ≤ B; omega⟩, ⟨by show -B ≤ min b.2 s.2; omega, by show min b.2 s.2 ≤ B; omega⟩⟩
theorem T.joinA_bs {B b : Int} {o : Option (Int × Int)} {s : Int × Int} (hB : 0 ≤ B) (ho : ∀ c, o = some c → T.Bs B c) (hs : T.Bs b s) : T.Bs (B + b) (T.joinA o s) := by
  obtain ⟨⟨b1, b2⟩, b3, b4⟩ := hs
  cases o with
  | none => exact ⟨⟨by show -(B + b) ≤ s.1; omega, by show s.1 ≤ B + b; omega⟩, ⟨by show -(B + b) ≤ s.2; omega, by show s.2 ≤ B + b; omega⟩⟩
  | some c =>
    obtain ⟨⟨a1, a2⟩, a3, a4⟩ := ho c rfl
    exact ⟨⟨by show -(B + b) ≤ c.1 + s.1; omega, by show c.1 + s.1 ≤ B + b; omega⟩, ⟨by show -(B + b) ≤ c.2 + s.2; omega, by show c.2 + s.2 ≤ B + b; omega⟩⟩
theorem T.lrn1_B {B : Int} {K : T.Kn} (h : T.Bd B K) {x y s : Int × Int} (hs : T.Bs B s) : T.Bd B (T.lrn1 T.joinB K x y s) := h.put (T.joinB_bs (fun b e => h x y b e) hs)
theorem T.lrn1_A {B b : Int} {K : T.Kn} (hB : 0 ≤ B) (hb : 0 ≤ b) (h : T.Bd B K) {x y s : Int × Int} (hs : T.Bs b s) : T.Bd (B + b) (T.lrn1 T.joinA K x y s) := (h.mono (by omega)).put (T.joinA_bs hB (fun c e => h x y c e) hs)
theorem T.lrn_B {B : Int} {K : T.Kn} (h : T.Bd B K) {t : T.T6} (hs : T.Bs B (T.by t)) : T.Bd B (T.lrn T.joinB K t) := T.lrn1_B (T.lrn1_B h hs) hs.trn
theorem T.lrn_A {B b : Int} {K : T.Kn} (hB : 0 ≤ B) (hb : 0 ≤ b) (h : T.Bd B K) {t : T.T6} (hs : T.Bs b (T.by t)) : T.Bd (B + 2 * b) (T.lrn T.joinA K t) := (T.lrn1_A (by omega) hb (T.lrn1_A hB hb h hs) hs.trn).mono (by omega)
theorem T.lrnAll_B {B : Int} {K : T.Kn} (h : T.Bd B K) : ∀ {ts : List T.T6}, (∀ t ∈ ts, T.Bs B (T.by t)) → T.Bd B (T.lrnAll T.joinB K ts) := fun {ts} hts => by
  induction ts generalizing K with
  | nil => exact h
  | cons t ts ih => exact ih (T.lrn_B h (hts t List.mem_cons_self)) fun u hu => hts u (List.mem_cons_of_mem _ hu)
theorem T.lrnAll_A {b : Int} (hb : 0 ≤ b) : ∀ {ts : List T.T6} {B : Int} {K : T.Kn}, 0 ≤ B → T.Bd B K → (∀ t ∈ ts, T.Bs b (T.by t)) → T.Bd (B + 2 * b * ts.length) (T.lrnAll T.joinA K ts) := fun {ts} => by
  induction ts with
  | nil => intro B K _ h _; exact h.mono (by simp)
  | cons t ts ih =>
    intro B K hB h hts
    have q := ih (B := B + 2 * b) (K := T.lrn T.joinA K t) (by omega) (T.lrn_A hB hb h (hts t List.mem_cons_self)) fun u hu => hts u (List.mem_cons_of_mem _ hu)
    have e : B + 2 * b + 2 * b * (ts.length : Int) = B + 2 * b * ((t :: ts).length : Int) := by
      rw [List.length_cons]
      push_cast
      rw [Int.mul_add]
      omega
    rw [← e]; exact q
/-- which moments there are -/
theorem T.mem_moms {n H : Nat} {c h : Int} : (c, h) ∈ T.moms n H ↔ (c = -1 ∧ h = 0) ∨ ((0 ≤ c ∧ c < n) ∧ (0 ≤ h ∧ h ≤ H)) := by
  unfold T.moms T.momsTo
  simp only [List.range_zero, List.map_nil, List.append_nil, List.mem_cons, Prod.mk.injEq, List.mem_flatMap, List.mem_range, List.mem_map]
  constructor
  · rintro (⟨rfl, rfl⟩ | ⟨a, ha, b, hb, rfl, rfl⟩)
    · exact .inl ⟨rfl, rfl⟩
    · exact .inr ⟨⟨by omega, by omega⟩, by omega, by omega⟩
  · rintro (⟨rfl, rfl⟩ | ⟨⟨h1, h2⟩, h3, h4⟩)
    · exact .inl ⟨rfl, rfl⟩
    · exact .inr ⟨c.toNat, by omega, h.toNat, by omega, by omega, by omega⟩
/-- ties of moments that there are, whose spans go not too far -/
def T.Fit (D : List (Int × Int)) (B : Int) (ts : List T.T6) : Prop := ∀ t ∈ ts, T.one t ∈ D ∧ T.oth t ∈ D ∧ T.Bs B (T.by t)
theorem T.fit_limits {n H : Nat} : T.Fit (T.moms n H) 100000 (T.limits n H) := by
  intro t ht
  unfold T.limits T.lims at ht
  obtain ⟨m, hm, rfl⟩ := List.mem_map.1 ht
  exact ⟨(List.mem_filter.1 hm).1, T.mem_moms.2 (.inl ⟨rfl, rfl⟩), ⟨⟨by show -100000 ≤ -100000; omega, by show (-100000 : Int) ≤ 100000; omega⟩, ⟨by show -100000 ≤ (100000 : Int); omega, by show (100000 : Int) ≤ 100000; omega⟩⟩⟩
theorem T.mem_nest {α : Type} {f : Nat → Nat → α} {M n : Nat} {x : α} (h : x ∈ T.nest f M n 0) : ∃ k h, k < n ∧ h < M ∧ x = f k h := by
  unfold T.nest at h
  simp only [List.range_zero, List.map_nil, List.append_nil, List.mem_flatMap, List.mem_range, List.mem_map] at h
  obtain ⟨k, hk, h, hh, e⟩ := h
  exact ⟨k, h, hk, hh, e.symm⟩
theorem T.fit_rates {rs : List (Int × Int)} {H : Nat} (hr : ∀ s ∈ rs, T.Bs 1000 s) : T.Fit (T.moms rs.length H) 1000 (T.rates rs H) := by
  intro t ht
  obtain ⟨k, h, hk, hh, rfl⟩ := T.mem_nest ht
  refine ⟨show ((k : Int), (h : Int) + 1) ∈ T.moms rs.length H from T.mem_moms.2 (.inr ⟨⟨by omega, by omega⟩, by omega, by omega⟩), show ((k : Int), (h : Int)) ∈ T.moms rs.length H from T.mem_moms.2 (.inr ⟨⟨by omega, by omega⟩, by omega, by omega⟩), ?_⟩
  refine hr (rs.getD k (0, 0)) ?_
  rw [List.getD_eq_getElem?_getD, List.getElem?_eq_getElem hk]
  exact List.getElem_mem hk
theorem T.fit_steps {os : List (Int × Int × Int × Int)} {n H : Nat} (ho : ∀ x ∈ os, (0 ≤ x.1 ∧ x.1 < n) ∧ (0 ≤ x.2.1 ∧ x.2.1 < H) ∧ T.Bs 100000 x.2.2) : T.Fit (T.moms n H) 100000 (T.steps os) := by
  intro t ht
  obtain ⟨x, hx, rfl⟩ := List.mem_map.1 ht
  obtain ⟨h1, h2, h3⟩ := ho x hx
  exact ⟨show (x.1, x.2.1 + 1) ∈ T.moms n H from T.mem_moms.2 (.inr ⟨h1, by omega, by omega⟩), show (x.1, x.2.1) ∈ T.moms n H from T.mem_moms.2 (.inr ⟨h1, by omega, by omega⟩), h3⟩
theorem T.mem_cmps {b0 b1 b2 b3 b4 : Bool} {ps : List (Int × Int × Int × Int × Int)} {k : Nat} {t : T.T6} : t ∈ T.cmps b0 b1 b2 b3 b4 ps k ↔ ∃ h x, h < k ∧ x ∈ ps ∧ T.isAt b0 b1 b2 b3 b4 h x = true ∧ t = T.cmp h x := by
  unfold T.cmps T.cmpsAt
  simp only [List.mem_flatMap, List.mem_range, List.mem_map, List.mem_filter]
  constructor
  · rintro ⟨h, hh, x, ⟨hx, hi⟩, e⟩; exact ⟨h, x, hh, hx, hi, e.symm⟩
  · rintro ⟨h, x, hh, hx, hi, e⟩; exact ⟨h, hh, x, ⟨hx, hi⟩, e.symm⟩
theorem T.fit_cmps {b0 b1 b2 b3 b4 : Bool} {ps : List (Int × Int × Int × Int × Int)} {n H : Nat} (hp : ∀ x ∈ ps, (0 ≤ x.2.1 ∧ x.2.1 < n) ∧ (-1 ≤ x.2.2.1 ∧ x.2.2.1 < n) ∧ T.Bs 200000 x.2.2.2) : T.Fit (T.moms n H) 200000 (T.cmps b0 b1 b2 b3 b4 ps (H + 1)) := by
  intro t ht
  obtain ⟨h, x, hh, hx, _, rfl⟩ := T.mem_cmps.1 ht
  obtain ⟨h1, h2, h3⟩ := hp x hx
  refine ⟨show (x.2.1, (h : Int)) ∈ T.moms n H from T.mem_moms.2 (.inr ⟨h1, by omega, by omega⟩), ?_, h3⟩
  show (x.2.2.1, T.hr x.2.2.1 h) ∈ T.moms n H
  unfold T.hr
  by_cases e : x.2.2.1 = -1
  · rw [if_pos e, e]; exact T.mem_moms.2 (.inl ⟨rfl, rfl⟩)
  · rw [if_neg e]; exact T.mem_moms.2 (.inr ⟨⟨by omega, h2.2⟩, by omega, by omega⟩)
theorem T.moms_len {n H : Nat} (hn : n ≤ 5) (hH : H ≤ 12) : (T.moms n H).length ≤ 70 := by
  unfold T.moms
  rw [T.momsTo_len]
  have := Nat.mul_le_mul hn (show H + 1 ≤ 13 by omega)
  omega
theorem T.limits_len {n H : Nat} (hn : n ≤ 5) (hH : H ≤ 12) : (T.limits n H).length ≤ 4000 := by
  unfold T.limits T.lims
  rw [List.length_map]
  have := List.length_filter_le (fun m : Int × Int => !(m.1 == -1)) (T.moms n H)
  have := T.moms_len hn hH
  omega
theorem T.rates_len {rs : List (Int × Int)} {H : Nat} (hn : rs.length ≤ 5) (hH : H ≤ 12) : (T.rates rs H).length ≤ 4000 := by
  unfold T.rates
  rw [T.nest_len]
  have := Nat.mul_le_mul hn hH
  omega
theorem T.cmps_len {b0 b1 b2 b3 b4 : Bool} {ps : List (Int × Int × Int × Int × Int)} : ∀ k : Nat, (T.cmps b0 b1 b2 b3 b4 ps k).length ≤ k * ps.length
  | 0 => by simp [T.cmps]
  | k + 1 => by
    rw [T.cmps_succ, List.length_append, Nat.succ_mul]
    have := T.cmps_len (b0 := b0) (b1 := b1) (b2 := b2) (b3 := b3) (b4 := b4) (ps := ps) k
    have h2 : (T.cmpsAt b0 b1 b2 b3 b4 ps k).length ≤ ps.length := by
      unfold T.cmpsAt
      rw [List.length_map]
      exact List.length_filter_le _ _
    omega

end Go.Proofs.Ytcmdaiklkdeanaa
