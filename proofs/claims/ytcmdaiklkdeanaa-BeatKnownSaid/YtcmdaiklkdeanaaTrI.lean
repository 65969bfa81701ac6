import Derived.Test.YtcmdaiklkdeanaaQue
import Derived.Test.YtcmdaiklkdeanaaApt
import Derived.Test.YtcmdaiklkdeanaaNof
/- The ties of a good cellar are well formed. -/
namespace Go.Proofs.Ytcmdaiklkdeanaa

theorem T.trn_trn (s : Int × Int) : T.trn (T.trn s) = s := by
  unfold T.trn
  rw [Int.neg_neg, Int.neg_neg]
/-- what is known of two moments is known the other way round -/
def T.Sym (K : T.Kn) : Prop := ∀ x y, K y x = (K x y).map T.trn
theorem T.joinB_trn (o : Option (Int × Int)) (s : Int × Int) : T.joinB (o.map T.trn) (T.trn s) = T.trn (T.joinB o s) := by
  cases o with
  | none => rfl
  | some b =>
    show (max (-b.2) (-s.2), min (-b.1) (-s.1)) = (-(min b.2 s.2), -(max b.1 s.1))
    refine Prod.ext ?_ ?_
    · show max (-b.2) (-s.2) = -(min b.2 s.2); omega
    · show min (-b.1) (-s.1) = -(max b.1 s.1); omega
theorem T.joinA_trn (o : Option (Int × Int)) (s : Int × Int) : T.joinA (o.map T.trn) (T.trn s) = T.trn (T.joinA o s) := by
  cases o with
  | none => rfl
  | some b =>
    show (-b.2 + -s.2, -b.1 + -s.1) = (-(b.2 + s.2), -(b.1 + s.1))
    refine Prod.ext ?_ ?_
    · show -b.2 + -s.2 = -(b.2 + s.2); omega
    · show -b.1 + -s.1 = -(b.1 + s.1); omega
/-- what is known when a tie has been learned -/
theorem T.lrn_is {J : Option (Int × Int) → Int × Int → Int × Int} {K : T.Kn} {t : T.T6} (hne : T.one t ≠ T.oth t) (a b : Int × Int) :
    T.lrn J K t a b = if a = T.oth t ∧ b = T.one t then some (J (K (T.oth t) (T.one t)) (T.trn (T.by t))) else if a = T.one t ∧ b = T.oth t then some (J (K (T.one t) (T.oth t)) (T.by t)) else K a b := by
  unfold T.lrn T.lrn1
  rw [T.put2_is, T.put2_is, T.put2_is]
  rw [if_neg (fun h : T.oth t = T.one t ∧ T.one t = T.oth t => hne h.2)]
theorem T.Sym.lrn {J : Option (Int × Int) → Int × Int → Int × Int} (hJ : ∀ o s, J (o.map T.trn) (T.trn s) = T.trn (J o s)) {K : T.Kn} (h : T.Sym K) {t : T.T6} (hne : T.one t ≠ T.oth t) : T.Sym (T.lrn J K t) := by
  intro x y
  rw [T.lrn_is hne, T.lrn_is hne]
  by_cases c1 : x = T.one t ∧ y = T.oth t
  · obtain ⟨rfl, rfl⟩ := c1
    rw [if_pos ⟨rfl, rfl⟩, if_neg (fun q : T.one t = T.oth t ∧ T.oth t = T.one t => hne q.1), if_pos ⟨rfl, rfl⟩, h (T.one t) (T.oth t), hJ]
    rfl
  · by_cases c2 : x = T.oth t ∧ y = T.one t
    · obtain ⟨rfl, rfl⟩ := c2
      rw [if_neg (fun q : T.one t = T.oth t ∧ T.oth t = T.one t => hne q.1), if_pos ⟨rfl, rfl⟩, if_pos ⟨rfl, rfl⟩]
      rw [h (T.one t) (T.oth t), hJ, Option.map_some, T.trn_trn]
    · rw [if_neg (fun q => c1 ⟨q.2, q.1⟩), if_neg (fun q => c2 ⟨q.2, q.1⟩), if_neg c2, if_neg c1]
      exact h x y
theorem T.Sym.lrnAll {J : Option (Int × Int) → Int × Int → Int × Int} (hJ : ∀ o s, J (o.map T.trn) (T.trn s) = T.trn (J o s)) : ∀ {ts : List T.T6} {K : T.Kn}, T.Sym K → (∀ t ∈ ts, T.one t ≠ T.oth t) → T.Sym (T.lrnAll J K ts)
  | [], _, h, _ => h
  | t :: ts, K, h, hne => by
    show T.Sym (T.lrnAll J (T.lrn J K t) ts)
    exact T.Sym.lrnAll hJ (h.lrn hJ (hne t List.mem_cons_self)) fun u hu => hne u (List.mem_cons_of_mem _ hu)
theorem T.sym_none : T.Sym fun _ _ => none := fun _ _ => rfl

/-- what is known lies within what was known -/
def T.Nrw (K K' : T.Kn) : Prop := ∀ a b s, K a b = some s → ∃ s', K' a b = some s' ∧ s.1 ≤ s'.1 ∧ s'.2 ≤ s.2
theorem T.Nrw.refl (K : T.Kn) : T.Nrw K K := fun _ _ s h => ⟨s, h, Int.le_refl _, Int.le_refl _⟩
theorem T.Nrw.trans {K K' K'' : T.Kn} (h : T.Nrw K K') (k : T.Nrw K' K'') : T.Nrw K K'' := fun a b s hs => by
  obtain ⟨s', h1, h2, h3⟩ := h a b s hs
  obtain ⟨s'', k1, k2, k3⟩ := k a b s' h1
  exact ⟨s'', k1, by omega, by omega⟩
theorem T.nrw_lrn {K : T.Kn} {t : T.T6} (hne : T.one t ≠ T.oth t) : T.Nrw K (T.lrn T.joinB K t) := fun a b s hs => by
  rw [T.lrn_is hne]
  by_cases c2 : a = T.oth t ∧ b = T.one t
  · obtain ⟨rfl, rfl⟩ := c2
    rw [if_pos ⟨rfl, rfl⟩, hs]
    refine ⟨_, rfl, ?_, ?_⟩
    · show s.1 ≤ max s.1 _; omega
    · show min s.2 _ ≤ s.2; omega
  · rw [if_neg c2]
    by_cases c1 : a = T.one t ∧ b = T.oth t
    · obtain ⟨rfl, rfl⟩ := c1
      rw [if_pos ⟨rfl, rfl⟩, hs]
      refine ⟨_, rfl, ?_, ?_⟩
      · show s.1 ≤ max s.1 _; omega
      · show min s.2 _ ≤ s.2; omega
    · rw [if_neg c1]
      exact ⟨s, hs, Int.le_refl _, Int.le_refl _⟩
theorem T.nrw_all : ∀ {ts : List T.T6} {K : T.Kn}, (∀ t ∈ ts, T.one t ≠ T.oth t) → T.Nrw K (T.lrnAll T.joinB K ts)
  | [], K, _ => T.Nrw.refl K
  | t :: ts, K, hne => by
    show T.Nrw K (T.lrnAll T.joinB (T.lrn T.joinB K t) ts)
    exact (T.nrw_lrn (hne t List.mem_cons_self)).trans (T.nrw_all fun u hu => hne u (List.mem_cons_of_mem _ hu))
/-- a tie that has been learned is known -/
theorem T.learned : ∀ {ts : List T.T6} {K : T.Kn}, (∀ t ∈ ts, T.one t ≠ T.oth t) → ∀ t ∈ ts, ∃ s, T.lrnAll T.joinB K ts (T.one t) (T.oth t) = some s ∧ (T.by t).1 ≤ s.1 ∧ s.2 ≤ (T.by t).2
  | [], _, _, t, ht => by cases ht
  | u :: ts, K, hne, t, ht => by
    show ∃ s, T.lrnAll T.joinB (T.lrn T.joinB K u) ts (T.one t) (T.oth t) = some s ∧ _
    rcases List.mem_cons.1 ht with rfl | ht
    · have h0 := hne t List.mem_cons_self
      have e : T.lrn T.joinB K t (T.one t) (T.oth t) = some (T.joinB (K (T.one t) (T.oth t)) (T.by t)) := by
        rw [T.lrn_is h0, if_neg (fun q : T.one t = T.oth t ∧ T.oth t = T.one t => h0 q.1), if_pos ⟨rfl, rfl⟩]
      obtain ⟨s', h1, h2, h3⟩ := T.nrw_all (K := T.lrn T.joinB K t) (fun u hu => hne u (List.mem_cons_of_mem _ hu)) _ _ _ e
      have hb : (T.by t).1 ≤ (T.joinB (K (T.one t) (T.oth t)) (T.by t)).1 ∧ (T.joinB (K (T.one t) (T.oth t)) (T.by t)).2 ≤ (T.by t).2 := by
        cases K (T.one t) (T.oth t) with
        | none => exact ⟨Int.le_refl _, Int.le_refl _⟩
        | some b => exact ⟨by show _ ≤ max b.1 (T.by t).1; omega, by show min b.2 (T.by t).2 ≤ _; omega⟩
      exact ⟨s', h1, by omega, by omega⟩
    · exact T.learned (fun u hu => hne u (List.mem_cons_of_mem _ hu)) t ht
/-- ties between others say nothing of a pair -/
theorem T.apart_lrn {J : Option (Int × Int) → Int × Int → Int × Int} {a b : Int × Int} : ∀ {ts : List T.T6} {K : T.Kn}, (∀ t ∈ ts, T.one t ≠ T.oth t ∧ T.one t ≠ b ∧ T.oth t ≠ b) → T.lrnAll J K ts a b = K a b
  | [], _, _ => rfl
  | t :: ts, K, h => by
    show T.lrnAll J (T.lrn J K t) ts a b = K a b
    obtain ⟨h1, h2, h3⟩ := h t List.mem_cons_self
    rw [T.apart_lrn fun u hu => h u (List.mem_cons_of_mem _ hu), T.lrn_is h1, if_neg (fun q => h2 q.2.symm), if_neg (fun q => h3 q.2.symm)]

theorem T.mem_ties {K : T.Kn} {D L : List (Int × Int)} {t : T.T6} : t ∈ T.tiesT K D L ↔ ∃ x ∈ L, ∃ y ∈ D, ∃ s, K x y = some s ∧ t = (x.1, x.2, y.1, y.2, s.1, s.2) := by
  unfold T.tiesT T.rowT
  simp only [List.mem_flatMap, List.mem_filterMap, Option.map_eq_some_iff]
  constructor
  · rintro ⟨x, hx, y, hy, s, hs, e⟩; exact ⟨x, hx, y, hy, s, hs, e.symm⟩
  · rintro ⟨x, hx, y, hy, s, hs, e⟩; exact ⟨x, hx, y, hy, s, hs, e.symm⟩
theorem T.sat_ties {f : Int × Int → Int} {K : T.Kn} {D : List (Int × Int)} {y : Int × Int → Int} : T.Sat f (T.tiesT K D D) y ↔ ∀ a ∈ D, ∀ b ∈ D, ∀ s, K a b = some s → y a ≤ y b + f s := by
  constructor
  · intro h a ha b hb s hs
    exact h _ (T.mem_ties.2 ⟨a, ha, b, hb, s, hs, rfl⟩)
  · intro h t ht
    obtain ⟨a, ha, b, hb, s, hs, rfl⟩ := T.mem_ties.1 ht
    exact h a ha b hb s hs

section
variable {H : Nat} {rs : List (Int × Int)} {os : List (Int × Int × Int × Int)} {ps : List (Int × Int × Int × Int × Int)} {b0 b1 b2 b3 b4 : Bool}
theorem T.two_limits {n : Nat} : ∀ t ∈ T.limits n H, T.one t ≠ T.oth t := by
  intro t ht
  unfold T.limits T.lims at ht
  obtain ⟨m, hm, rfl⟩ := List.mem_map.1 ht
  have h := (List.mem_filter.1 hm).2
  intro e
  have e1 : m.1 = -1 := congrArg Prod.fst e
  rw [e1] at h
  cases h
theorem T.two_rates : ∀ t ∈ T.rates rs H, T.one t ≠ T.oth t := by
  intro t ht
  obtain ⟨k, h, _, _, rfl⟩ := T.mem_nest ht
  intro e
  have e1 : (h : Int) + 1 = h := congrArg Prod.snd e
  omega
theorem T.two_steps (G : T.Good H rs os ps) : ∀ t ∈ T.steps os, T.one t ≠ T.oth t ∧ T.one t ≠ (-1, 0) ∧ T.oth t ≠ (-1, 0) := by
  intro t ht
  obtain ⟨x, hx, rfl⟩ := List.mem_map.1 ht
  have h := (G.osB x hx).1.1
  refine ⟨fun e => ?_, fun e => ?_, fun e => ?_⟩
  · have e1 : x.2.1 + 1 = x.2.1 := congrArg Prod.snd e
    omega
  · have e1 : x.1 = -1 := congrArg Prod.fst e
    omega
  · have e1 : x.1 = -1 := congrArg Prod.fst e
    omega
theorem T.two_cmps (G : T.Good H rs os ps) : ∀ t ∈ T.cmps b0 b1 b2 b3 b4 ps (H + 1), T.one t ≠ T.oth t := by
  intro t ht
  obtain ⟨h, x, _, hx, _, rfl⟩ := T.mem_cmps.1 ht
  intro e
  exact (G.psB x hx).2.2.2.1 (congrArg Prod.fst e)
/-- a clock is off by no more than the limits -/
theorem T.far0 (G : T.Good H rs os ps) : ∀ m ∈ T.moms rs.length H, m ≠ (-1, 0) → ∃ s, T.stage rs.length H rs os ps b0 b1 b2 b3 b4 4 m (-1, 0) = some s ∧ -100000 ≤ s.1 ∧ s.2 ≤ 100000 := by
  intro m hm hne
  have hc : m.1 ≠ -1 := by
    intro e
    obtain ⟨c, h⟩ := m
    rcases T.mem_moms.1 hm with ⟨rfl, rfl⟩ | ⟨h1, _⟩
    · exact hne rfl
    · simp only at e; omega
  have hl : T.limit m ∈ T.limits rs.length H := by
    unfold T.limits T.lims
    exact List.mem_map.2 ⟨m, List.mem_filter.2 ⟨hm, by simp [hc]⟩, rfl⟩
  obtain ⟨s1, h1, l1, u1⟩ := T.learned (K := fun _ _ => none) T.two_limits (T.limit m) hl
  obtain ⟨s2, h2, l2, u2⟩ := T.nrw_all (T.two_rates (rs := rs) (H := H)) _ _ _ h1
  have h3 := T.apart_lrn (J := T.joinA) (a := m) (b := (-1, 0)) (K := T.lrnAll T.joinB (T.lrnAll T.joinB (fun _ _ => none) (T.limits rs.length H)) (T.rates rs H)) (T.two_steps G)
  obtain ⟨s4, h4, l4, u4⟩ := T.nrw_all (T.two_cmps (b0 := b0) (b1 := b1) (b2 := b2) (b3 := b3) (b4 := b4) G) _ _ _ (h3.trans h2)
  refine ⟨s4, h4, ?_, ?_⟩
  · have : (T.by (T.limit m)).1 = -100000 := rfl
    omega
  · have : (T.by (T.limit m)).2 = 100000 := rfl
    omega
theorem T.web_ok (G : T.Good H rs os ps) : T.WebOk rs.length H (T.web rs.length H rs os ps b0 b1 b2 b3 b4) := by
  have B1 : T.Bd 100000 (T.lrnAll T.joinB (fun _ _ => none) (T.limits rs.length H)) := T.lrnAll_B (T.bd_none _) fun t ht => (T.fit_limits t ht).2.2
  have up : ∀ {b B : Int} {s : Int × Int}, T.Bs b s → b ≤ B → T.Bs B s := fun h hb => ⟨⟨by have := h.1.1; omega, by have := h.1.2; omega⟩, ⟨by have := h.2.1; omega, by have := h.2.2; omega⟩⟩
  have B2 : T.Bd 100000 (T.lrnAll T.joinB (T.lrnAll T.joinB (fun _ _ => none) (T.limits rs.length H)) (T.rates rs H)) := T.lrnAll_B B1 fun t ht => up (T.fit_rates (fun s hs => (G.rsB s hs).1) t ht).2.2 (by omega)
  have ho := T.fit_steps (H := H) (n := rs.length) (os := os) fun x hx => ⟨(G.osB x hx).1, (G.osB x hx).2.1, (G.osB x hx).2.2.1⟩
  have B3 := T.lrnAll_A (b := 100000) (by omega) (by omega) B2 fun t ht => (ho t ht).2.2
  have hp := T.fit_cmps (b0 := b0) (b1 := b1) (b2 := b2) (b3 := b3) (b4 := b4) (H := H) (n := rs.length) (ps := ps) fun x hx => ⟨(G.psB x hx).2.1, (G.psB x hx).2.2.1, (G.psB x hx).2.2.2.2.1⟩
  have o6 := G.o6
  have sl : (T.steps os).length = os.length := by unfold T.steps; rw [List.length_map]
  have B4 := T.lrnAll_B (B := 1300000) (B3.mono (by rw [sl]; omega)) fun t ht => up (hp t ht).2.2 (by omega)
  have S4 := T.Sym.lrnAll T.joinB_trn (T.Sym.lrnAll T.joinA_trn (T.Sym.lrnAll T.joinB_trn (T.Sym.lrnAll T.joinB_trn T.sym_none (T.two_limits (n := rs.length) (H := H))) (T.two_rates (rs := rs) (H := H))) fun t ht => (T.two_steps G t ht).1) (T.two_cmps (b0 := b0) (b1 := b1) (b2 := b2) (b3 := b3) (b4 := b4) G)
  obtain ⟨K, hK⟩ : ∃ K, T.stage rs.length H rs os ps b0 b1 b2 b3 b4 4 = K := ⟨_, rfl⟩
  have far0 : ∀ m ∈ T.moms rs.length H, m ≠ (-1, 0) → ∃ s, K m (-1, 0) = some s ∧ -100000 ≤ s.1 ∧ s.2 ≤ 100000 := by
    rw [← hK]; exact T.far0 G
  have hS : T.Sym K := by rw [← hK]; exact S4
  have hB : T.Bd 1300000 K := by rw [← hK]; exact B4
  have hw : T.web rs.length H rs os ps b0 b1 b2 b3 b4 = T.tiesT K (T.moms rs.length H) (T.moms rs.length H) := by unfold T.web; rw [hK]
  have hm0 : ((-1 : Int), (0 : Int)) ∈ T.moms rs.length H := T.mem_moms.2 (.inl ⟨rfl, rfl⟩)
  refine ⟨?_, T.web_len G.r2 G.h2 rs os ps b0 b1 b2 b3 b4, ?_, ?_, ?_⟩
  · intro t ht
    rw [hw] at ht
    obtain ⟨a, ha, b, hb, s, hs, rfl⟩ := T.mem_ties.1 ht
    exact ⟨T.moms_in G.r2 G.h2 ha, T.moms_in G.r2 G.h2 hb, up (hB a b s hs) (by omega)⟩
  · intro t ht
    rw [hw] at ht
    obtain ⟨a, ha, b, hb, s, hs, rfl⟩ := T.mem_ties.1 ht
    exact ⟨ha, hb⟩
  · intro y
    rw [hw, T.sat_ties, T.sat_ties]
    constructor
    · intro h a ha b hb s hs
      have q := h b hb a ha (T.trn s) (by rw [hS a b, hs]; rfl)
      have e : T.sHi (T.trn s) = -s.1 := rfl
      have e' : T.sLo s = -s.1 := rfl
      rw [e] at q
      rw [e']
      omega
    · intro h a ha b hb s hs
      have q := h b hb a ha (T.trn s) (by rw [hS a b, hs]; rfl)
      have e : T.sLo (T.trn s) = -(-s.2) := rfl
      have e' : T.sHi s = s.2 := rfl
      rw [e] at q
      rw [e']
      omega
  · intro y h m hm k hk
    rw [hw, T.sat_ties] at h
    have a : y m ≤ y (-1, 0) + 100000 := by
      by_cases e : m = (-1, 0)
      · rw [e]; omega
      · obtain ⟨s, h1, h2, h3⟩ := far0 m hm e
        have q := h m hm _ hm0 s h1
        have e' : T.sHi s = s.2 := rfl
        rw [e'] at q
        omega
    have b : y (-1, 0) ≤ y k + 100000 := by
      by_cases e : k = (-1, 0)
      · rw [e]; omega
      · obtain ⟨s, h1, h2, h3⟩ := far0 k hk e
        have q := h _ hm0 k hk (T.trn s) (by rw [hS k (-1, 0), h1]; rfl)
        have e' : T.sHi (T.trn s) = -s.1 := rfl
        rw [e'] at q
        omega
    omega
end
end Go.Proofs.Ytcmdaiklkdeanaa

/- What the ties of a cellar say: the chapter's truth. -/
namespace Go.Proofs.Ytcmdaiklkdeanaa

/-- numbers keep to a span, to a tie, to what is known -/
def T.In (s : Int × Int) (n : Int) : Prop := s.1 ≤ n ∧ n ≤ s.2
def T.Kp (t : T.T6) (y : Int × Int → Int) : Prop := T.In (T.by t) (y (T.one t) - y (T.oth t))
def T.KS (K : T.Kn) (y : Int × Int → Int) : Prop := ∀ a b s, K a b = some s → T.In s (y a - y b)
theorem T.in_trn {s : Int × Int} {a b : Int} : T.In (T.trn s) (b - a) ↔ T.In s (a - b) := by
  unfold T.In T.trn
  simp only
  constructor <;> (intro h; constructor <;> omega)
theorem T.in_joinB {o : Option (Int × Int)} {s : Int × Int} {n : Int} : T.In (T.joinB o s) n ↔ (∀ b, o = some b → T.In b n) ∧ T.In s n := by
  cases o with
  | none => exact ⟨fun h => ⟨fun b e => (by cases e), h⟩, fun h => h.2⟩
  | some b =>
    unfold T.In T.joinB
    simp only
    constructor
    · intro h
      exact ⟨fun c e => by have := Option.some.inj e; subst this; constructor <;> omega, by omega, by omega⟩
    · intro h
      have := h.1 b rfl
      constructor <;> omega
theorem T.ks_lrn {K : T.Kn} {t : T.T6} (hne : T.one t ≠ T.oth t) {y : Int × Int → Int} : T.KS (T.lrn T.joinB K t) y ↔ T.KS K y ∧ T.Kp t y := by
  constructor
  · intro h
    have ht : T.Kp t y := by
      have e : T.lrn T.joinB K t (T.one t) (T.oth t) = some (T.joinB (K (T.one t) (T.oth t)) (T.by t)) := by
        rw [T.lrn_is hne, if_neg (fun q : T.one t = T.oth t ∧ T.oth t = T.one t => hne q.1), if_pos ⟨rfl, rfl⟩]
      exact (T.in_joinB.1 (h _ _ _ e)).2
    refine ⟨fun a b s hs => ?_, ht⟩
    obtain ⟨s', h1, h2, h3⟩ := T.nrw_lrn (K := K) hne a b s hs
    have := h a b s' h1
    unfold T.In at this ⊢
    omega
  · rintro ⟨h, ht⟩ a b s hs
    rw [T.lrn_is hne] at hs
    by_cases c2 : a = T.oth t ∧ b = T.one t
    · obtain ⟨rfl, rfl⟩ := c2
      rw [if_pos ⟨rfl, rfl⟩] at hs
      rw [← Option.some.inj hs]
      exact T.in_joinB.2 ⟨fun c e => h _ _ c e, T.in_trn.2 ht⟩
    · rw [if_neg c2] at hs
      by_cases c1 : a = T.one t ∧ b = T.oth t
      · obtain ⟨rfl, rfl⟩ := c1
        rw [if_pos ⟨rfl, rfl⟩] at hs
        rw [← Option.some.inj hs]
        exact T.in_joinB.2 ⟨fun c e => h _ _ c e, ht⟩
      · rw [if_neg c1] at hs
        exact h a b s hs
theorem T.ks_all : ∀ {ts : List T.T6} {K : T.Kn} {y : Int × Int → Int}, (∀ t ∈ ts, T.one t ≠ T.oth t) → (T.KS (T.lrnAll T.joinB K ts) y ↔ T.KS K y ∧ ∀ t ∈ ts, T.Kp t y)
  | [], K, y, _ => ⟨fun h => ⟨h, fun t ht => by cases ht⟩, fun h => h.1⟩
  | t :: ts, K, y, hne => by
    show T.KS (T.lrnAll T.joinB (T.lrn T.joinB K t) ts) y ↔ _
    rw [T.ks_all fun u hu => hne u (List.mem_cons_of_mem _ hu), T.ks_lrn (hne t List.mem_cons_self), List.forall_mem_cons]
    exact ⟨fun h => ⟨h.1.1, h.1.2, h.2⟩, fun h => ⟨⟨h.1, h.2.1⟩, h.2.2⟩⟩
theorem T.ks_none {y : Int × Int → Int} : T.KS (fun _ _ => none) y := fun _ _ _ h => by cases h

/-- what steps add to a pair -/
def T.adds (a b : Int × Int) (ts : List T.T6) (s : Int × Int) : Int × Int :=
  ts.foldl (fun s t => if a = T.oth t ∧ b = T.one t then (s.1 + (T.trn (T.by t)).1, s.2 + (T.trn (T.by t)).2) else if a = T.one t ∧ b = T.oth t then (s.1 + (T.by t).1, s.2 + (T.by t).2) else s) s
theorem T.lrnA_is {a b : Int × Int} : ∀ {ts : List T.T6} {K : T.Kn}, (∀ t ∈ ts, T.one t ≠ T.oth t) → (∀ t ∈ ts, (K (T.one t) (T.oth t)).isSome = true ∧ (K (T.oth t) (T.one t)).isSome = true) → T.lrnAll T.joinA K ts a b = (K a b).map (T.adds a b ts)
  | [], K, _, _ => by
    show K a b = _
    cases K a b <;> rfl
  | t :: ts, K, hne, hs => by
    have h0 := hne t List.mem_cons_self
    obtain ⟨s1, s2⟩ := hs t List.mem_cons_self
    obtain ⟨x1, e1⟩ := Option.isSome_iff_exists.1 s1
    obtain ⟨x2, e2⟩ := Option.isSome_iff_exists.1 s2
    show T.lrnAll T.joinA (T.lrn T.joinA K t) ts a b = _
    rw [T.lrnA_is (fun u hu => hne u (List.mem_cons_of_mem _ hu)) (fun u hu => ?_)]
    · rw [T.lrn_is h0]
      by_cases c2 : a = T.oth t ∧ b = T.one t
      · obtain ⟨rfl, rfl⟩ := c2
        rw [if_pos ⟨rfl, rfl⟩, e2]
        show some (T.adds _ _ ts _) = some (T.adds _ _ (t :: ts) _)
        unfold T.adds
        rw [List.foldl_cons, if_pos ⟨rfl, rfl⟩]
        rfl
      · rw [if_neg c2]
        by_cases c1 : a = T.one t ∧ b = T.oth t
        · obtain ⟨rfl, rfl⟩ := c1
          rw [if_pos ⟨rfl, rfl⟩, e1]
          show some (T.adds _ _ ts _) = some (T.adds _ _ (t :: ts) _)
          unfold T.adds
          rw [List.foldl_cons, if_neg c2, if_pos ⟨rfl, rfl⟩]
          rfl
        · rw [if_neg c1]
          cases K a b with
          | none => rfl
          | some s =>
            show some (T.adds a b ts s) = some (T.adds a b (t :: ts) s)
            unfold T.adds
            rw [List.foldl_cons, if_neg c2, if_neg c1]
    · have q := hs u (List.mem_cons_of_mem _ hu)
      rw [T.lrn_is h0, T.lrn_is h0]
      constructor
      · split
        · rfl
        · split
          · rfl
          · exact q.1
      · split
        · rfl
        · split
          · rfl
          · exact q.2
/-- a pair of which nothing was known, told the same each time -/
theorem T.lrnB_same {a b s : Int × Int} : ∀ {ts : List T.T6} {K : T.Kn}, (∀ t ∈ ts, T.one t ≠ T.oth t ∧ ¬(a = T.oth t ∧ b = T.one t) ∧ (a = T.one t ∧ b = T.oth t → T.by t = s)) → (K a b = some s ∨ (K a b = none ∧ ∃ t ∈ ts, a = T.one t ∧ b = T.oth t)) → T.lrnAll T.joinB K ts a b = some s
  | [], K, _, h => by
    rcases h with h | ⟨_, t, ht, _⟩
    · exact h
    · cases ht
  | t :: ts, K, hne, h => by
    obtain ⟨n1, n2, n3⟩ := hne t List.mem_cons_self
    show T.lrnAll T.joinB (T.lrn T.joinB K t) ts a b = some s
    refine T.lrnB_same (fun u hu => hne u (List.mem_cons_of_mem _ hu)) ?_
    rw [T.lrn_is n1, if_neg n2]
    by_cases c : a = T.one t ∧ b = T.oth t
    · have e := n3 c
      obtain ⟨rfl, rfl⟩ := c
      rw [if_pos ⟨rfl, rfl⟩, e]
      left
      rcases h with h | ⟨h, _⟩
      · rw [h]
        unfold T.joinB
        simp only [Int.max_self, Int.min_self]
      · rw [h]
        rfl
    · rw [if_neg c]
      rcases h with h | ⟨h, u, hu, hc⟩
      · exact .inl h
      · rcases List.mem_cons.1 hu with rfl | hu
        · exact absurd hc c
        · exact .inr ⟨h, u, hu, hc⟩
/-- by how much a clock grows from an hour to the next one -/
def T.grw (rs : List (Int × Int)) (os : List (Int × Int × Int × Int)) (k h : Int) : Int × Int :=
  os.foldl (fun s x => if x.1 = k ∧ x.2.1 = h then (s.1 + x.2.2.1, s.2 + x.2.2.2) else s) (rs.getD k.toNat (0, 0))
/-- the chapter's truth, over moments -/
structure T.Tru (H : Nat) (rs : List (Int × Int)) (os : List (Int × Int × Int × Int)) (ps : List (Int × Int × Int × Int × Int)) (b0 b1 b2 b3 b4 : Bool) (y : Int × Int → Int) : Prop where
  lim : ∀ k h : Int, 0 ≤ k → k < rs.length → 0 ≤ h → h ≤ H → T.In (-100000, 100000) (y (k, h) - y (-1, 0))
  grow : ∀ k h : Int, 0 ≤ k → k < rs.length → 0 ≤ h → h < H → T.In (T.grw rs os k h) (y (k, h + 1) - y (k, h))
  cmp : ∀ x ∈ ps, T.has b0 b1 b2 b3 b4 x.2.1 = false → T.has b0 b1 b2 b3 b4 x.2.2.1 = false → T.In x.2.2.2 (y (x.2.1, x.1) - y (x.2.2.1, if x.2.2.1 = -1 then 0 else x.1))
/-- ties of other pairs say nothing of a pair -/
theorem T.apart2 {J : Option (Int × Int) → Int × Int → Int × Int} {a b : Int × Int} : ∀ {ts : List T.T6} {K : T.Kn}, (∀ t ∈ ts, T.one t ≠ T.oth t ∧ ¬(a = T.oth t ∧ b = T.one t) ∧ ¬(a = T.one t ∧ b = T.oth t)) → T.lrnAll J K ts a b = K a b
  | [], _, _ => rfl
  | t :: ts, K, h => by
    show T.lrnAll J (T.lrn J K t) ts a b = K a b
    obtain ⟨h1, h2, h3⟩ := h t List.mem_cons_self
    rw [T.apart2 fun u hu => h u (List.mem_cons_of_mem _ hu), T.lrn_is h1, if_neg h2, if_neg h3]
/-- what is known was known, or is of a tie -/
theorem T.dom {J : Option (Int × Int) → Int × Int → Int × Int} {a b s : Int × Int} {ts : List T.T6} {K : T.Kn} (hne : ∀ t ∈ ts, T.one t ≠ T.oth t) (h : T.lrnAll J K ts a b = some s) : (∃ s', K a b = some s') ∨ ∃ t ∈ ts, (a = T.one t ∧ b = T.oth t) ∨ (a = T.oth t ∧ b = T.one t) := by
  by_cases c : ∃ t ∈ ts, (a = T.one t ∧ b = T.oth t) ∨ (a = T.oth t ∧ b = T.one t)
  · exact .inr c
  · left
    rw [T.apart2 fun t ht => ⟨hne t ht, fun q => c ⟨t, ht, .inr q⟩, fun q => c ⟨t, ht, .inl q⟩⟩] at h
    exact ⟨s, h⟩
theorem T.rate_mem {rs : List (Int × Int)} {H k h : Nat} (hk : k < rs.length) (hh : h < H) : T.rate rs k h ∈ T.rates rs H := by
  unfold T.rates T.nest
  simp only [List.range_zero, List.map_nil, List.append_nil, List.mem_flatMap, List.mem_range, List.mem_map]
  exact ⟨k, hk, h, hh, rfl⟩
theorem T.adds_rate (os : List (Int × Int × Int × Int)) (k h : Int) (s : Int × Int) : T.adds (k, h + 1) (k, h) (T.steps os) s = os.foldl (fun s x => if x.1 = k ∧ x.2.1 = h then (s.1 + x.2.2.1, s.2 + x.2.2.2) else s) s := by
  unfold T.adds T.steps
  rw [List.foldl_map]
  congr 1
  funext s x
  have e1 : T.one (T.step x) = (x.1, x.2.1 + 1) := rfl
  have e2 : T.oth (T.step x) = (x.1, x.2.1) := rfl
  rw [e1, e2]
  rw [if_neg (fun q : (k, h + 1) = (x.1, x.2.1) ∧ (k, h) = (x.1, x.2.1 + 1) => by
    have a := congrArg Prod.snd q.1
    have b := congrArg Prod.snd q.2
    simp only at a b
    omega)]
  by_cases c : x.1 = k ∧ x.2.1 = h
  · rw [if_pos c, if_pos ⟨by rw [c.1, c.2], by rw [c.1, c.2]⟩]
    rfl
  · rw [if_neg c, if_neg (fun q : (k, h + 1) = (x.1, x.2.1 + 1) ∧ (k, h) = (x.1, x.2.1) => c ⟨(congrArg Prod.fst q.2).symm, (congrArg Prod.snd q.2).symm⟩)]
section
variable {H : Nat} {rs : List (Int × Int)} {os : List (Int × Int × Int × Int)} {ps : List (Int × Int × Int × Int × Int)} {b0 b1 b2 b3 b4 : Bool}
/-- what is known of a clock at two hours that follow one another -/
theorem T.known_rate {k h : Nat} (hk : k < rs.length) (hh : h < H) : T.lrnAll T.joinB (T.lrnAll T.joinB (fun _ _ => none) (T.limits rs.length H)) (T.rates rs H) ((k : Int), (h : Int) + 1) ((k : Int), (h : Int)) = some (rs.getD k (0, 0)) := by
  refine T.lrnB_same (fun t ht => ⟨T.two_rates t ht, ?_, ?_⟩) (.inr ⟨?_, T.rate rs k h, T.rate_mem hk hh, rfl, rfl⟩)
  · obtain ⟨k', h', _, _, rfl⟩ := T.mem_nest ht
    intro q
    have a : (h : Int) + 1 = h' := congrArg Prod.snd q.1
    have b : (h : Int) = h' + 1 := congrArg Prod.snd q.2
    omega
  · obtain ⟨k', h', _, _, rfl⟩ := T.mem_nest ht
    intro q
    have a : (k : Int) = k' := congrArg Prod.fst q.1
    have a' : k = k' := by omega
    subst a'
    rfl
  · refine T.apart2 fun t ht => ⟨T.two_limits t ht, ?_, ?_⟩
    · unfold T.limits T.lims at ht
      obtain ⟨m, hm, rfl⟩ := List.mem_map.1 ht
      intro q
      have a : (k : Int) = -1 := congrArg Prod.fst q.1
      omega
    · unfold T.limits T.lims at ht
      obtain ⟨m, hm, rfl⟩ := List.mem_map.1 ht
      intro q
      have a : (k : Int) = -1 := congrArg Prod.fst q.2
      omega
theorem T.sat_tru (G : T.Good H rs os ps) {y : Int × Int → Int} : T.Sat T.sHi (T.web rs.length H rs os ps b0 b1 b2 b3 b4) y ↔ T.Tru H rs os ps b0 b1 b2 b3 b4 y := by
  obtain ⟨K1, e1⟩ : ∃ K, T.lrnAll T.joinB (fun _ _ => none) (T.limits rs.length H) = K := ⟨_, rfl⟩
  obtain ⟨K2, e2⟩ : ∃ K, T.lrnAll T.joinB K1 (T.rates rs H) = K := ⟨_, rfl⟩
  obtain ⟨K3, e3⟩ : ∃ K, T.lrnAll T.joinA K2 (T.steps os) = K := ⟨_, rfl⟩
  obtain ⟨K4, e4⟩ : ∃ K, T.lrnAll T.joinB K3 (T.cmps b0 b1 b2 b3 b4 ps (H + 1)) = K := ⟨_, rfl⟩
  have hw : T.web rs.length H rs os ps b0 b1 b2 b3 b4 = T.tiesT K4 (T.moms rs.length H) (T.moms rs.length H) := by
    rw [← e4, ← e3, ← e2, ← e1]; rfl
  have n1 := T.two_limits (n := rs.length) (H := H)
  have n2 := T.two_rates (rs := rs) (H := H)
  have n3 := fun t ht => (T.two_steps G t ht).1
  have n4 := T.two_cmps (b0 := b0) (b1 := b1) (b2 := b2) (b3 := b3) (b4 := b4) G
  have S1 : T.Sym K1 := by rw [← e1]; exact T.Sym.lrnAll T.joinB_trn T.sym_none n1
  have S2 : T.Sym K2 := by rw [← e2]; exact S1.lrnAll T.joinB_trn n2
  have S3 : T.Sym K3 := by rw [← e3]; exact S2.lrnAll T.joinA_trn n3
  have S4 : T.Sym K4 := by rw [← e4]; exact S3.lrnAll T.joinB_trn n4
  have r2 : ∀ k h : Nat, k < rs.length → h < H → K2 ((k : Int), (h : Int) + 1) ((k : Int), (h : Int)) = some (rs.getD k (0, 0)) := fun k h hk hh => by
    rw [← e2, ← e1]; exact T.known_rate hk hh
  have st : ∀ t ∈ T.steps os, ∃ k h : Nat, k < rs.length ∧ h < H ∧ T.one t = ((k : Int), (h : Int) + 1) ∧ T.oth t = ((k : Int), (h : Int)) := by
    intro t ht
    obtain ⟨x, hx, rfl⟩ := List.mem_map.1 ht
    have q := G.osB x hx
    refine ⟨x.1.toNat, x.2.1.toNat, by omega, by omega, ?_, ?_⟩
    · show (x.1, x.2.1 + 1) = _
      rw [Int.toNat_of_nonneg q.1.1, Int.toNat_of_nonneg q.2.1.1]
    · show (x.1, x.2.1) = _
      rw [Int.toNat_of_nonneg q.1.1, Int.toNat_of_nonneg q.2.1.1]
  have r3 : ∀ k h : Nat, k < rs.length → h < H → K3 ((k : Int), (h : Int) + 1) ((k : Int), (h : Int)) = some (T.grw rs os k h) := fun k h hk hh => by
    rw [← e3, T.lrnA_is n3 fun t ht => ?_, r2 k h hk hh, Option.map_some, T.adds_rate]
    · rfl
    · obtain ⟨k', h', hk', hh', a, b⟩ := st t ht
      rw [S2 (T.one t) (T.oth t), a, b, r2 k' h' hk' hh']
      exact ⟨rfl, rfl⟩
  have D1 := T.fit_limits (n := rs.length) (H := H)
  have D2 := T.fit_rates (H := H) fun s hs => (G.rsB s hs).1
  have D3 := T.fit_steps (H := H) (n := rs.length) (os := os) fun x hx => ⟨(G.osB x hx).1, (G.osB x hx).2.1, (G.osB x hx).2.2.1⟩
  have D4 := T.fit_cmps (b0 := b0) (b1 := b1) (b2 := b2) (b3 := b3) (b4 := b4) (H := H) (n := rs.length) (ps := ps) fun x hx => ⟨(G.psB x hx).2.1, (G.psB x hx).2.2.1, (G.psB x hx).2.2.2.2.1⟩
  have hD : ∀ a b s, K4 a b = some s → a ∈ T.moms rs.length H ∧ b ∈ T.moms rs.length H := by
    have f : ∀ {B : Int} {ts : List T.T6} {a b : Int × Int}, T.Fit (T.moms rs.length H) B ts → (∃ t ∈ ts, (a = T.one t ∧ b = T.oth t) ∨ (a = T.oth t ∧ b = T.one t)) → a ∈ T.moms rs.length H ∧ b ∈ T.moms rs.length H := by
      rintro B ts a b F ⟨t, ht, ⟨rfl, rfl⟩ | ⟨rfl, rfl⟩⟩
      · exact ⟨(F t ht).1, (F t ht).2.1⟩
      · exact ⟨(F t ht).2.1, (F t ht).1⟩
    intro a b s h
    rw [← e4] at h
    rcases T.dom n4 h with ⟨s, h⟩ | h
    · rw [← e3] at h
      rcases T.dom n3 h with ⟨s, h⟩ | h
      · rw [← e2] at h
        rcases T.dom n2 h with ⟨s, h⟩ | h
        · rw [← e1] at h
          rcases T.dom n1 h with ⟨s, h⟩ | h
          · cases h
          · exact f D1 h
        · exact f D2 h
      · exact f D3 h
    · exact f D4 h
  have sat_ks : T.Sat T.sHi (T.web rs.length H rs os ps b0 b1 b2 b3 b4) y ↔ T.KS K4 y := by
    rw [hw, T.sat_ties]
    constructor
    · intro h a b s hs
      obtain ⟨ha, hb⟩ := hD a b s hs
      have q1 := h a ha b hb s hs
      have q2 := h b hb a ha (T.trn s) (by rw [S4 a b, hs]; rfl)
      have x1 : T.sHi s = s.2 := rfl
      have x2 : T.sHi (T.trn s) = -s.1 := rfl
      rw [x1] at q1
      rw [x2] at q2
      exact ⟨by omega, by omega⟩
    · intro h a _ b _ s hs
      have q := (h a b s hs).2
      have x1 : T.sHi s = s.2 := rfl
      rw [x1]
      omega
  have ks1 : T.KS K1 y ↔ ∀ k h : Int, 0 ≤ k → k < rs.length → 0 ≤ h → h ≤ H → T.In (-100000, 100000) (y (k, h) - y (-1, 0)) := by
    rw [← e1, T.ks_all n1]
    constructor
    · rintro ⟨_, h⟩ k j a b c d
      refine h (T.limit (k, j)) ?_
      unfold T.limits T.lims
      exact List.mem_map.2 ⟨(k, j), List.mem_filter.2 ⟨T.mem_moms.2 (.inr ⟨⟨a, b⟩, c, d⟩), by
        have : k ≠ -1 := by omega
        simp [this]⟩, rfl⟩
    · intro h
      refine ⟨T.ks_none, fun t ht => ?_⟩
      unfold T.limits T.lims at ht
      obtain ⟨⟨c, j⟩, hm, rfl⟩ := List.mem_map.1 ht
      obtain ⟨hm, hc⟩ := List.mem_filter.1 hm
      rcases T.mem_moms.1 hm with ⟨rfl, rfl⟩ | ⟨⟨a, b⟩, c', d⟩
      · cases hc
      · exact h c j a b c' d
  have ks3 : T.KS K3 y ↔ (∀ k h : Int, 0 ≤ k → k < rs.length → 0 ≤ h → h ≤ H → T.In (-100000, 100000) (y (k, h) - y (-1, 0))) ∧ ∀ k h : Int, 0 ≤ k → k < rs.length → 0 ≤ h → h < H → T.In (T.grw rs os k h) (y (k, h + 1) - y (k, h)) := by
    constructor
    · intro h
      constructor
      · rw [← ks1]
        -- what was known of limits stands
        intro a b s hs
        rw [← e1] at hs
        have hs' := hs
        rcases T.dom n1 hs with ⟨_, q⟩ | ⟨t, ht, q⟩
        · cases q
        · have ht' := ht
          unfold T.limits T.lims at ht'
          obtain ⟨m, hm, rfl⟩ := List.mem_map.1 ht'
          rw [e1] at hs
          rcases q with ⟨rfl, rfl⟩ | ⟨rfl, rfl⟩
          · obtain ⟨s2, k2, l2, u2⟩ := T.nrw_all (K := K1) n2 _ _ _ hs
            rw [e2] at k2
            have k3 : K3 (T.one (T.limit m)) (T.oth (T.limit m)) = some s2 := by
              rw [← e3]; exact (T.apart_lrn (b := (-1, 0)) (T.two_steps G)).trans k2
            have q := h _ _ _ k3
            unfold T.In at q ⊢
            omega
          · obtain ⟨s2, k2, l2, u2⟩ := T.nrw_all (K := K1) n2 _ _ _ (show K1 (T.one (T.limit m)) (T.oth (T.limit m)) = some (T.trn s) by rw [S1 (T.oth (T.limit m)), hs]; rfl)
            rw [e2] at k2
            have k3 : K3 (T.one (T.limit m)) (T.oth (T.limit m)) = some s2 := by
              rw [← e3]; exact (T.apart_lrn (b := (-1, 0)) (T.two_steps G)).trans k2
            have q := h _ _ _ k3
            unfold T.In at q ⊢
            unfold T.trn at l2 u2
            simp only at l2 u2
            omega
      · intro k j a b c d
        have q := h _ _ _ (r3 k.toNat j.toNat (by omega) (by omega))
        rw [Int.toNat_of_nonneg a, Int.toNat_of_nonneg c] at q
        exact q
    · rintro ⟨hl, hg⟩ a b s hs
      by_cases c : ∃ t ∈ T.rates rs H, (a = T.one t ∧ b = T.oth t) ∨ (a = T.oth t ∧ b = T.one t)
      · obtain ⟨t, ht, q⟩ := c
        obtain ⟨k, j, hk, hj, rfl⟩ := T.mem_nest ht
        have g := hg k j (by omega) (by omega) (by omega) (by omega)
        rcases q with ⟨rfl, rfl⟩ | ⟨rfl, rfl⟩
        · have e := r3 k j hk hj
          have es : s = T.grw rs os k j := Option.some.inj (hs.symm.trans e)
          rw [es]
          exact g
        · have e := S3 ((k : Int), (j : Int) + 1) ((k : Int), (j : Int))
          rw [r3 k j hk hj] at e
          have es : s = T.trn (T.grw rs os k j) := Option.some.inj (hs.symm.trans e)
          rw [es]
          exact T.in_trn.2 g
      · have h1 : K1 a b = some s := by
          rw [← e3, T.apart2 fun t ht => ?_] at hs
          · rw [← e2, T.apart2 fun t ht => ⟨n2 t ht, fun q => c ⟨t, ht, .inr q⟩, fun q => c ⟨t, ht, .inl q⟩⟩] at hs
            exact hs
          · obtain ⟨k, j, hk, hj, x1, x2⟩ := st t ht
            refine ⟨n3 t ht, fun q => c ⟨T.rate rs k j, T.rate_mem hk hj, .inr ⟨?_, ?_⟩⟩, fun q => c ⟨T.rate rs k j, T.rate_mem hk hj, .inl ⟨?_, ?_⟩⟩⟩
            · rw [q.1, x2]; rfl
            · rw [q.2, x1]; rfl
            · rw [q.1, x1]; rfl
            · rw [q.2, x2]; rfl
        exact ks1.2 hl a b s h1
  have cm : (∀ t ∈ T.cmps b0 b1 b2 b3 b4 ps (H + 1), T.Kp t y) ↔ ∀ x ∈ ps, T.has b0 b1 b2 b3 b4 x.2.1 = false → T.has b0 b1 b2 b3 b4 x.2.2.1 = false → T.In x.2.2.2 (y (x.2.1, x.1) - y (x.2.2.1, if x.2.2.1 = -1 then 0 else x.1)) := by
    constructor
    · intro h x hx h1 h2
      have g := G.psB x hx
      have q := h (T.cmp x.1.toNat x) (T.mem_cmps.2 ⟨x.1.toNat, x, by omega, hx, by
        unfold T.isAt
        rw [Int.toNat_of_nonneg g.1.1, h1, h2]
        simp, rfl⟩)
      have e : T.Kp (T.cmp x.1.toNat x) y ↔ T.In x.2.2.2 (y (x.2.1, (x.1.toNat : Int)) - y (x.2.2.1, T.hr x.2.2.1 (x.1.toNat : Int))) := Iff.rfl
      rw [e, Int.toNat_of_nonneg g.1.1] at q
      exact q
    · intro h t ht
      obtain ⟨j, x, hj, hx, hi, rfl⟩ := T.mem_cmps.1 ht
      unfold T.isAt at hi
      simp only [Bool.and_eq_true, Bool.not_eq_true', beq_iff_eq] at hi
      have q := h x hx hi.2.1 hi.2.2
      rw [hi.1] at q
      exact q
  rw [sat_ks, ← e4, T.ks_all n4, ks3, cm]
  exact ⟨fun h => ⟨h.1.1, h.1.2, h.2⟩, fun h => ⟨⟨h.lim, h.grow⟩, h.cmp⟩⟩
end
end Go.Proofs.Ytcmdaiklkdeanaa

/- Offsets that keep to all ties are a truth. -/
namespace Go.Proofs.Ytcmdaiklkdeanaa

section
variable {H : Nat} {rs : List (Int × Int)} {os : List (Int × Int × Int × Int)} {ps : List (Int × Int × Int × Int × Int)} {b0 b1 b2 b3 b4 : Bool}
theorem T.keep_tru (G : T.Good H rs os ps) {o : Int × Int → Int} (h0 : o (-1, 0) = 0) (h64 : ∀ m ∈ T.moms rs.length H, D.in64 (o m)) :
    (T.web rs.length H rs os ps b0 b1 b2 b3 b4).all (T.keep o) = true ↔ T.Tru H rs os ps b0 b1 b2 b3 b4 o := by
  have W := T.web_ok (b0 := b0) (b1 := b1) (b2 := b2) (b3 := b3) (b4 := b4) G
  have hm0 : ((-1 : Int), (0 : Int)) ∈ T.moms rs.length H := T.mem_moms.2 (.inl ⟨rfl, rfl⟩)
  have hwr : (∀ m ∈ T.moms rs.length H, -100000 ≤ o m ∧ o m ≤ 100000) → ∀ t ∈ T.web rs.length H rs os ps b0 b1 b2 b3 b4, IntKind.i64.wrap (o (T.one t) - o (T.oth t)) = o (T.one t) - o (T.oth t) := fun h t ht => by
    obtain ⟨a, b⟩ := W.ends t ht
    have := h _ a
    have := h _ b
    exact IntWalk.i64_in _ (by omega)
  rw [List.all_eq_true, ← T.sat_tru G]
  constructor
  · intro h
    have hb : ∀ m ∈ T.moms rs.length H, -100000 ≤ o m ∧ o m ≤ 100000 := by
      intro m hm
      by_cases e : m = (-1, 0)
      · rw [e, h0]; omega
      · obtain ⟨s, h1, h2, h3⟩ := T.far0 (b0 := b0) (b1 := b1) (b2 := b2) (b3 := b3) (b4 := b4) G m hm e
        have q := h _ (show (m.1, m.2, -1, 0, s.1, s.2) ∈ T.web rs.length H rs os ps b0 b1 b2 b3 b4 from T.mem_ties.2 ⟨m, hm, (-1, 0), hm0, s, h1, rfl⟩)
        have e1 : T.keep o (m.1, m.2, -1, 0, s.1, s.2) = inB (IntKind.i64.wrap (o m - o (-1, 0))) s.1 s.2 := rfl
        have hi := h64 m hm
        unfold D.in64 at hi
        rw [e1, h0, Int.sub_zero, IntWalk.i64_in _ (by omega), inB_iff] at q
        omega
    intro t ht
    have q := h t ht
    unfold T.keep at q
    rw [hwr hb t ht, inB_iff] at q
    have e : T.sHi (T.by t) = (T.by t).2 := rfl
    rw [e]
    omega
  · intro h t ht
    have hb : ∀ m ∈ T.moms rs.length H, -100000 ≤ o m ∧ o m ≤ 100000 := by
      have L := ((T.sat_tru G).1 h).lim
      rintro ⟨c, j⟩ hm
      rcases T.mem_moms.1 hm with ⟨rfl, rfl⟩ | ⟨⟨a, b⟩, c', d⟩
      · rw [h0]; omega
      · have q := L c j a b c' d
        unfold T.In at q
        rw [h0] at q
        simp only at q
        omega
    unfold T.keep
    rw [hwr hb t ht, inB_iff]
    have q1 := h t ht
    have q2 : -o (T.one t) ≤ -o (T.oth t) + T.sLo (T.by t) := (W.neg o).1 h t ht
    have e1 : T.sHi (T.by t) = (T.by t).2 := rfl
    have e2 : T.sLo (T.by t) = -(T.by t).1 := rfl
    rw [e1] at q1
    rw [e2] at q2
    omega
end
end Go.Proofs.Ytcmdaiklkdeanaa
