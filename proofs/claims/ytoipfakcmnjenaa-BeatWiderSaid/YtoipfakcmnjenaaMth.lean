import Derived.Test.YtoipfakcmnjenaaQue
import Derived.Test.YtoipfakcmnjenaaApt
/- The ties of a good cellar are well formed. -/
namespace Go.Proofs.Ytoipfakcmnjenaa

theorem T.trn_trn (s : Int × Int) : T.trn (T.trn s) = s := by
  unfold T.trn
  rw [Int.neg_neg, Int.neg_neg]
/-- what is known of two moments is known the other way round -/
def T.Sym (K : T.Kn) : Prop := ∀ x y, K y x = (K x y).map T.trn
theorem T.joinB_trn (o : Option (Int × Int)) (s : Int × Int) : T.joinB (o.map T.trn) (T.trn s) = T.trn (T.joinB o s) := by
  cases o with
  | none => rfl
  | some b =>
    show (max (-b.2) (-s.2), min (-b.1) (-s.1)) = (-(min b.2 s.2), -(max b.1 s.1))
    refine Prod.ext ?_ ?_
    · show max (-b.2) (-s.2) = -(min b.2 s.2); omega
    · show min (-b.1) (-s.1) = -(max b.1 s.1); omega
theorem T.joinA_trn (o : Option (Int × Int)) (s : Int × Int) : T.joinA (o.map T.trn) (T.trn s) = T.trn (T.joinA o s) := by
  cases o with
  | none => rfl
  | some b =>
    show (-b.2 + -s.2, -b.1 + -s.1) = (-(b.2 + s.2), -(b.1 + s.1))
    refine Prod.ext ?_ ?_
    · show -b.2 + -s.2 = -(b.2 + s.2); omega
    · show -b.1 + -s.1 = -(b.1 + s.1); omega
/-- what is known when a tie has been learned -/
theorem T.lrn_is {J : Option (Int × Int) → Int × Int → Int × Int} {K : T.Kn} {t : T.T6} (hne : T.one t ≠ T.oth t) (a b : Int × Int) :
    T.lrn J K t a b = if a = T.oth t ∧ b = T.one t then some (J (K (T.oth t) (T.one t)) (T.trn (T.by t))) else if a = T.one t ∧ b = T.oth t then some (J (K (T.one t) (T.oth t)) (T.by t)) else K a b := by
  unfold T.lrn T.lrn1
  rw [T.put2_is, T.put2_is, T.put2_is]
  rw [if_neg (fun h : T.oth t = T.one t ∧ T.one t = T.oth t => hne h.2)]
theorem T.Sym.lrn {J : Option (Int × Int) → Int × Int → Int × Int} (hJ : ∀ o s, J (o.map T.trn) (T.trn s) = T.trn (J o s)) {K : T.Kn} (h : T.Sym K) {t : T.T6} (hne : T.one t ≠ T.oth t) : T.Sym (T.lrn J K t) := by
  intro x y
  rw [T.lrn_is hne, T.lrn_is hne]
  by_cases c1 : x = T.one t ∧ y = T.oth t
  · obtain ⟨rfl, rfl⟩ := c1
    rw [if_pos ⟨rfl, rfl⟩, if_neg (fun q : T.one t = T.oth t ∧ T.oth t = T.one t => hne q.1), if_pos ⟨rfl, rfl⟩, h (T.one t) (T.oth t), hJ]
    rfl
  · by_cases c2 : x = T.oth t ∧ y = T.one t
    · obtain ⟨rfl, rfl⟩ := c2
      rw [if_neg (fun q : T.one t = T.oth t ∧ T.oth t = T.one t => hne q.1), if_pos ⟨rfl, rfl⟩, if_pos ⟨rfl, rfl⟩]
      rw [h (T.one t) (T.oth t), hJ, Option.map_some, T.trn_trn]
    · rw [if_neg (fun q => c1 ⟨q.2, q.1⟩), if_neg (fun q => c2 ⟨q.2, q.1⟩), if_neg c2, if_neg c1]
      exact h x y
theorem T.Sym.lrnAll {J : Option (Int × Int) → Int × Int → Int × Int} (hJ : ∀ o s, J (o.map T.trn) (T.trn s) = T.trn (J o s)) : ∀ {ts : List T.T6} {K : T.Kn}, T.Sym K → (∀ t ∈ ts, T.one t ≠ T.oth t) → T.Sym (T.lrnAll J K ts)
  | [], _, h, _ => h
  | t :: ts, K, h, hne => by
    show T.Sym (T.lrnAll J (T.lrn J K t) ts)
    exact T.Sym.lrnAll hJ (h.lrn hJ (hne t List.mem_cons_self)) fun u hu => hne u (List.mem_cons_of_mem _ hu)
theorem T.sym_none : T.Sym fun _ _ => none := fun _ _ => rfl

/-- what is known lies within what was known -/
def T.Nrw (K K' : T.Kn) : Prop := ∀ a b s, K a b = some s → ∃ s', K' a b = some s' ∧ s.1 ≤ s'.1 ∧ s'.2 ≤ s.2
theorem T.Nrw.refl (K : T.Kn) : T.Nrw K K := fun _ _ s h => ⟨s, h, Int.le_refl _, Int.le_refl _⟩
theorem T.Nrw.trans {K K' K'' : T.Kn} (h : T.Nrw K K') (k : T.Nrw K' K'') : T.Nrw K K'' := fun a b s hs => by
  obtain ⟨s', h1, h2, h3⟩ := h a b s hs
  obtain ⟨s'', k1, k2, k3⟩ := k a b s' h1
  exact ⟨s'', k1, by omega, by omega⟩
theorem T.nrw_lrn {K : T.Kn} {t : T.T6} (hne : T.one t ≠ T.oth t) : T.Nrw K (T.lrn T.joinB K t) := fun a b s hs => by
  rw [T.lrn_is hne]
  by_cases c2 : a = T.oth t ∧ b = T.one t
  · obtain ⟨rfl, rfl⟩ := c2
    rw [if_pos ⟨rfl, rfl⟩, hs]
    refine ⟨_, rfl, ?_, ?_⟩
    · show s.1 ≤ max s.1 _; omega
    · show min s.2 _ ≤ s.2; omega
  · rw [if_neg c2]
    by_cases c1 : a = T.one t ∧ b = T.oth t
    · obtain ⟨rfl, rfl⟩ := c1
      rw [if_pos ⟨rfl, rfl⟩, hs]
      refine ⟨_, rfl, ?_, ?_⟩
      · show s.1 ≤ max s.1 _; omega
      · show min s.2 _ ≤ s.2; omega
    · rw [if_neg c1]
      exact ⟨s, hs, Int.le_refl _, Int.le_refl _⟩
theorem T.nrw_all : ∀ {ts : List T.T6} {K : T.Kn}, (∀ t ∈ ts, T.one t ≠ T.oth t) → T.Nrw K (T.lrnAll T.joinB K ts)
  | [], K, _ => T.Nrw.refl K
  | t :: ts, K, hne => by
    show T.Nrw K (T.lrnAll T.joinB (T.lrn T.joinB K t) ts)
    exact (T.nrw_lrn (hne t List.mem_cons_self)).trans (T.nrw_all fun u hu => hne u (List.mem_cons_of_mem _ hu))
/-- a tie that has been learned is known -/
theorem T.learned : ∀ {ts : List T.T6} {K : T.Kn}, (∀ t ∈ ts, T.one t ≠ T.oth t) → ∀ t ∈ ts, ∃ s, T.lrnAll T.joinB K ts (T.one t) (T.oth t) = some s ∧ (T.by t).1 ≤ s.1 ∧ s.2 ≤ (T.by t).2
  | [], _, _, t, ht => by cases ht
  | u :: ts, K, hne, t, ht => by
    show ∃ s, T.lrnAll T.joinB (T.lrn T.joinB K u) ts (T.one t) (T.oth t) = some s ∧ _
    rcases List.mem_cons.1 ht with rfl | ht
    · have h0 := hne t List.mem_cons_self
      have e : T.lrn T.joinB K t (T.one t) (T.oth t) = some (T.joinB (K (T.one t) (T.oth t)) (T.by t)) := by
        rw [T.lrn_is h0, if_neg (fun q : T.one t = T.oth t ∧ T.oth t = T.one t => h0 q.1), if_pos ⟨rfl, rfl⟩]
      obtain ⟨s', h1, h2, h3⟩ := T.nrw_all (K := T.lrn T.joinB K t) (fun u hu => hne u (List.mem_cons_of_mem _ hu)) _ _ _ e
      have hb : (T.by t).1 ≤ (T.joinB (K (T.one t) (T.oth t)) (T.by t)).1 ∧ (T.joinB (K (T.one t) (T.oth t)) (T.by t)).2 ≤ (T.by t).2 := by
        cases K (T.one t) (T.oth t) with
        | none => exact ⟨Int.le_refl _, Int.le_refl _⟩
        | some b => exact ⟨by show _ ≤ max b.1 (T.by t).1; omega, by show min b.2 (T.by t).2 ≤ _; omega⟩
      exact ⟨s', h1, by omega, by omega⟩
    · exact T.learned (fun u hu => hne u (List.mem_cons_of_mem _ hu)) t ht
/-- ties between others say nothing of a pair -/
theorem T.apart_lrn {J : Option (Int × Int) → Int × Int → Int × Int} {a b : Int × Int} : ∀ {ts : List T.T6} {K : T.Kn}, (∀ t ∈ ts, T.one t ≠ T.oth t ∧ T.one t ≠ b ∧ T.oth t ≠ b) → T.lrnAll J K ts a b = K a b
  | [], _, _ => rfl
  | t :: ts, K, h => by
    show T.lrnAll J (T.lrn J K t) ts a b = K a b
    obtain ⟨h1, h2, h3⟩ := h t List.mem_cons_self
    rw [T.apart_lrn fun u hu => h u (List.mem_cons_of_mem _ hu), T.lrn_is h1, if_neg (fun q => h2 q.2.symm), if_neg (fun q => h3 q.2.symm)]

theorem T.mem_ties {K : T.Kn} {D L : List (Int × Int)} {t : T.T6} : t ∈ T.tiesT K D L ↔ ∃ x ∈ L, ∃ y ∈ D, ∃ s, K x y = some s ∧ t = (x.1, x.2, y.1, y.2, s.1, s.2) := by
  unfold T.tiesT T.rowT
  simp only [List.mem_flatMap, List.mem_filterMap, Option.map_eq_some_iff]
  constructor
  · rintro ⟨x, hx, y, hy, s, hs, e⟩; exact ⟨x, hx, y, hy, s, hs, e.symm⟩
  · rintro ⟨x, hx, y, hy, s, hs, e⟩; exact ⟨x, hx, y, hy, s, hs, e.symm⟩
theorem T.sat_ties {f : Int × Int → Int} {K : T.Kn} {D : List (Int × Int)} {y : Int × Int → Int} : T.Sat f (T.tiesT K D D) y ↔ ∀ a ∈ D, ∀ b ∈ D, ∀ s, K a b = some s → y a ≤ y b + f s := by
  constructor
  · intro h a ha b hb s hs
    exact h _ (T.mem_ties.2 ⟨a, ha, b, hb, s, hs, rfl⟩)
  · intro h t ht
    obtain ⟨a, ha, b, hb, s, hs, rfl⟩ := T.mem_ties.1 ht
    exact h a ha b hb s hs

section
variable {H : Nat} {rs : List (Int × Int)} {os : List (Int × Int × Int × Int)} {ps : List (Int × Int × Int × Int × Int)} {b0 b1 b2 b3 b4 : Bool}
theorem T.two_limits {n : Nat} : ∀ t ∈ T.limits n H, T.one t ≠ T.oth t := by
  intro t ht
  unfold T.limits T.lims at ht
  obtain ⟨m, hm, rfl⟩ := List.mem_map.1 ht
  have h := (List.mem_filter.1 hm).2
  intro e
  have e1 : m.1 = -1 := congrArg Prod.fst e
  rw [e1] at h
  cases h
theorem T.two_rates : ∀ t ∈ T.rates rs H, T.one t ≠ T.oth t := by
  intro t ht
  obtain ⟨k, h, _, _, rfl⟩ := T.mem_nest ht
  intro e
  have e1 : (h : Int) + 1 = h := congrArg Prod.snd e
  omega
theorem T.two_steps (G : T.Good H rs os ps) : ∀ t ∈ T.steps os, T.one t ≠ T.oth t ∧ T.one t ≠ (-1, 0) ∧ T.oth t ≠ (-1, 0) := by
  intro t ht
  obtain ⟨x, hx, rfl⟩ := List.mem_map.1 ht
  have h := (G.osB x hx).1.1
  refine ⟨fun e => ?_, fun e => ?_, fun e => ?_⟩
  · have e1 : x.2.1 + 1 = x.2.1 := congrArg Prod.snd e
    omega
  · have e1 : x.1 = -1 := congrArg Prod.fst e
    omega
  · have e1 : x.1 = -1 := congrArg Prod.fst e
    omega
theorem T.two_cmps (G : T.Good H rs os ps) : ∀ t ∈ T.cmps b0 b1 b2 b3 b4 ps (H + 1), T.one t ≠ T.oth t := by
  intro t ht
  obtain ⟨h, x, _, hx, _, rfl⟩ := T.mem_cmps.1 ht
  intro e
  exact (G.psB x hx).2.2.2.1 (congrArg Prod.fst e)
/-- a clock is off by no more than the limits -/
theorem T.far0 (G : T.Good H rs os ps) : ∀ m ∈ T.moms rs.length H, m ≠ (-1, 0) → ∃ s, T.stage rs.length H rs os ps b0 b1 b2 b3 b4 4 m (-1, 0) = some s ∧ -100000 ≤ s.1 ∧ s.2 ≤ 100000 := by
  intro m hm hne
  have hc : m.1 ≠ -1 := by
    intro e
    obtain ⟨c, h⟩ := m
    rcases T.mem_moms.1 hm with ⟨rfl, rfl⟩ | ⟨h1, _⟩
    · exact hne rfl
    · simp only at e; omega
  have hl : T.limit m ∈ T.limits rs.length H := by
    unfold T.limits T.lims
    exact List.mem_map.2 ⟨m, List.mem_filter.2 ⟨hm, by simp [hc]⟩, rfl⟩
  obtain ⟨s1, h1, l1, u1⟩ := T.learned (K := fun _ _ => none) T.two_limits (T.limit m) hl
  obtain ⟨s2, h2, l2, u2⟩ := T.nrw_all (T.two_rates (rs := rs) (H := H)) _ _ _ h1
  have h3 := T.apart_lrn (J := T.joinA) (a := m) (b := (-1, 0)) (K := T.lrnAll T.joinB (T.lrnAll T.joinB (fun _ _ => none) (T.limits rs.length H)) (T.rates rs H)) (T.two_steps G)
  obtain ⟨s4, h4, l4, u4⟩ := T.nrw_all (T.two_cmps (b0 := b0) (b1 := b1) (b2 := b2) (b3 := b3) (b4 := b4) G) _ _ _ (h3.trans h2)
  refine ⟨s4, h4, ?_, ?_⟩
  · have : (T.by (T.limit m)).1 = -100000 := rfl
    omega
  · have : (T.by (T.limit m)).2 = 100000 := rfl
    omega
theorem T.web_ok (G : T.Good H rs os ps) : T.WebOk rs.length H (T.web rs.length H rs os ps b0 b1 b2 b3 b4) := by
  have B1 : T.Bd 100000 (T.lrnAll T.joinB (fun _ _ => none) (T.limits rs.length H)) := T.lrnAll_B (T.bd_none _) fun t ht => (T.fit_limits t ht).2.2
  have up : ∀ {b B : Int} {s : Int × Int}, T.Bs b s → b ≤ B → T.Bs B s := fun h hb => ⟨⟨by have := h.1.1; omega, by have := h.1.2; omega⟩, ⟨by have := h.2.1; omega, by have := h.2.2; omega⟩⟩
  have B2 : T.Bd 100000 (T.lrnAll T.joinB (T.lrnAll T.joinB (fun _ _ => none) (T.limits rs.length H)) (T.rates rs H)) := T.lrnAll_B B1 fun t ht => up (T.fit_rates (fun s hs => (G.rsB s hs).1) t ht).2.2 (by omega)
  have ho := T.fit_steps (H := H) (n := rs.length) (os := os) fun x hx => ⟨(G.osB x hx).1, (G.osB x hx).2.1, (G.osB x hx).2.2.1⟩
  have B3 := T.lrnAll_A (b := 100000) (by omega) (by omega) B2 fun t ht => (ho t ht).2.2
  have hp := T.fit_cmps (b0 := b0) (b1 := b1) (b2 := b2) (b3 := b3) (b4 := b4) (H := H) (n := rs.length) (ps := ps) fun x hx => ⟨(G.psB x hx).2.1, (G.psB x hx).2.2.1, (G.psB x hx).2.2.2.2.1⟩
  have o6 := G.o6
  have sl : (T.steps os).length = os.length := by unfold T.steps; rw [List.length_map]
  have B4 := T.lrnAll_B (B := 1300000) (B3.mono (by rw [sl]; omega)) fun t ht => up (hp t ht).2.2 (by omega)
  have S4 := T.Sym.lrnAll T.joinB_trn (T.Sym.lrnAll T.joinA_trn (T.Sym.lrnAll T.joinB_trn (T.Sym.lrnAll T.joinB_trn T.sym_none (T.two_limits (n := rs.length) (H := H))) (T.two_rates (rs := rs) (H := H))) fun t ht => (T.two_steps G t ht).1) (T.two_cmps (b0 := b0) (b1 := b1) (b2 := b2) (b3 := b3) (b4 := b4) G)
  obtain ⟨K, hK⟩ : ∃ K, T.stage rs.length H rs os ps b0 b1 b2 b3 b4 4 = K := ⟨_, rfl⟩
  have far0 : ∀ m ∈ T.moms rs.length H, m ≠ (-1, 0) → ∃ s, K m (-1, 0) = some s ∧ -100000 ≤ s.1 ∧ s.2 ≤ 100000 := by
    rw [← hK]; exact T.far0 G
  have hS : T.Sym K := by rw [← hK]; exact S4
  have hB : T.Bd 1300000 K := by rw [← hK]; exact B4
  have hw : T.web rs.length H rs os ps b0 b1 b2 b3 b4 = T.tiesT K (T.moms rs.length H) (T.moms rs.length H) := by unfold T.web; rw [hK]
  have hm0 : ((-1 : Int), (0 : Int)) ∈ T.moms rs.length H := T.mem_moms.2 (.inl ⟨rfl, rfl⟩)
  refine ⟨?_, T.web_len G.r2 G.h2 rs os ps b0 b1 b2 b3 b4, ?_, ?_, ?_⟩
  · intro t ht
    rw [hw] at ht
    obtain ⟨a, ha, b, hb, s, hs, rfl⟩ := T.mem_ties.1 ht
    exact ⟨T.moms_in G.r2 G.h2 ha, T.moms_in G.r2 G.h2 hb, up (hB a b s hs) (by omega)⟩
  · intro t ht
    rw [hw] at ht
    obtain ⟨a, ha, b, hb, s, hs, rfl⟩ := T.mem_ties.1 ht
    exact ⟨ha, hb⟩
  · intro y
    rw [hw, T.sat_ties, T.sat_ties]
    constructor
    · intro h a ha b hb s hs
      have q := h b hb a ha (T.trn s) (by rw [hS a b, hs]; rfl)
      have e : T.sHi (T.trn s) = -s.1 := rfl
      have e' : T.sLo s = -s.1 := rfl
      rw [e] at q
      rw [e']
      omega
    · intro h a ha b hb s hs
      have q := h b hb a ha (T.trn s) (by rw [hS a b, hs]; rfl)
      have e : T.sLo (T.trn s) = -(-s.2) := rfl
      have e' : T.sHi s = s.2 := rfl
      rw [e] at q
      rw [e']
      omega
  · intro y h m hm k hk
    rw [hw, T.sat_ties] at h
    have a : y m ≤ y (-1, 0) + 100000 := by
      by_cases e : m = (-1, 0)
      · rw [e]; omega
      · obtain ⟨s, h1, h2, h3⟩ := far0 m hm e
        have q := h m hm _ hm0 s h1
        have e' : T.sHi s = s.2 := rfl
        rw [e'] at q
        omega
    have b : y (-1, 0) ≤ y k + 100000 := by
      by_cases e : k = (-1, 0)
      · rw [e]; omega
      · obtain ⟨s, h1, h2, h3⟩ := far0 k hk e
        have q := h _ hm0 k hk (T.trn s) (by rw [hS k (-1, 0), h1]; rfl)
        have e' : T.sHi (T.trn s) = -s.1 := rfl
        rw [e'] at q
        omega
    omega
end
end Go.Proofs.Ytoipfakcmnjenaa
