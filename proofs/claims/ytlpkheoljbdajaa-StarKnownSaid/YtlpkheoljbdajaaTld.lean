import Derived.Test.YtlpkheoljbdajaaFro
/- What from tells, over all numbers that keep to the ties. -/
namespace Go.Proofs.Ytlpkheoljbdajaa
open Go.RowKit Go.Shelf

theorem T.OC.uniq {cs cs' : Array Value} {f g : Int → Int} (h : T.OC cs f) (h' : T.OC cs' g) (e : ∀ i : Int, 0 ≤ i → i ≤ 16 → f i = g i) : cs = cs' := by
  refine Array.ext (by rw [h.size, h'.size]) fun i h1 h2 => ?_
  have s := h.size
  have a := (h.congr e).at_ i (by omega)
  have b := h'.at_ i (by omega)
  rw [Array.getElem?_eq_getElem h1] at a
  rw [Array.getElem?_eq_getElem h2] at b
  exact (Option.some.inj a).trans (Option.some.inj b).symm
theorem T.SC.uniq {cs cs' : Array Value} {lo hi lo' hi' : Int → Int} (h : T.SC cs lo hi) (h' : T.SC cs' lo' hi') (e1 : ∀ i : Int, 0 ≤ i → i ≤ 16 → lo i = lo' i) (e2 : ∀ i : Int, 0 ≤ i → i ≤ 16 → hi i = hi' i) : cs = cs' := by
  refine Array.ext (by rw [h.size, h'.size]) fun i h1 h2 => ?_
  have s := h.size
  have hc := h.congr e1 e2
  suffices q : cs[i]? = cs'[i]? by
    rw [Array.getElem?_eq_getElem h1, Array.getElem?_eq_getElem h2] at q
    exact Option.some.inj q
  rcases Nat.mod_two_eq_zero_or_one i with q | q
  · have a := hc.lo_ (i / 2) (by omega)
    have b := h'.lo_ (i / 2) (by omega)
    rw [show 2 * (i / 2) = i by omega] at a b
    exact a.trans b.symm
  · have a := hc.hi_ (i / 2) (by omega)
    have b := h'.hi_ (i / 2) (by omega)
    rw [show 2 * (i / 2) + 1 = i by omega] at a b
    exact a.trans b.symm
theorem T.oc_ex (f : Int → Int) : ∃ cs, T.OC cs f := by
  refine ⟨Array.ofFn (n := 17) fun i => .int .i64 (f (i.val : Int)), by simp, fun i hi => ?_⟩
  rw [Array.getElem?_ofFn, dif_pos hi]
theorem T.sc_ex (lo hi : Int → Int) : ∃ cs, T.SC cs lo hi := by
  refine ⟨Array.ofFn (n := 34) fun i => .int .i64 (if i.val % 2 = 0 then lo ((i.val / 2 : Nat) : Int) else hi ((i.val / 2 : Nat) : Int)), by simp, fun i h => ?_, fun i h => ?_⟩
  · rw [Array.getElem?_ofFn, dif_pos (by omega)]
    simp only
    rw [if_pos (by omega), show 2 * i / 2 = i by omega]
  · rw [Array.getElem?_ofFn, dif_pos (by omega)]
    simp only
    rw [if_neg (by omega), show (2 * i + 1) / 2 = i by omega]
theorem T.far_ex (ah : Bool) (ts : List T.T4) (m : Int) : ∃ cs r, T.FarIs ah ts m cs r := by
  by_cases h : ∃ j, j < 17 ∧ ∀ i : Int, 0 ≤ i → i ≤ 16 → T.rnds ah ts (T.d0 m) (j + 1) i = T.rnds ah ts (T.d0 m) j i
  · obtain ⟨j, h1, h2⟩ := h
    obtain ⟨cs, hc⟩ := T.oc_ex (T.rnds ah ts (T.d0 m) (j + 1))
    exact ⟨cs, true, .inl ⟨rfl, j, h1, h2, hc⟩⟩
  · exact ⟨NZ, false, .inr ⟨rfl, rfl, fun j hj e => h ⟨j, hj, e⟩⟩⟩
theorem T.rnds_out {ah : Bool} {ts : List T.T4} {f : Int → Int} {i : Int} (h : ∀ t ∈ ts, i ≠ t.1.1) : ∀ k, T.rnds ah ts f k i = f i
  | 0 => rfl
  | k + 1 => (T.pass_out h).trans (T.rnds_out h k)
theorem T.rnds_all {ah : Bool} {ts : List T.T4} (hts : T.Tin ts) {m : Int} {j : Nat} (h : ∀ i : Int, 0 ≤ i → i ≤ 16 → T.rnds ah ts (T.d0 m) (j + 1) i = T.rnds ah ts (T.d0 m) j i) (i : Int) : T.rnds ah ts (T.d0 m) (j + 1) i = T.rnds ah ts (T.d0 m) j i := by
  by_cases e : 0 ≤ i ∧ i ≤ 16
  · exact h i e.1 e.2
  · have o : ∀ t ∈ ts, i ≠ t.1.1 := fun t ht q => e (q ▸ (hts t ht).1)
    rw [T.rnds_out o, T.rnds_out o]
theorem T.FarIs.uniq {ah : Bool} {ts : List T.T4} {m : Int} {cs cs' : Array Value} {r r' : Bool} (hts : T.Tin ts) (h : T.FarIs ah ts m cs r) (h' : T.FarIs ah ts m cs' r') : cs = cs' ∧ r = r' := by
  rcases h with ⟨rfl, j, hj, hs, hO⟩ | ⟨rfl, rfl, ha⟩ <;> rcases h' with ⟨rfl, j', hj', hs', hO'⟩ | ⟨rfl, rfl, ha'⟩
  · refine ⟨hO.uniq hO' fun i _ _ => ?_, rfl⟩
    have a := T.rnds_fixed (T.rnds_all hts hs)
    have b := T.rnds_fixed (T.rnds_all hts hs')
    have e1 := a (j' + 1) i
    have e2 := b (j + 1) i
    rw [T.rnds_all hts hs, T.rnds_all hts hs', ← e1, ← e2, show j + (j' + 1) = j' + (j + 1) by omega]
  · exact absurd hs (ha' j hj)
  · exact absurd hs' (ha j' hj')
  · exact ⟨rfl, rfl⟩
theorem T.FromIs.uniq {ts : List T.T4} {m : Int} {cs cs' : Array Value} {r r' : Bool} (hts : T.Tin ts) (h : T.FromIs ts m cs r) (h' : T.FromIs ts m cs' r') : cs = cs' ∧ r = r' := by
  rcases h with ⟨rfl, rfl, c1, a⟩ | ⟨rfl, c1, c2, r2, f, g, a1, a2, a3, a4, _, _, a5⟩ <;> rcases h' with ⟨rfl, rfl, d1, b⟩ | ⟨rfl, d1, d2, s2, f', g', b1, b2, b3, b4, _, _, b5⟩
  · exact ⟨rfl, rfl⟩
  · exact absurd (a.uniq hts b1).2 (by simp)
  · exact absurd (a1.uniq hts b).2 (by simp)
  · obtain ⟨rfl, _⟩ := a1.uniq hts b1
    obtain ⟨rfl, _⟩ := a2.uniq hts b2
    exact ⟨a5.uniq b5 (fun i h1 h2 => by rw [a4.inj b4 i h1 h2]) (fun i h1 h2 => a3.inj b3 i h1 h2), rfl⟩
theorem T.from_ex {ts : List T.T4} (hts : T.Tin ts) (hl : ts.length ≤ 300) (m : Int) : ∃ cs r, T.FromIs ts m cs r := by
  obtain ⟨c1, r1, h1⟩ := T.far_ex true ts m
  obtain ⟨c2, r2, h2⟩ := T.far_ex false ts m
  cases r1 with
  | false => exact ⟨SZ, false, .inl ⟨rfl, rfl, _, h1⟩⟩
  | true =>
    obtain ⟨f, f1, f2⟩ := h1.oc hts hl
    obtain ⟨g, g1, g2⟩ := h2.oc hts hl
    obtain ⟨cs, hc⟩ := T.sc_ex (fun i => -g i) f
    exact ⟨cs, true, .inr ⟨rfl, c1, c2, r2, f, g, h1, h2, f1, g1, f2, g2, hc⟩⟩
/-- between what a difference lies, both ends being reached -/
def T.Told (ts : List T.T4) (m i : Int) (lo hi : Int) : Prop := (∀ y, T.Sat true ts y → lo ≤ y i - y m ∧ y i - y m ≤ hi) ∧ (∃ y, T.Sat true ts y ∧ y i - y m = lo) ∧ ∃ y, T.Sat true ts y ∧ y i - y m = hi
theorem T.Told.uniq {ts : List T.T4} {m1 m2 : Int} {l h l' h' : Int} (a : T.Told ts m1 m2 l h) (b : T.Told ts m1 m2 l' h') : l = l' ∧ h = h' := by
  obtain ⟨a1, ⟨x, x1, x2⟩, y, y1, y2⟩ := a
  obtain ⟨b1, ⟨u, u1, u2⟩, v, v1, v2⟩ := b
  have := a1 u u1; have := a1 v v1; have := b1 x x1; have := b1 y y1
  exact ⟨by omega, by omega⟩
/-- ties as a web has them: A are the things that are there -/
structure T.Wok (ts : List T.T4) (A : Int → Prop) : Prop where
  tin : T.Tin ts
  len : ts.length ≤ 300
  neg : ∀ y, T.Sat true ts y ↔ T.Sat false ts (fun i => -y i)
  ain : ∀ i, A i → 0 ≤ i ∧ i ≤ 16
  con : ∀ m i, A m → A i → ∃ n, n ≤ 20 ∧ T.Rn ts m n i
  ali : ∀ t ∈ ts, A t.1.1 ∧ A t.1.2
theorem T.FarIs.far {ah : Bool} {ts : List T.T4} {A : Int → Prop} (W : T.Wok ts A) {m : Int} (hm : A m) {cs : Array Value} {r : Bool} (h : T.FarIs ah ts m cs r) {f : Int → Int} (hO : T.OC cs f) (hr : r = true) {i : Int} (hi : ¬ A i) (h1 : 0 ≤ i ∧ i ≤ 16) : f i = T.M := by
  rcases h with ⟨_, j, _, _, hO'⟩ | ⟨hf, _⟩
  · rw [hO.inj hO' i h1.1 h1.2, T.rnds_out (fun t ht e => hi (by rw [e]; exact (W.ali t ht).1))]
    unfold T.d0
    rw [if_neg (fun e => hi (by rw [e]; exact hm))]
  · rw [hf] at hr; cases hr
theorem T.FromIs.told {ts : List T.T4} {A : Int → Prop} (W : T.Wok ts A) {m : Int} (hm : A m) {cs : Array Value} {r : Bool} (h : T.FromIs ts m cs r) :
    (r = true ∧ ∃ lo hi, T.SC cs lo hi ∧ (∀ i, A i → T.Told ts m i (lo i) (hi i) ∧ -200000000 ≤ lo i ∧ hi i ≤ 200000000) ∧ ∀ i, ¬ A i → 0 ≤ i ∧ i ≤ 16 → lo i = -T.M ∧ hi i = T.M) ∨ (r = false ∧ cs = SZ ∧ ∀ y, ¬ T.Sat true ts y) := by
  have hm' := W.ain m hm
  have hc : ∀ t ∈ ts, ∃ n, n ≤ 20 ∧ T.Rn ts m n t.1.2 := fun t ht => W.con m _ hm (W.ali t ht).2
  rcases h with ⟨rfl, rfl, c1, hF⟩ | ⟨rfl, c1, c2, r2, f, g, hF, hG, hO, hP, _, _, hS⟩
  · rcases hF.yes hm' W.tin hc with ⟨e, _⟩ | ⟨_, _, hno⟩
    · cases e
    · exact .inr ⟨rfl, rfl, hno⟩
  · left
    refine ⟨rfl, _, f, hS, ?_⟩
    rcases hF.yes hm' W.tin hc with ⟨_, d, d1, d2, d3, d4, d5⟩ | ⟨e, _⟩
    · rcases hG.yes hm' W.tin hc with ⟨hr2, b, b1, b2, b3, b4, b5⟩ | ⟨_, _, hno⟩
      · refine ⟨fun i hi => ?_, fun i hi h1 => ?_⟩
        · have hi' := W.ain i hi
          obtain ⟨n, hn, hR⟩ := W.con m i hm hi
          have ed : f i = d i := hO.inj d1 i hi'.1 hi'.2
          have eb : g i = b i := hP.inj b1 i hi'.1 hi'.2
          have q1 := d4 n i (by omega) hR
          have q2 := b4 n i (by omega) hR
          have q1' : d i < T.M := by unfold T.M; omega
          have q2' : b i < T.M := by unfold T.M; omega
          refine ⟨⟨fun y hy => ?_, ⟨fun i => -b i, (W.neg _).2 (by simpa using b3), by simp only; omega⟩, d, d3, by omega⟩, by omega, by omega⟩
          have p1 := d5 y hy i q1'
          have p2 := b5 _ ((W.neg y).1 hy) i q2'
          omega
        · rw [hF.far W hm hO rfl hi h1, hG.far W hm hP hr2 hi h1]
          exact ⟨rfl, rfl⟩
      · exact absurd ((W.neg d).1 d3) (hno _)
    · cases e
/-- what is told of a difference, and the error -/
def T.Asked (ts : List T.T4) (m i : Int) (l h e : Int) : Prop := (e = 0 ∧ T.Told ts m i l h) ∨ (e = 32 ∧ l = 0 ∧ h = 0 ∧ ∀ y, ¬ T.Sat true ts y)
theorem T.Asked.uniq {ts : List T.T4} {m1 m2 : Int} {l h e l' h' e' : Int} (a : T.Asked ts m1 m2 l h e) (b : T.Asked ts m1 m2 l' h' e') : l = l' ∧ h = h' ∧ e = e' := by
  rcases a with ⟨rfl, a⟩ | ⟨rfl, rfl, rfl, a⟩ <;> rcases b with ⟨rfl, b⟩ | ⟨rfl, rfl, rfl, b⟩
  · exact ⟨(a.uniq b).1, (a.uniq b).2, rfl⟩
  · obtain ⟨_, ⟨y, hy, _⟩, _⟩ := a; exact absurd hy (b y)
  · obtain ⟨_, ⟨y, hy, _⟩, _⟩ := b; exact absurd hy (a y)
  · exact ⟨rfl, rfl, rfl⟩

end Go.Proofs.Ytlpkheoljbdajaa
