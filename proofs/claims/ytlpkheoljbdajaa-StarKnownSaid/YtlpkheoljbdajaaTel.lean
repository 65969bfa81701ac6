import Derived.Test.YtlpkheoljbdajaaExq
/- What a book's truths are, and what Offset, Between, Person and Path tell of them. -/
namespace Go.Proofs.Ytlpkheoljbdajaa
open Go.RowKit

/-- numbers that keep to a look -/
def T.HL (y : Int → Int) (x : T.T5) : Prop := x.2.2.2.1 - x.2.2.2.2 ≤ y (1 + x.1) - y (T.fst x.2.1 + x.2.2.1) ∧ y (1 + x.1) - y (T.fst x.2.1 + x.2.2.1) ≤ x.2.2.2.1 + x.2.2.2.2
/-- numbers that are a truth of a book, some looks left out (thing 0 is nothing; personal errors have the other sign) -/
structure T.Tru (N : Nat) (bl bh rl rh : Int) (ps qs : List (Int × Int)) (ls : List T.T5) (o : Nat → Bool) (y : Int → Int) : Prop where
  beg : bl ≤ y 1 - y 0 ∧ y 1 - y 0 ≤ bh
  rat : ∀ k : Nat, k + 1 < N → rl ≤ y (1 + ((k : Int) + 1)) - y (1 + (k : Int)) ∧ y (1 + ((k : Int) + 1)) - y (1 + (k : Int)) ≤ rh
  per : ∀ k : Nat, k < ps.length → (ps.getD k (0, 0)).1 ≤ y 0 - y (9 + (k : Int)) ∧ y 0 - y (9 + (k : Int)) ≤ (ps.getD k (0, 0)).2
  pth : ∀ k : Nat, k < qs.length → (qs.getD k (0, 0)).1 ≤ y (13 + (k : Int)) - y 0 ∧ y (13 + (k : Int)) - y 0 ≤ (qs.getD k (0, 0)).2
  lok : ∀ k : Nat, k < ls.length → o k = false → T.HL y (ls.getD k (0, 0, 0, 0, 0))
abbrev T.Tr (N : Nat) (bl bh rl rh : Int) (ps qs : List (Int × Int)) (ls : List T.T5) : (Int → Int) → Prop := T.Tru N bl bh rl rh ps qs ls T.o0
/-- between what it lies how far one thing is above another one, in all truths; or that there is none -/
def T.Tells (P : (Int → Int) → Prop) (m i : Int) (l h e : Int) : Prop :=
  (e = 0 ∧ (∀ y, P y → l ≤ y i - y m ∧ y i - y m ≤ h) ∧ (∃ y, P y ∧ y i - y m = l) ∧ ∃ y, P y ∧ y i - y m = h) ∨ (e = 32 ∧ l = 0 ∧ h = 0 ∧ ∀ y, ¬ P y)
section
variable {P P' : (Int → Int) → Prop} {m i k m' i' : Int} {l h e l' h' e' a b c d e1 e2 : Int}
theorem T.Tells.err (T1 : T.Tells P m i l h e) : e = 0 ∨ (e = 32 ∧ l = 0 ∧ h = 0) := by
  rcases T1 with ⟨a, _⟩ | ⟨a, b, c, _⟩
  · exact .inl a
  · exact .inr ⟨a, b, c⟩
theorem T.Tells.same (T1 : T.Tells P m i l h e) (T2 : T.Tells P m' i' l' h' e') : e = e' := by
  rcases T1 with ⟨rfl, _, ⟨y, hy, _⟩, _⟩ | ⟨rfl, _, _, hn⟩
  · rcases T2 with ⟨rfl, _⟩ | ⟨_, _, _, hn⟩
    · rfl
    · exact absurd hy (hn y)
  · rcases T2 with ⟨_, _, ⟨y, hy, _⟩, _⟩ | ⟨rfl, _⟩
    · exact absurd hy (hn y)
    · rfl
theorem T.Tells.yes (T1 : T.Tells P m i l h 0) : (∀ y, P y → l ≤ y i - y m ∧ y i - y m ≤ h) ∧ (∃ y, P y ∧ y i - y m = l) ∧ ∃ y, P y ∧ y i - y m = h := by
  rcases T1 with ⟨_, a⟩ | ⟨a, _⟩
  · exact a
  · exact absurd a (by omega)
theorem T.Tells.no (T1 : T.Tells P m i l h e) (he : e ≠ 0) : e = 32 ∧ l = 0 ∧ h = 0 ∧ ∀ y, ¬ P y := by
  rcases T1 with ⟨a, _⟩ | a
  · exact absurd a he
  · exact a
theorem T.Tells.has (T1 : T.Tells P m i l h e) {y : Int → Int} (hy : P y) : e = 0 := by
  rcases T1 with ⟨a, _⟩ | ⟨_, _, _, hn⟩
  · exact a
  · exact absurd hy (hn y)
theorem T.Tells.none (T1 : T.Tells P m i l h e) (hn : ∀ y, ¬ P y) : e = 32 ∧ l = 0 ∧ h = 0 := by
  rcases T1 with ⟨_, _, ⟨y, hy, _⟩, _⟩ | ⟨a, b, c, _⟩
  · exact absurd hy (hn y)
  · exact ⟨a, b, c⟩
theorem T.Tells.ex0 (T1 : T.Tells P m i l h 0) : ∃ y, P y := by
  obtain ⟨_, ⟨y, hy, _⟩, _⟩ := T1.yes
  exact ⟨y, hy⟩
theorem T.Tells.le (T1 : T.Tells P m i l h e) : l ≤ h := by
  rcases T1 with ⟨_, p, ⟨y, hy, _⟩, _⟩ | ⟨_, rfl, rfl, _⟩
  · have := p y hy; omega
  · omega
theorem T.Tells.flip (T1 : T.Tells P m i l h 0) (T2 : T.Tells P i m l' h' e') : e' = 0 ∧ l' = -h ∧ h' = -l := by
  obtain rfl := T1.same T2
  obtain ⟨p, ⟨y, hy, r⟩, z, hz, s⟩ := T1.yes
  obtain ⟨p', ⟨y', hy', r'⟩, z', hz', s'⟩ := T2.yes
  have a1 := p y' hy'
  have a2 := p z' hz'
  have a3 := p' y hy
  have a4 := p' z hz
  refine ⟨rfl, ?_, ?_⟩ <;> omega
theorem T.Tells.tri (T1 : T.Tells P m i l h 0) (T2 : T.Tells P m k a b e1) (T3 : T.Tells P k i c d e2) : e1 = 0 ∧ e2 = 0 ∧ a + c ≤ l ∧ h ≤ b + d := by
  obtain rfl := T1.same T2
  obtain rfl := T1.same T3
  obtain ⟨p, ⟨y, hy, r⟩, z, hz, s⟩ := T1.yes
  have p2 := T2.yes.1
  have p3 := T3.yes.1
  have a1 := p2 y hy
  have a2 := p2 z hz
  have a3 := p3 y hy
  have a4 := p3 z hz
  refine ⟨rfl, rfl, ?_, ?_⟩ <;> omega
theorem T.Tells.self (T1 : T.Tells P m m l h 0) : l = 0 ∧ h = 0 := by
  obtain ⟨p, ⟨y, hy, r⟩, z, hz, s⟩ := T1.yes
  constructor <;> omega
theorem T.Tells.uniq (T1 : T.Tells P m i l h e) (T2 : T.Tells P m i l' h' e') : l = l' ∧ h = h' ∧ e = e' := by
  obtain rfl := T1.same T2
  rcases T1 with ⟨rfl, p, ⟨y, hy, r⟩, z, hz, s⟩ | ⟨rfl, rfl, rfl, _⟩
  · obtain ⟨p', ⟨y', hy', r'⟩, z', hz', s'⟩ := T2.yes
    have a1 := p y' hy'
    have a2 := p z' hz'
    have a3 := p' y hy
    have a4 := p' z hz
    refine ⟨?_, ?_, rfl⟩ <;> omega
  · have q := T2.no (by decide)
    exact ⟨q.2.1.symm, q.2.2.1.symm, rfl⟩
theorem T.Tells.congr (hp : ∀ y, P y ↔ P' y) (T1 : T.Tells P m i l h e) : T.Tells P' m i l h e := by
  obtain rfl : P = P' := funext fun y => propext (hp y)
  exact T1
theorem T.Tells.wider (hm : ∀ y, P y → P' y) (T1 : T.Tells P m i l h e) (T2 : T.Tells P' m i l' h' e') : (e = 32 ∧ l = 0 ∧ h = 0) ∨ (e = 0 ∧ e' = 0 ∧ l' ≤ l ∧ h ≤ h') := by
  rcases T1 with ⟨rfl, p, ⟨y, hy, r⟩, z, hz, s⟩ | ⟨rfl, rfl, rfl, _⟩
  · obtain rfl := T2.has (hm y hy)
    have p' := T2.yes.1
    have a3 := p' y (hm y hy)
    have a4 := p' z (hm z hz)
    refine .inr ⟨rfl, rfl, ?_, ?_⟩ <;> omega
  · exact .inl ⟨rfl, rfl, rfl⟩
/-- truths that are moved: what is told is moved as much -/
theorem T.Tells.moved {s : Int} {f g : (Int → Int) → Int → Int} (hf : ∀ y, P y → P' (f y)) (hg : ∀ y, P' y → P (g y)) (vf : ∀ y, f y i - f y m = y i - y m + s) (vg : ∀ y, g y i - g y m = y i - y m - s) (T1 : T.Tells P m i l h e) : T.Tells P' m i (if e = 0 then l + s else 0) (if e = 0 then h + s else 0) e := by
  rcases T1 with ⟨rfl, p, ⟨y, hy, r⟩, z, hz, q⟩ | ⟨rfl, rfl, rfl, hn⟩
  · rw [if_pos rfl, if_pos rfl]
    refine .inl ⟨rfl, fun u hu => ?_, ⟨f y, hf y hy, by rw [vf, r]⟩, f z, hf z hz, by rw [vf, q]⟩
    have := p _ (hg u hu)
    have := vg u
    omega
  · rw [if_neg (by decide)]
    exact .inr ⟨rfl, rfl, rfl, fun y hy => hn _ (hg y hy)⟩
end
section
variable {N : Nat} {bl bh rl rh : Int} {ps qs : List (Int × Int)} {ls : List T.T5} {o : Nat → Bool}
theorem T.mem_getD {α : Type} {xs : List α} {x d : α} (h : x ∈ xs) : ∃ k, k < xs.length ∧ xs.getD k d = x := by
  obtain ⟨k, hk, e⟩ := List.mem_iff_getElem.1 h
  refine ⟨k, hk, ?_⟩
  rw [List.getD_eq_getElem?_getD, List.getElem?_eq_getElem hk]
  exact e
theorem T.tru_hol (b : T.Bok N bl bh rl rh ps qs ls) {y : Int → Int} : (∀ t ∈ T.ties N bl bh rl rh ps qs ls o, T.Hol y t) ↔ T.Tru N bl bh rl rh ps qs ls o y := by
  constructor
  · intro h
    refine ⟨h _ (T.in_offs List.mem_cons_self), fun k hk => h _ (T.in_offs (List.mem_cons_of_mem _ (T.rng_mem (f := T.nig rl rh) (show k < N - 1 by omega)))), fun k hk => ?_, fun k hk => h _ (T.in_dels (T.rng_mem (f := T.del qs) hk)), fun k hk hok => ?_⟩
    · have q := h _ (T.in_errs (T.rng_mem (f := T.err ps) hk))
      unfold T.Hol T.err at q
      dsimp only at q
      omega
    · have hx := T.getD_mem (d := (0, 0, 0, 0, 0)) hk
      have g := b.look _ hx
      refine h (T.say (ls.getD k (0, 0, 0, 0, 0))) (List.mem_append.2 (.inr (List.mem_flatMap.2 ⟨(ls.getD k (0, 0, 0, 0, 0)).1.toNat, List.mem_range.2 (by omega), List.mem_map.2 ⟨_, ?_, rfl⟩⟩)))
      refine List.mem_map.2 ⟨k, List.mem_filter.2 ⟨List.mem_range.2 hk, ?_⟩, rfl⟩
      unfold T.isAt
      rw [hok]
      simp only [Bool.not_false, Bool.and_true, beq_iff_eq]
      omega
  · intro h t ht
    rcases List.mem_append.1 ht with ht | ht
    · rcases List.mem_append.1 ht with ht | ht
      · rcases List.mem_append.1 ht with ht | ht
        · obtain ⟨k, hk, rfl⟩ := T.mem_rng ht
          have q := h.per k hk
          unfold T.Hol T.err
          dsimp only
          omega
        · obtain ⟨k, hk, rfl⟩ := T.mem_rng ht
          exact h.pth k hk
      · rcases List.mem_cons.1 ht with rfl | ht
        · exact h.beg
        · obtain ⟨k, hk, rfl⟩ := T.mem_rng ht
          exact h.rat k (by omega)
    · obtain ⟨n, _, hn⟩ := List.mem_flatMap.1 ht
      obtain ⟨x, hx, rfl⟩ := List.mem_map.1 hn
      obtain ⟨k, hk, rfl⟩ := List.mem_map.1 hx
      obtain ⟨h1, h2⟩ := List.mem_filter.1 hk
      unfold T.isAt at h2
      rw [Bool.and_eq_true, Bool.not_eq_true'] at h2
      exact h.lok k (List.mem_range.1 h1) h2.2
theorem T.sat_tru (b : T.Bok N bl bh rl rh ps qs ls) {y : Int → Int} : T.Sat true (T.web N bl bh rl rh ps qs ls o) y ↔ T.Tru N bl bh rl rh ps qs ls o y := (T.sat_is b).trans (T.tru_hol b)
theorem T.tells_asked (b : T.Bok N bl bh rl rh ps qs ls) {m i l h e : Int} : T.Asked (T.web N bl bh rl rh ps qs ls o) m i l h e ↔ T.Tells (T.Tru N bl bh rl rh ps qs ls o) m i l h e := by
  unfold T.Tells T.Asked T.Told
  simp only [T.sat_tru b]
theorem T.asked_ex {ts : List T.T4} {A : Int → Prop} (W : T.Wok ts A) {m i : Int} (hm : A m) (hi : A i) : ∃ l h e, T.Asked ts m i l h e ∧ -200000000 ≤ l ∧ h ≤ 200000000 := by
  obtain ⟨cs, r, hF⟩ := T.from_ex W.tin W.len m
  rcases hF.told W hm with ⟨_, lo, hi', _, q, _⟩ | ⟨_, _, hno⟩
  · obtain ⟨q1, q2, q3⟩ := q i hi
    exact ⟨_, _, 0, .inl ⟨rfl, q1⟩, q2, q3⟩
  · exact ⟨0, 0, 32, .inr ⟨rfl, rfl, rfl, hno⟩, by omega, by omega⟩
theorem T.Tells.ex (hv : T.valid N bl bh rl rh ps qs ls = true) {m i : Int} (hm : T.Alive N ps.length qs.length m) (hi : T.Alive N ps.length qs.length i) : ∃ l h e, T.Tells (T.Tru N bl bh rl rh ps qs ls o) m i l h e ∧ -200000000 ≤ l ∧ l ≤ h ∧ h ≤ 200000000 := by
  obtain ⟨l, h, e, q, q1, q2⟩ := T.asked_ex (T.valid_web hv o) hm hi
  have t := (T.tells_asked (T.valid_bok hv)).1 q
  exact ⟨l, h, e, t, q1, t.le, q2⟩
/-- all that lies on a truth moved as one is a truth -/
theorem T.Tru.norm {y : Int → Int} (h : T.Tru N bl bh rl rh ps qs ls o y) : T.Tru N bl bh rl rh ps qs ls o (fun i => y i - y 0) := by
  refine ⟨by have := h.beg; omega, fun k hk => by have := h.rat k hk; omega, fun k hk => by have := h.per k hk; omega, fun k hk => by have := h.pth k hk; omega, fun k hk ho => ?_⟩
  have := h.lok k hk ho
  unfold T.HL at this ⊢
  dsimp only
  omega
theorem T.Tru.congr (hv : ∀ x ∈ ls, ∀ i, i = 1 + x.1 ∨ i = T.fst x.2.1 + x.2.2.1 → T.Alive N ps.length qs.length i) (h1 : 1 ≤ N) {y z : Int → Int} (h : T.Tru N bl bh rl rh ps qs ls o y) (e : ∀ i, T.Alive N ps.length qs.length i → z i = y i) : T.Tru N bl bh rl rh ps qs ls o z := by
  have e0 : z 0 = y 0 := e 0 (.inl rfl)
  refine ⟨?_, fun k hk => ?_, fun k hk => ?_, fun k hk => ?_, fun k hk ho => ?_⟩
  · rw [e0, e 1 (.inr (.inl ⟨by omega, by omega⟩))]; exact h.beg
  · rw [e _ (.inr (.inl ⟨by omega, by omega⟩)), e (1 + (k : Int)) (.inr (.inl ⟨by omega, by omega⟩))]; exact h.rat k hk
  · rw [e0, e _ (.inr (.inr (.inl ⟨by omega, by omega⟩)))]; exact h.per k hk
  · rw [e0, e _ (.inr (.inr (.inr ⟨by omega, by omega⟩)))]; exact h.pth k hk
  · have q := h.lok k hk ho
    have hx := T.getD_mem (d := (0, 0, 0, 0, 0)) hk
    unfold T.HL at q ⊢
    rw [e _ (hv _ hx _ (.inl rfl)), e _ (hv _ hx _ (.inr rfl))]
    exact q
theorem T.looks_alive (hv : T.valid N bl bh rl rh ps qs ls = true) : ∀ x ∈ ls, ∀ i, i = 1 + x.1 ∨ i = T.fst x.2.1 + x.2.2.1 → T.Alive N ps.length qs.length i := fun x hx i hi => by
  have b := T.valid_bok hv
  obtain ⟨h1, h2, h3, _⟩ := b.look _ hx
  have hw := T.valid_who hv x hx
  obtain ⟨n, k, v, r, e⟩ := x
  dsimp only at h1 h2 h3 hw hi
  rcases hi with rfl | rfl
  · exact .inr (.inl ⟨by omega, by omega⟩)
  · rcases h2 with rfl | rfl
    · have hv' : v < (ps.length : Int) := hw
      exact .inr (.inr (.inl ⟨by show 9 ≤ 9 + v; omega, by show 9 + v < _; omega⟩))
    · have hv' : v < (qs.length : Int) := hw
      exact .inr (.inr (.inr ⟨by show 13 ≤ 13 + v; omega, by show 13 + v < _; omega⟩))
end
section
variable {N : Nat} {bl bh rl rh : Int} {aP aQ aL : Option Addr} {nP cP nQ cQ nL cL : Nat} {ps qs : List (Int × Int)} {ls : List T.T5} {w : World} {n j lo hi eE : Int}
theorem T.askd1 {nP nQ : Nat} {M k n : Int} (h : 0 ≤ n ∧ n < T.many nP nQ M k) : T.askd nP nQ M k [n] = true := by
  simp only [T.askd, List.all_cons, List.all_nil, Bool.and_true, inB_iff]
  omega
theorem T.askd2 {nP nQ : Nat} {M k n j : Int} (h : 0 ≤ n ∧ n < T.many nP nQ M k) (h' : 0 ≤ j ∧ j < T.many nP nQ M k) : T.askd nP nQ M k [n, j] = true := by
  simp only [T.askd, List.all_cons, List.all_nil, Bool.and_true, Bool.and_eq_true, inB_iff]
  omega
theorem T.qErr_yes {M k : Int} {cl : List Int} (hv : T.valid M bl bh rl rh ps qs ls = true) (ha : T.askd ps.length qs.length M k cl = true) : T.qErr M bl bh rl rh ps qs ls k cl = 0 := by
  unfold T.qErr
  rw [if_pos hv, if_pos ha]
theorem Offset_tells (hv : T.valid N bl bh rl rh ps qs ls = true) (hn : 0 ≤ n ∧ n < N) (q : T.Tells (T.Tr N bl bh rl rh ps qs ls) 0 (1 + n) lo hi eE) (I : Sps w (.slice aP nP cP) ps) (J : Sps w (.slice aQ nQ cQ) qs) (K : Lks w (.slice aL nL cL) ls) :
    Calls Try.prog 24 #[BoV (N : Int) bl bh rl rh (.slice aP nP cP) (.slice aQ nQ cQ) (.slice aL nL cL), .int .i64 n] w fun e w' => e = .returned (.tuple #[SpV lo hi, .int .i64 eE]) ∧ Up w w' :=
  Offset_ok I J K (T.qErr_yes hv (T.askd1 (k := 2) hn)) ((T.tells_asked (T.valid_bok hv)).2 q)
theorem Between_tells (hv : T.valid N bl bh rl rh ps qs ls = true) (hn : 0 ≤ n ∧ n < N) (hj : 0 ≤ j ∧ j < N) (q : T.Tells (T.Tr N bl bh rl rh ps qs ls) (1 + n) (1 + j) lo hi eE) (I : Sps w (.slice aP nP cP) ps) (J : Sps w (.slice aQ nQ cQ) qs) (K : Lks w (.slice aL nL cL) ls) :
    Calls Try.prog 21 #[BoV (N : Int) bl bh rl rh (.slice aP nP cP) (.slice aQ nQ cQ) (.slice aL nL cL), .int .i64 n, .int .i64 j] w fun e w' => e = .returned (.tuple #[SpV lo hi, .int .i64 eE]) ∧ Up w w' :=
  Between_ok I J K (T.qErr_yes hv (T.askd2 (k := 2) hn hj)) ((T.tells_asked (T.valid_bok hv)).2 q)
theorem Person_tells (hv : T.valid N bl bh rl rh ps qs ls = true) (hn : 0 ≤ n ∧ n < ps.length) (q : T.Tells (T.Tr N bl bh rl rh ps qs ls) (9 + n) 0 lo hi eE) (I : Sps w (.slice aP nP cP) ps) (J : Sps w (.slice aQ nQ cQ) qs) (K : Lks w (.slice aL nL cL) ls) :
    Calls Try.prog 26 #[BoV (N : Int) bl bh rl rh (.slice aP nP cP) (.slice aQ nQ cQ) (.slice aL nL cL), .int .i64 n] w fun e w' => e = .returned (.tuple #[SpV lo hi, .int .i64 eE]) ∧ Up w w' :=
  Person_ok I J K (T.qErr_yes hv (T.askd1 (k := 0) hn)) ((T.tells_asked (T.valid_bok hv)).2 q)
theorem Path_tells (hv : T.valid N bl bh rl rh ps qs ls = true) (hn : 0 ≤ n ∧ n < qs.length) (q : T.Tells (T.Tr N bl bh rl rh ps qs ls) 0 (13 + n) lo hi eE) (I : Sps w (.slice aP nP cP) ps) (J : Sps w (.slice aQ nQ cQ) qs) (K : Lks w (.slice aL nL cL) ls) :
    Calls Try.prog 28 #[BoV (N : Int) bl bh rl rh (.slice aP nP cP) (.slice aQ nQ cQ) (.slice aL nL cL), .int .i64 n] w fun e w' => e = .returned (.tuple #[SpV lo hi, .int .i64 eE]) ∧ Up w w' :=
  Path_ok I J K (T.qErr_yes hv (T.askd1 (k := 1) hn)) ((T.tells_asked (T.valid_bok hv)).2 q)
end
theorem T.al_night {N np nq : Nat} {n : Int} (h : 0 ≤ n ∧ n < N) : T.Alive N np nq (1 + n) := .inr (.inl ⟨by omega, by omega⟩)
theorem T.al_per {N np nq : Nat} {n : Int} (h : 0 ≤ n ∧ n < np) : T.Alive N np nq (9 + n) := .inr (.inr (.inl ⟨by omega, by omega⟩))
theorem T.al_pth {N np nq : Nat} {n : Int} (h : 0 ≤ n ∧ n < nq) : T.Alive N np nq (13 + n) := .inr (.inr (.inr ⟨by omega, by omega⟩))
theorem T.al_0 {N np nq : Nat} : T.Alive N np nq 0 := .inl rfl

end Go.Proofs.Ytlpkheoljbdajaa
