import Derived.Test.YtlpkheoljbdajaaTel
import Derived.Test.YtlpkheoljbdajaaIst
import Derived.Test.YtlpkheoljbdajaaCas
/- Case and IsTruth in the chapter's words. -/
namespace Go.Proofs.Ytlpkheoljbdajaa
open Go.RowKit

section
variable {N : Nat} {bl bh rl rh : Int} {aP aQ aL : Option Addr} {nP cP nQ cQ nL cL : Nat} {ps qs : List (Int × Int)} {ls : List T.T5} {w : World} {n : Int}
theorem T.out_at {b : Bool} {y : Int → Int} {a : Int} {n k : Nat} (h : k < n) : (T.out b y a n).getD k 0 = if b then -(y (a + k)) else y (a + k) := by
  unfold T.out
  rw [List.getD_eq_getElem?_getD, List.getElem?_map, List.getElem?_range h]
  rfl
theorem T.out_mem {b : Bool} {y : Int → Int} {a x : Int} {n : Nat} (h : x ∈ T.out b y a n) : ∃ k : Nat, k < n ∧ x = if b then -(y (a + k)) else y (a + k) := by
  unfold T.out at h
  obtain ⟨k, hk, e⟩ := List.mem_map.1 h
  exact ⟨k, List.mem_range.1 hk, e.symm⟩
/-- the numbers of a truth that is told as three lists -/
theorem T.nto_at {N np nq : Nat} {os pe pa : List Int} (h8 : N ≤ 8) (p4 : np ≤ 4) (h1 : os.length = N) (h2 : pe.length = np) (h3 : pa.length = nq) :
    T.nto os pe pa 3 0 = 0 ∧ (∀ k : Nat, k < N → T.nto os pe pa 3 (1 + (k : Int)) = os.getD k 0) ∧ (∀ k : Nat, k < np → T.nto os pe pa 3 (9 + (k : Int)) = T.neg (pe.getD k 0)) ∧ ∀ k : Nat, k < nq → T.nto os pe pa 3 (13 + (k : Int)) = pa.getD k 0 := by
  refine ⟨T.nto_0 os pe pa, fun k hk => ?_, fun k hk => ?_, fun k hk => ?_⟩
  · show T.lay (T.lay (T.lay (fun _ => 0) 9 (fun k => T.neg (pe.getD k 0)) pe.length) 13 (fun k => pa.getD k 0) pa.length) 1 (fun k => os.getD k 0) os.length _ = _
    simp only [T.lay]
    rw [if_pos (by omega), show (1 + (k : Int) - 1).toNat = k by omega]
  · show T.lay (T.lay (T.lay (fun _ => 0) 9 (fun k => T.neg (pe.getD k 0)) pe.length) 13 (fun k => pa.getD k 0) pa.length) 1 (fun k => os.getD k 0) os.length _ = _
    simp only [T.lay]
    rw [if_neg (by omega), if_neg (by omega), if_pos (by omega), show (9 + (k : Int) - 9).toNat = k by omega]
  · show T.lay (T.lay (T.lay (fun _ => 0) 9 (fun k => T.neg (pe.getD k 0)) pe.length) 13 (fun k => pa.getD k 0) pa.length) 1 (fun k => os.getD k 0) os.length _ = _
    simp only [T.lay]
    rw [if_neg (by omega), if_pos (by omega), show (13 + (k : Int) - 13).toNat = k by omega]
theorem T.tru_bd (hv : T.valid N bl bh rl rh ps qs ls = true) {o : Nat → Bool} {y : Int → Int} (h : T.Tru N bl bh rl rh ps qs ls o y) {i : Int} (hi : T.Alive N ps.length qs.length i) : -200000000 ≤ y i - y 0 ∧ y i - y 0 ≤ 200000000 := by
  obtain ⟨l, u, e, t, b1, _, b2⟩ := T.Tells.ex (o := o) hv T.al_0 hi
  obtain rfl := t.has h
  have := t.yes.1 y h
  omega
/-- numbers laid out as three lists are those numbers -/
theorem T.nto_out (hv : T.valid N bl bh rl rh ps qs ls = true) {o : Nat → Bool} {y : Int → Int} (h : T.Tru N bl bh rl rh ps qs ls o y) (y0 : y 0 = 0) {i : Int} (hi : T.Alive N ps.length qs.length i) : T.nto (T.out false y 1 N) (T.out true y 9 ps.length) (T.out false y 13 qs.length) 3 i = y i := by
  have B := T.valid_bok hv
  obtain ⟨e0, e1, e2, e3⟩ := T.nto_at (N := N) (np := ps.length) (nq := qs.length) B.n8 B.p4 (T.out_len false y 1 N) (T.out_len true y 9 ps.length) (T.out_len false y 13 qs.length)
  have bd := T.tru_bd hv h hi
  rcases hi with rfl | ⟨h1, h2⟩ | ⟨h1, h2⟩ | ⟨h1, h2⟩
  · rw [e0, y0]
  · obtain ⟨k, rfl⟩ : ∃ k : Nat, i = 1 + k := ⟨(i - 1).toNat, by omega⟩
    rw [e1 k (by omega), T.out_at (by omega)]
    rfl
  · obtain ⟨k, rfl⟩ : ∃ k : Nat, i = 9 + k := ⟨(i - 9).toNat, by omega⟩
    rw [e2 k (by omega), T.out_at (by omega), if_pos rfl]
    unfold T.neg
    rw [Int.neg_neg]
    exact IntWalk.i64_in _ (by omega)
  · obtain ⟨k, rfl⟩ : ∃ k : Nat, i = 13 + k := ⟨(i - 13).toNat, by omega⟩
    rw [e3 k (by omega), T.out_at (by omega)]
    rfl
/-- a truth that is told as three lists is told to be one -/
theorem IsTruth_told (hv : T.valid N bl bh rl rh ps qs ls = true) {y : Int → Int} (hy : T.Tr N bl bh rl rh ps qs ls y) (y0 : y 0 = 0) {aO aE aA : Option Addr} {cO cE cA : Nat} (I : Sps w (.slice aP nP cP) ps) (J : Sps w (.slice aQ nQ cQ) qs) (K : Lks w (.slice aL nL cL) ls)
    (IO : Ints w (.slice aO N cO) (T.out false y 1 N)) (IE : Ints w (.slice aE ps.length cE) (T.out true y 9 ps.length)) (IA : Ints w (.slice aA qs.length cA) (T.out false y 13 qs.length)) :
    Calls Try.prog 17 #[BoV (N : Int) bl bh rl rh (.slice aP nP cP) (.slice aQ nQ cQ) (.slice aL nL cL), .agg #[.slice aO N cO, .slice aE ps.length cE, .slice aA qs.length cA]] w fun e w' => e = .returned (.tuple #[.bool true, .int .i64 0]) ∧ Up w w' := by
  have B := T.valid_bok hv
  have l1 := T.out_len false y 1 N
  have l2 := T.out_len true y 9 ps.length
  have l3 := T.out_len false y 13 qs.length
  have q := IsTruth_ok (N := N) (os := T.out false y 1 N) (pe := T.out true y 9 ps.length) (pa := T.out false y 13 qs.length) (aO := aO) (aE := aE) (aA := aA) (cO := cO) (cE := cE) (cA := cA) I J K (by rw [l1]; exact IO) (by rw [l2]; exact IE) (by rw [l3]; exact IA)
    (fun x hx => by
      obtain ⟨k, hk, rfl⟩ := T.out_mem hx
      have := T.tru_bd hv hy (i := 1 + k) (T.al_night ⟨by omega, by omega⟩)
      unfold D.in64
      rw [if_neg (by decide)]
      omega)
    (fun x hx => by
      obtain ⟨k, hk, rfl⟩ := T.out_mem hx
      have := T.tru_bd hv hy (i := 13 + k) (T.al_pth ⟨by omega, by omega⟩)
      unfold D.in64
      rw [if_neg (by decide)]
      omega) hv
  rw [l1, l2, l3] at q
  refine q.mono ?_
  rintro e w' ⟨⟨r, h1, h2⟩, u⟩
  have : r = true := h2.2 ⟨by
    unfold T.fit
    rw [l1, l2, l3]
    simp, (T.sat_tru B).2 (T.Tru.congr (T.looks_alive hv) B.n1 hy fun i hi => T.nto_out hv hy y0 hi)⟩
  subst this
  exact ⟨h1, u⟩
theorem Case_no (hv : T.valid N bl bh rl rh ps qs ls = true) (hn : 0 ≤ n ∧ n < N) (most : Bool) (no : ∀ y, ¬ T.Tr N bl bh rl rh ps qs ls y) (I : Sps w (.slice aP nP cP) ps) (J : Sps w (.slice aQ nQ cQ) qs) (K : Lks w (.slice aL nL cL) ls) :
    Calls Try.prog 30 #[BoV (N : Int) bl bh rl rh (.slice aP nP cP) (.slice aQ nQ cQ) (.slice aL nL cL), .int .i64 n, .bool most] w fun e w' => e = .returned (.tuple #[.agg #[.slice none 0 0, .slice none 0 0, .slice none 0 0], .int .i64 32]) ∧ Up w w' := by
  have B := T.valid_bok hv
  have hq := T.qErr_yes hv (T.askd1 (nP := ps.length) (nQ := qs.length) (k := 2) hn)
  have key : ∀ {up : Bool} {base : Nat} {e : Ending} {w' : World}, T.CaseR N ps.length qs.length (T.web N bl bh rl rh ps qs ls T.o0) up base e w' → e = .returned (.tuple #[.agg #[.slice none 0 0, .slice none 0 0, .slice none 0 0], .int .i64 32]) := fun h => by
    rcases h with ⟨h, _⟩ | ⟨y, _, _, _, _, _, hy, _⟩
    · exact h
    · exact absurd ((T.sat_tru B).1 hy) (no y)
  cases most with
  | true => exact (Case_hi I J K hq).mono fun e w' ⟨h, u⟩ => ⟨key h, u⟩
  | false => exact (Case_lo I J K hq).mono fun e w' ⟨h, u⟩ => ⟨key h, u⟩
/-- what Case answers, as slices: numbers that are a truth, at the night as far to a side as can be -/
def T.CaseT (N np nq : Nat) (P : (Int → Int) → Prop) (i v : Int) (e : Ending) (w' : World) : Prop :=
  ∃ y aO cO aE cE aA cA, e = .returned (.tuple #[.agg #[.slice aO N cO, .slice aE np cE, .slice aA nq cA], .int .i64 0]) ∧ Ints w' (.slice aO N cO) (T.out false y 1 N) ∧ Ints w' (.slice aE np cE) (T.out true y 9 np) ∧ Ints w' (.slice aA nq cA) (T.out false y 13 nq) ∧ P y ∧ y 0 = 0 ∧ y i = v
theorem T.Lay.sl {base : Nat} {w : World} {v : Value} {xs : List Int} {n : Nat} (h : T.Lay base w v xs) (hn : xs.length = n) : ∃ a c, v = .slice a n c ∧ Ints w (.slice a n c) xs := by
  obtain ⟨I, _, _⟩ := h
  obtain ⟨a, c, e, _⟩ := I.is
  subst hn
  exact ⟨a, c, e, e ▸ I⟩
theorem Case_tells (hv : T.valid N bl bh rl rh ps qs ls = true) (hn : 0 ≤ n ∧ n < N) (most : Bool) {lo hi : Int} (t : T.Tells (T.Tr N bl bh rl rh ps qs ls) 0 (1 + n) lo hi 0) (I : Sps w (.slice aP nP cP) ps) (J : Sps w (.slice aQ nQ cQ) qs) (K : Lks w (.slice aL nL cL) ls) :
    Calls Try.prog 30 #[BoV (N : Int) bl bh rl rh (.slice aP nP cP) (.slice aQ nQ cQ) (.slice aL nL cL), .int .i64 n, .bool most] w fun e w' => T.CaseT N ps.length qs.length (T.Tr N bl bh rl rh ps qs ls) (1 + n) (if most then hi else lo) e w' ∧ Up w w' := by
  have B := T.valid_bok hv
  have hq := T.qErr_yes hv (T.askd1 (nP := ps.length) (nQ := qs.length) (k := 2) hn)
  obtain ⟨p, ⟨u, hu, eu⟩, v, hv', ev⟩ := t.yes
  have al : T.Alive N ps.length qs.length (1 + n) := T.al_night hn
  cases most with
  | true =>
    refine (Case_hi I J K hq).mono fun e w' ⟨h, u'⟩ => ⟨?_, u'⟩
    rcases h with ⟨_, hno⟩ | ⟨y, vO, vE, vA, h1, ⟨hO, hE, hA⟩, hy, y0, hz⟩
    · exact absurd ((T.sat_tru B).2 hu) (hno u)
    · have hy' := (T.sat_tru B).1 hy
      obtain ⟨aO, cO, rfl, iO⟩ := hO.sl (T.out_len _ _ _ _)
      obtain ⟨aE, cE, rfl, iE⟩ := hE.sl (T.out_len _ _ _ _)
      obtain ⟨aA, cA, rfl, iA⟩ := hA.sl (T.out_len _ _ _ _)
      refine ⟨y, aO, cO, aE, cE, aA, cA, h1, iO, iE, iA, hy', y0, ?_⟩
      have a1 := p y hy'
      have a2 := hz v ((T.sat_tru B).2 hv') _ al
      rw [if_pos rfl] at a2 ⊢
      omega
  | false =>
    refine (Case_lo I J K hq).mono fun e w' ⟨h, u'⟩ => ⟨?_, u'⟩
    rcases h with ⟨_, hno⟩ | ⟨y, vO, vE, vA, h1, ⟨hO, hE, hA⟩, hy, y0, hz⟩
    · exact absurd ((T.sat_tru B).2 hu) (hno u)
    · have hy' := (T.sat_tru B).1 hy
      obtain ⟨aO, cO, rfl, iO⟩ := hO.sl (T.out_len _ _ _ _)
      obtain ⟨aE, cE, rfl, iE⟩ := hE.sl (T.out_len _ _ _ _)
      obtain ⟨aA, cA, rfl, iA⟩ := hA.sl (T.out_len _ _ _ _)
      refine ⟨y, aO, cO, aE, cE, aA, cA, h1, iO, iE, iA, hy', y0, ?_⟩
      have a1 := p y hy'
      have a2 := hz u ((T.sat_tru B).2 hu) _ al
      rw [if_neg (by decide)] at a2 ⊢
      omega
end

end Go.Proofs.Ytlpkheoljbdajaa
