import Derived.Test.YtlpkheoljbdajaaCst
import Derived.Test.YtlpkheoljbdajaaFws
import Derived.Test.YtlpkheoljbdajaaSou
import Derived.Test.YtlpkheoljbdajaaBsc
import Derived.Test.YtlpkheoljbdajaaRfM
import Derived.Test.YtlpkheoljbdajaaTrt
import Derived.Test.YtlpkheoljbdajaaAp2
import Derived.Test.YtlpkheoljbdajaaBkE
import Derived.Test.YtlpkheoljbdajaaWth
import Derived.Test.YtlpkheoljbdajaaHeQ
import Derived.Test.YtlpkheoljbdajaaHst
/- What a book's truth truly was, as the laws' was chooses it: the mathematics. -/
namespace Go.Proofs.Ytlpkheoljbdajaa
open Go.RowKit

/-- the truth that three lists tell -/
def T.wsY (L E Q : List Int) (i : Int) : Int := if i < 1 then 0 else if i < 9 then L.getD (i - 1).toNat 0 else if i < 13 then -(E.getD (i - 9).toNat 0) else Q.getD (i - 13).toNat 0
section
variable {L E Q : List Int}
theorem T.wsY_0 : T.wsY L E Q 0 = 0 := rfl
theorem T.wsY_n {k : Nat} (h : k < 8) : T.wsY L E Q (1 + (k : Int)) = L.getD k 0 := by
  unfold T.wsY
  rw [if_neg (by omega), if_pos (by omega), show (1 + (k : Int) - 1).toNat = k by omega]
theorem T.wsY_p {k : Nat} (h : k < 4) : T.wsY L E Q (9 + (k : Int)) = -(E.getD k 0) := by
  unfold T.wsY
  rw [if_neg (by omega), if_neg (by omega), if_pos (by omega), show (9 + (k : Int) - 9).toNat = k by omega]
theorem T.wsY_q {k : Nat} : T.wsY L E Q (13 + (k : Int)) = Q.getD k 0 := by
  unfold T.wsY
  rw [if_neg (by omega), if_neg (by omega), if_neg (by omega), show (13 + (k : Int) - 13).toNat = k by omega]
theorem T.wsY_out {b : Bool} {a : Int} {X : List Int} {n : Nat} (hl : X.length = n) (h : ∀ k : Nat, k < n → T.wsY L E Q (a + k) = if b then -(X.getD k 0) else X.getD k 0) : X = T.out b (T.wsY L E Q) a n := by
  subst hl
  refine List.ext_getElem (T.out_len _ _ _ _).symm fun k h1 h2 => ?_
  have q := T.out_at (b := b) (y := T.wsY L E Q) (a := a) h1
  rw [List.getD_eq_getElem?_getD, List.getElem?_eq_getElem h2, Option.getD_some, h k h1, List.getD_eq_getElem?_getD, List.getElem?_eq_getElem h1, Option.getD_some] at q
  rw [q]
  cases b <;> simp
end
/-- the offsets so far -/
structure T.WsL (bl bh rl rh : Int) (L : List Int) (k : Nat) : Prop where
  len : L.length = k
  beg : 0 < k → bl ≤ L.getD 0 0 ∧ L.getD 0 0 ≤ bh
  step : ∀ i : Nat, i + 1 < k → rl ≤ L.getD (i + 1) 0 - L.getD i 0 ∧ L.getD (i + 1) 0 - L.getD i 0 ≤ rh
theorem T.WsL.nil {bl bh rl rh : Int} : T.WsL bl bh rl rh [] 0 := ⟨rfl, fun h => absurd h (by decide), fun i h => absurd h (by omega)⟩
theorem T.getD_snoc {L : List Int} {v : Int} {k : Nat} (hl : L.length = k) : (L ++ [v]).getD k 0 = v ∧ ∀ i, i < k → (L ++ [v]).getD i 0 = L.getD i 0 := by
  subst hl
  refine ⟨?_, fun i hi => ?_⟩
  · rw [List.getD_eq_getElem?_getD, List.getElem?_append_right (Nat.le_refl _), Nat.sub_self]; rfl
  · rw [List.getD_eq_getElem?_getD, List.getD_eq_getElem?_getD, List.getElem?_append_left hi]
theorem T.WsL.snoc {bl bh rl rh : Int} {L : List Int} {k : Nat} {v : Int} (h : T.WsL bl bh rl rh L k) (h0 : k = 0 → bl ≤ v ∧ v ≤ bh) (h1 : 0 < k → rl ≤ v - L.getD (k - 1) 0 ∧ v - L.getD (k - 1) 0 ≤ rh) : T.WsL bl bh rl rh (L ++ [v]) (k + 1) := by
  obtain ⟨e1, e2⟩ := T.getD_snoc (v := v) h.len
  refine ⟨by rw [List.length_append, h.len]; rfl, fun _ => ?_, fun i hi => ?_⟩
  · by_cases e : k = 0
    · subst e; rw [e1]; exact h0 rfl
    · rw [e2 0 (by omega)]; exact h.beg (by omega)
  · by_cases e : i + 1 = k
    · rw [e, e1, e2 i (by omega)]
      have := h1 (by omega)
      rwa [show k - 1 = i by omega] at this
    · rw [e2 _ (by omega), e2 i (by omega)]
      exact h.step i (by omega)
theorem T.WsL.bd {bl bh rl rh : Int} {L : List Int} {k : Nat} (h : T.WsL bl bh rl rh L k) (hb : -20000 ≤ bl ∧ bh ≤ 20000) (hr : -1000 ≤ rl ∧ rh ≤ 1000) : ∀ i : Nat, i < k → -(20000 + 1000 * (i : Int)) ≤ L.getD i 0 ∧ L.getD i 0 ≤ 20000 + 1000 * (i : Int)
  | 0, hi => by have := h.beg hi; omega
  | i + 1, hi => by
    have a := T.WsL.bd h hb hr i (by omega)
    have b := h.step i hi
    omega
/-- numbers so far, each from its span -/
def T.WsE (ps : List (Int × Int)) (E : List Int) (k : Nat) : Prop := E.length = k ∧ ∀ i, i < k → (ps.getD i (0, 0)).1 ≤ E.getD i 0 ∧ E.getD i 0 ≤ (ps.getD i (0, 0)).2
theorem T.WsE.nil {ps : List (Int × Int)} : T.WsE ps [] 0 := ⟨rfl, fun i h => absurd h (by omega)⟩
theorem T.WsE.snoc {ps : List (Int × Int)} {E : List Int} {k : Nat} {v : Int} (h : T.WsE ps E k) (hv : (ps.getD k (0, 0)).1 ≤ v ∧ v ≤ (ps.getD k (0, 0)).2) : T.WsE ps (E ++ [v]) (k + 1) := by
  obtain ⟨e1, e2⟩ := T.getD_snoc (v := v) h.1
  refine ⟨by rw [List.length_append, h.1]; rfl, fun i hi => ?_⟩
  by_cases e : i = k
  · rw [e, e1]; exact hv
  · rw [e2 i (by omega)]; exact h.2 i (by omega)
/-- looks that are true of what was chosen -/
def T.WsK (nP nQ : Nat) (N : Int) (y : Int → Int) (ls : List T.T5) (k : Nat) : Prop := ls.length ≤ k ∧ ∀ x ∈ ls, T.lookOk nP nQ N x = true ∧ T.HL y x
theorem T.WsK.nil {nP nQ : Nat} {N : Int} {y : Int → Int} {k : Nat} : T.WsK nP nQ N y [] k := ⟨Nat.zero_le _, fun _ h => absurd h List.not_mem_nil⟩
theorem T.WsK.no {nP nQ k : Nat} {N : Int} {y : Int → Int} {ls : List T.T5} (h : T.WsK nP nQ N y ls k) : T.WsK nP nQ N y ls (k + 1) := ⟨Nat.le_succ_of_le h.1, h.2⟩
theorem T.WsK.put {nP nQ k : Nat} {N : Int} {y : Int → Int} {ls : List T.T5} {x : T.T5} (h : T.WsK nP nQ N y ls k) (h1 : T.lookOk nP nQ N x = true) (h2 : T.HL y x) : T.WsK nP nQ N y (ls ++ [x]) (k + 1) := by
  refine ⟨by rw [List.length_append]; exact Nat.succ_le_succ h.1, fun z hz => ?_⟩
  rcases List.mem_append.1 hz with q | q
  · exact h.2 z q
  · rw [List.mem_singleton.1 q]; exact ⟨h1, h2⟩
/-- a look's reading is chosen anew: it stays a look, and is kept just where it is true -/
def T.wsC (x : Int) : Int := Max.max (-30000) (Min.min 30000 x)
theorem T.wsC_bd (x : Int) : -30000 ≤ T.wsC x ∧ T.wsC x ≤ 30000 := by unfold T.wsC; omega
theorem T.look_re {nP nQ : Nat} {N n kd w r e r' : Int} (h : T.lookOk nP nQ N (n, kd, w, r, e) = true) (hr : -30000 ≤ r' ∧ r' ≤ 30000) : T.lookOk nP nQ N (n, kd, w, r', e) = true := by
  unfold T.lookOk at h ⊢
  simp only [Bool.and_eq_true, inB_iff] at h ⊢
  exact ⟨h.1, h.2.1, h.2.2.1, hr, h.2.2.2.2⟩
section
variable {N : Nat} {bl bh rl rh : Int} {ps qs : List (Int × Int)} {ls ls' : List T.T5} {L E Q : List Int}
/-- where a look is read: the offset of its night against its frame -/
theorem T.ws_at {n w : Nat} {kd r e : Int} (hn : n < 8) (hw : w < 4) (hk : kd = 0 ∨ kd = 1) (at_ : Int) (ha : at_ = if kd = 0 then L.getD n 0 + E.getD w 0 else L.getD n 0 - Q.getD w 0) : T.HL (T.wsY L E Q) ((n : Int), kd, (w : Int), r, e) ↔ r - e ≤ at_ ∧ at_ ≤ r + e := by
  subst ha
  unfold T.HL
  simp only
  rw [T.wsY_n hn]
  rcases hk with rfl | rfl
  · rw [if_pos rfl, show T.fst 0 + (w : Int) = 9 + (w : Int) from rfl, T.wsY_p hw]
    omega
  · rw [if_neg (by decide), show T.fst 1 + (w : Int) = 13 + (w : Int) from rfl, T.wsY_q]
theorem T.ws_tru (hv : T.valid (N : Int) bl bh rl rh ps qs ls = true) (hL : T.WsL bl bh rl rh L N) (hE : T.WsE ps E ps.length) (hQ : T.WsE qs Q qs.length) (hK : T.WsK ps.length qs.length N (T.wsY L E Q) ls' ls.length) :
    T.valid (N : Int) bl bh rl rh ps qs ls' = true ∧ T.Tr N bl bh rl rh ps qs ls' (T.wsY L E Q) ∧ L = T.out false (T.wsY L E Q) 1 N ∧ E = T.out true (T.wsY L E Q) 9 ps.length ∧ Q = T.out false (T.wsY L E Q) 13 qs.length := by
  have B := T.valid_bok hv
  have n1 := B.n1
  have n8 := B.n8
  have p4 := B.p4
  have q4 := B.q4
  have l10 := B.l10
  refine ⟨T.valid_looks hv (by have := hK.1; omega) (fun x hx => (hK.2 x hx).1), ⟨?_, fun k hk => ?_, fun k hk => ?_, fun k hk => ?_, fun k hk _ => ?_⟩, ?_, ?_, ?_⟩
  · have := hL.beg (by omega)
    rw [show (1 : Int) = 1 + ((0 : Nat) : Int) from rfl, T.wsY_n (by omega), T.wsY_0]
    omega
  · have := hL.step k hk
    rw [show (1 : Int) + ((k : Int) + 1) = 1 + ((k + 1 : Nat) : Int) by omega, T.wsY_n (by omega), T.wsY_n (by omega)]
    exact this
  · have := hE.2 k hk
    rw [T.wsY_p (by omega), T.wsY_0]
    omega
  · have := hQ.2 k hk
    rw [T.wsY_q, T.wsY_0]
    omega
  · exact (hK.2 _ (T.getD_mem hk)).2
  · refine T.wsY_out hL.len fun k hk => ?_
    rw [T.wsY_n (by omega)]
    rfl
  · refine T.wsY_out hE.1 fun k hk => ?_
    rw [T.wsY_p (by omega)]
    rfl
  · refine T.wsY_out hQ.1 fun k hk => ?_
    rw [T.wsY_q]
    rfl
end

end Go.Proofs.Ytlpkheoljbdajaa

/- The contract of the laws' was. -/
namespace Go.Proofs.Ytlpkheoljbdajaa
open Go.RowKit Go.Shelf
attribute [local go_sem] Oper.semAt_some

section
variable {bl bh rl rh : Int} {aP aQ aL : Option Addr} {nP cP nQ cQ nL cL : Nat} {ps qs : List (Int × Int)} {ls : List T.T5}
theorem T.row_num {w : World} {base n c : Nat} {a : Option Addr} {xs : List Int} (ho : w.ownsRow base 3 1 (.slice a n c) n (T.flat 1 T.encI xs)) (hn : n ≤ 1000000) {k : Nat} (hk : k < n) : ∃ g off, a = some ⟨g, off, none⟩ ∧ w.cell? ⟨g, off + k, none⟩ = some (.int .i64 (xs.getD k 0)) := by
  obtain ⟨a', c', e, hl, I, _⟩ := Ints.of_row ho hn
  injection e with e1 e2 e3
  subst e1
  obtain ⟨a2, c2, e4, _, _, hm⟩ := I.is
  injection e4 with e5 e6 e7
  obtain ⟨g, off, e8, _, hx⟩ := hm (by omega)
  exact ⟨g, off, by rw [e5, e8], hx k (by omega)⟩
theorem T.ints_row {w : World} {base n c : Nat} {a : Option Addr} {xs : List Int} (ho : w.ownsRow base 3 1 (.slice a n c) n (T.flat 1 T.encI xs)) (hn : n ≤ 1000000) : Ints w (.slice a n c) xs := by
  obtain ⟨a', c', e, hl, I, _⟩ := Ints.of_row ho hn
  obtain ⟨a3, c3, e3, h3, _⟩ := row_val ho
  injection e with e1 e2 e4
  injection e3 with f1 f2 f4
  subst e1
  obtain ⟨a2, c2, e5, h5, h6, hm⟩ := I.is
  injection e5 with e6 e7 e8
  subst e6
  exact ⟨a, c, by rw [hl], by omega, h6, hm⟩
set_option maxRecDepth 100000 in
set_option maxHeartbeats 8000000 in
set_option linter.unusedSimpArgs false in
theorem l_was_any {w : World} {N : Nat} {vx : Value} {xs : List Int} (I : Sps w (.slice aP nP cP) ps) (J : Sps w (.slice aQ nQ cQ) qs) (K : Lks w (.slice aL nL cL) ls) (IX : Ints w vx xs) (hv : T.valid (N : Int) bl bh rl rh ps qs ls = true) :
    Calls Try.prog 39 #[BoV (N : Int) bl bh rl rh (.slice aP nP cP) (.slice aQ nQ cQ) (.slice aL nL cL), vx] w fun e w' => (∃ (y : Int → Int) (ls' : List T.T5) (aO aE aA aL' : Option Addr) (cO cE cA cL' : Nat), e = .returned (.tuple #[.agg #[.slice aO N cO, .slice aE ps.length cE, .slice aA qs.length cA], BoV (N : Int) bl bh rl rh (.slice aP nP cP) (.slice aQ nQ cQ) (.slice aL' ls'.length cL')]) ∧ Lks w' (.slice aL' ls'.length cL') ls' ∧ Ints w' (.slice aO N cO) (T.out false y 1 N) ∧ Ints w' (.slice aE ps.length cE) (T.out true y 9 ps.length) ∧ Ints w' (.slice aA qs.length cA) (T.out false y 13 qs.length) ∧ T.valid (N : Int) bl bh rl rh ps qs ls' = true ∧ T.Tr N bl bh rl rh ps qs ls' y ∧ y 0 = 0) ∧ Up w w' := by
  have hmx : Try.prog.follows .mixedOrders = true := by kernel_rfl
  have hn := I.len
  have hno := J.len
  have hnp := K.len
  subst hn hno hnp
  obtain ⟨⟨hN, hB, hR⟩, ⟨h4, h5, h10⟩, hP, hQ, hLk⟩ := T.valid_parts hv
  have HI := Lib.hid (fun w' (u : Up w w') => I.up u)
  have HJ := Lib.hid (fun w' (u : Up w w') => J.up u)
  have HK := Lib.hid (fun w' (u : Up w w') => K.up u)
  have HX := Lib.hid (fun w' (u : Up w w') => IX.up u)
  have HV := Lib.hid hv
  have HBR := Lib.hid (And.intro hB hR)
  have HPQ := Lib.hid (And.intro hP (And.intro hQ hLk))
  have HAt := Lib.hid (fun w' (u : Up w w') n => B_At_any (IX.up u) n)
  have HFb := Lib.hid (fun n w' => B_From_any bl bh n w' (by omega) (by omega) (by omega) (by omega))
  have HFr := Lib.hid (fun n w' => B_From_any rl rh n w' (by omega) (by omega) (by omega) (by omega))
  have n18 : 1 ≤ N ∧ N ≤ 8 := by omega
  have p4 : ps.length ≤ 4 := h4
  have q4 : qs.length ≤ 4 := h5
  have l10 : ls.length ≤ 10 := h10
  clear I J K IX hv hP hQ hLk hB hR hN h4 h5 h10
  go_enter Try.func39, Try.ntmps39
  obtain ⟨q0, e0⟩ : ∃ x, w.heap.size = x := ⟨_, rfl⟩
  have kB := (blk_keep (.cells #[.slice none 0 0, .slice none 0 0, .slice none 0 0] 30) (blk_keep (.cells (BoC (N : Int) bl bh rl rh (.slice aP ps.length cP) (.slice aQ qs.length cQ) (.slice none 0 0)) 27) (blk_keep (.cells #[.int .i64 0, .int .i64 0, .int .i64 0, .int .i64 0, .int .i64 0, .slice none 0 0, .slice none 0 0, .slice none 0 0] 27) (blk_keep (.cells #[.slice none 0 0, .slice none 0 0, .slice none 0 0] 30) (blk_new w (.cells (BoC (N : Int) bl bh rl rh (.slice aP ps.length cP) (.slice aQ qs.length cQ) (.slice aL ls.length cL)) 27) (q0) e0.symm)))))
  have kT := (blk_keep (.cells #[.slice none 0 0, .slice none 0 0, .slice none 0 0] 30) (blk_keep (.cells (BoC (N : Int) bl bh rl rh (.slice aP ps.length cP) (.slice aQ qs.length cQ) (.slice none 0 0)) 27) (blk_keep (.cells #[.int .i64 0, .int .i64 0, .int .i64 0, .int .i64 0, .int .i64 0, .slice none 0 0, .slice none 0 0, .slice none 0 0] 27) (blk_new (w.alloc (.cells (BoC (N : Int) bl bh rl rh (.slice aP ps.length cP) (.slice aQ qs.length cQ) (.slice aL ls.length cL)) 27)) (.cells #[.slice none 0 0, .slice none 0 0, .slice none 0 0] 30) (q0 + 1) (by simp [e0])))))
  have kC := (blk_keep (.cells #[.slice none 0 0, .slice none 0 0, .slice none 0 0] 30) (blk_keep (.cells (BoC (N : Int) bl bh rl rh (.slice aP ps.length cP) (.slice aQ qs.length cQ) (.slice none 0 0)) 27) (blk_new ((w.alloc (.cells (BoC (N : Int) bl bh rl rh (.slice aP ps.length cP) (.slice aQ qs.length cQ) (.slice aL ls.length cL)) 27)).alloc (.cells #[.slice none 0 0, .slice none 0 0, .slice none 0 0] 30)) (.cells #[.int .i64 0, .int .i64 0, .int .i64 0, .int .i64 0, .int .i64 0, .slice none 0 0, .slice none 0 0, .slice none 0 0] 27) (q0 + 1 + 1) (by simp [e0]))))
  have k6 := (blk_keep (.cells #[.slice none 0 0, .slice none 0 0, .slice none 0 0] 30) (blk_new (((w.alloc (.cells (BoC (N : Int) bl bh rl rh (.slice aP ps.length cP) (.slice aQ qs.length cQ) (.slice aL ls.length cL)) 27)).alloc (.cells #[.slice none 0 0, .slice none 0 0, .slice none 0 0] 30)).alloc (.cells #[.int .i64 0, .int .i64 0, .int .i64 0, .int .i64 0, .int .i64 0, .slice none 0 0, .slice none 0 0, .slice none 0 0] 27)) (.cells (BoC (N : Int) bl bh rl rh (.slice aP ps.length cP) (.slice aQ qs.length cQ) (.slice none 0 0)) 27) (q0 + 1 + 1 + 1) (by simp [e0])))
  have k7 := (blk_new ((((w.alloc (.cells (BoC (N : Int) bl bh rl rh (.slice aP ps.length cP) (.slice aQ qs.length cQ) (.slice aL ls.length cL)) 27)).alloc (.cells #[.slice none 0 0, .slice none 0 0, .slice none 0 0] 30)).alloc (.cells #[.int .i64 0, .int .i64 0, .int .i64 0, .int .i64 0, .int .i64 0, .slice none 0 0, .slice none 0 0, .slice none 0 0] 27)).alloc (.cells (BoC (N : Int) bl bh rl rh (.slice aP ps.length cP) (.slice aQ qs.length cQ) (.slice none 0 0)) 27)) (.cells #[.slice none 0 0, .slice none 0 0, .slice none 0 0] 30) (q0 + 1 + 1 + 1 + 1) (by simp [e0]))
  have U := ((((((Up.refl w).alloc (.cells (BoC (N : Int) bl bh rl rh (.slice aP ps.length cP) (.slice aQ qs.length cQ) (.slice aL ls.length cL)) 27)).alloc (.cells #[.slice none 0 0, .slice none 0 0, .slice none 0 0] 30)).alloc (.cells #[.int .i64 0, .int .i64 0, .int .i64 0, .int .i64 0, .int .i64 0, .slice none 0 0, .slice none 0 0, .slice none 0 0] 27)).alloc (.cells (BoC (N : Int) bl bh rl rh (.slice aP ps.length cP) (.slice aQ qs.length cQ) (.slice none 0 0)) 27)).alloc (.cells #[.slice none 0 0, .slice none 0 0, .slice none 0 0] 30))
  go_wp2_with fail
  obtain ⟨X0, hX0⟩ : ∃ z, (((((w.alloc (.cells (BoC (N : Int) bl bh rl rh (.slice aP ps.length cP) (.slice aQ qs.length cQ) (.slice aL ls.length cL)) 27)).alloc (.cells #[.slice none 0 0, .slice none 0 0, .slice none 0 0] 30)).alloc (.cells #[.int .i64 0, .int .i64 0, .int .i64 0, .int .i64 0, .int .i64 0, .slice none 0 0, .slice none 0 0, .slice none 0 0] 27)).alloc (.cells (BoC (N : Int) bl bh rl rh (.slice aP ps.length cP) (.slice aQ qs.length cQ) (.slice none 0 0)) 27)).alloc (.cells #[.slice none 0 0, .slice none 0 0, .slice none 0 0] 30)) = z := ⟨_, rfl⟩
  rw [hX0] at U kB kT kC k6 k7
  try rw [hX0]
  clear hX0
  have HU := Lib.hid U
  have F2 := Lib.hid (fun w (u : Up X0 w) => cellB (u.blk kB))
  have F3 := Lib.hid (fun w (u : Up X0 w) => cellB (u.blk kT))
  have F4 := Lib.hid (fun w (u : Up X0 w) => cellB (u.blk kC))
  have F5 := Lib.hid (fun w (u : Up X0 w) => cellB (u.blk k6))
  have F6 := Lib.hid (fun w (u : Up X0 w) => cellB (u.blk k7))
  refine (wpIn_wide (n := 5)).1 ?_
  refine wpIn_nrm ?_
  refine T.regionQ (fun w' => Up X0 w') 5 1 hmx (by kernel_rfl) (by kernel_rfl) ((Up.refl X0).drew) (fun hCl => ?_)
  refine T.qT 0 (some 17) ?v1 rfl rfl hCl ?hy1 (fun hCl' => ?_)
  case hy1 => (intro w hSw; refine T.qVal ?_ hSw; (try dsimp only [List.getElem_toArray, List.getElem_cons_succ, List.getElem_cons_zero]); go_simp; try with_reducible rfl)
  simp only [Act.put, List.setIfInBounds_toArray, List.set_cons_zero, List.set_cons_succ]; replace hCl := hCl'; clear hCl'
  refine T.qT 2 (some 19) ?v2 rfl rfl hCl ?hy2 (fun hCl' => ?_)
  case hy2 => (intro w hSw; refine T.qVal ?_ hSw; (try dsimp only [List.getElem_toArray, List.getElem_cons_succ, List.getElem_cons_zero]); go_simp; try with_reducible rfl)
  simp only [Act.put, List.setIfInBounds_toArray, List.set_cons_zero, List.set_cons_succ]; replace hCl := hCl'; clear hCl'
  refine T.qT 1 (some 18) ?v3 rfl rfl hCl ?hy3 (fun hCl' => ?_)
  case hy3 => (intro w hSw; refine T.qVal ?_ hSw; (have fF2 := F2.out w hSw; have fF3 := F3.out w hSw; have fF4 := F4.out w hSw; have fF5 := F5.out w hSw; have fF6 := F6.out w hSw); (try dsimp only [List.getElem_toArray, List.getElem_cons_succ, List.getElem_cons_zero]); go_simp; try with_reducible rfl)
  simp only [Act.put, List.setIfInBounds_toArray, List.set_cons_zero, List.set_cons_succ]; replace hCl := hCl'; clear hCl'
  refine T.qT 3 (some 20) ((.int .i64 (S.at xs 0))) rfl rfl hCl ?hy4 (fun hCl' => ?_)
  case hy4 => (intro w hSw; (have fF2 := F2.out w hSw; have fF3 := F3.out w hSw; have fF4 := F4.out w hSw; have fF5 := F5.out w hSw; have fF6 := F6.out w hSw); (try dsimp only [List.getElem_toArray, List.getElem_cons_succ, List.getElem_cons_zero]); go_simp; (refine (callsIn_wide.2 (HAt.out w (HU.out.trans hSw) 0)).mono ?_; rintro e w3 ⟨rfl, rfl⟩; exact ⟨rfl, hSw⟩))
  simp only [Act.put, List.setIfInBounds_toArray, List.set_cons_zero, List.set_cons_succ]
  replace hCl := hCl'; clear hCl'
  refine T.qT 4 (some 21) ((.int .i64 (S.frm bl bh (S.at xs 0)))) rfl rfl hCl ?hy5 (fun hCl' => ?_)
  case hy5 => (intro w hSw; (have fF2 := F2.out w hSw; have fF3 := F3.out w hSw; have fF4 := F4.out w hSw; have fF5 := F5.out w hSw; have fF6 := F6.out w hSw); (try dsimp only [List.getElem_toArray, List.getElem_cons_succ, List.getElem_cons_zero]); go_simp; (refine (callsIn_wide.2 (HFb.out _ w)).mono ?_; rintro e w3 ⟨rfl, u3⟩; exact ⟨rfl, hSw.trans u3⟩))
  simp only [Act.put, List.setIfInBounds_toArray, List.set_cons_zero, List.set_cons_succ]
  replace hCl := hCl'; clear hCl'
  refine T.tail_intro (by kernel_rfl) (fun Y1 hY1 => ?_)
  replace U := U.trans hY1
  replace kB := hY1.blk kB
  replace kT := hY1.blk kT
  replace kC := hY1.blk kC
  replace k6 := hY1.blk k6
  replace k7 := hY1.blk k7
  clear F2 F3 F4 F5 F6 hY1
  refine lastG (i := 5) (by kernel_rfl) rfl (by rfl) (by decide) (fun K hK => ?_)
  go_simp
  refine hK.out _ _ ?_
  clear hK K
  refine doneG (by kernel_rfl) ?_ _
  refine S.nrm_intro ?_
  clear HU HFb
  obtain ⟨f0, hf0⟩ : ∃ x, S.frm bl bh (S.at xs 0) = x := ⟨_, rfl⟩
  have hf1 : bl ≤ f0 ∧ f0 ≤ bh := by rw [← hf0]; exact S.frm_in (by have := HBR.out; omega) _
  try rw [hf0]
  obtain ⟨b1, hb1⟩ : ∃ x, q0 + 1 + 1 + 1 + 1 + 1 = x := ⟨_, rfl⟩
  have HSP := Lib.hid (T.WsL.nil (bl := bl) (bh := bh) (rl := rl) (rh := rh))
  have hw1 : b1 ≤ Y1.heap.size := by have := blk_lt k7; omega
  clear hf0
  go_wp2_with fail
  go_loopw [8, 9] (fun v i wr => ∃ (k : Nat) (L : List Int) (p : Int) (a : Option Addr) (c : Nat), k ≤ N ∧ v = .int .i64 p ∧ i = .int .i64 k ∧ (k = 0 → bl ≤ p ∧ p ≤ bh) ∧ (0 < k → L.getD (k - 1) 0 = p) ∧ Hid (T.WsL bl bh rl rh L k) ∧ Hid (wr.ownsRow b1 3 1 (.slice a k c) k (T.flat 1 T.encI L)) ∧ b1 ≤ wr.heap.size ∧ Up w wr ∧ mblk wr (q0) = some (.cells (BoC (N : Int) bl bh rl rh (.slice aP ps.length cP) (.slice aQ qs.length cQ) (.slice aL ls.length cL)) 27 (0, 0)) ∧ mblk wr (q0 + 1) = some (.cells #[.slice none 0 0, .slice none 0 0, .slice none 0 0] 30 (0, 0)) ∧ mblk wr (q0 + 1 + 1) = some (.cells #[.int .i64 0, .int .i64 0, .int .i64 0, .int .i64 0, .int .i64 0, .slice none 0 0, .slice none 0 0, .slice none 0 0] 27 (0, 0)) ∧ mblk wr (q0 + 1 + 1 + 1) = some (.cells (BoC (N : Int) bl bh rl rh (.slice aP ps.length cP) (.slice aQ qs.length cQ) (.slice none 0 0)) 27 (0, 0)) ∧ mblk wr (q0 + 1 + 1 + 1 + 1) = some (.cells #[.slice a k c, .slice none 0 0, .slice none 0 0] 30 (0, 0))) (fun _ i _ => N - (intOf i).toNat)
  case atStart => exact ⟨0, [], f0, none, 0, Nat.zero_le _, rfl, rfl, fun _ => hf1, fun h => absurd h (by decide), HSP, Lib.hid (World.ownsRow_nil _ _ _ _), hw1, U, kB, kT, kC, k6, k7⟩
  case round =>
    clear U HSP hw1 hf1 kB kT kC k6 k7
    obtain ⟨k, L, p, a, c, hk, rfl, rfl, hp0, hp1, HL, HO, hw1, U, kB, kT, kC, k6, k7⟩ := hrel
    by_cases hlt : k < N
    · skip
      have ew : IntKind.i64.wrap ((k : Int) + 1) = (k : Int) + 1 := IntWalk.i64_in _ (by omega)
      have dk : decide ((k : Int) < (N : Int)) = true := decide_eq_true (by omega)
      have ilt : (k : Int) < (N : Int) := by omega
      by_cases h0 : k = 0
      · skip
        have ik0 : ¬ (0 : Int) < (k : Int) := by omega
        have d0 : decide ((k : Int) > 0) = false := decide_eq_false (by omega)
        have HS := Lib.hid (show T.WsL bl bh rl rh (L ++ [p]) (k + 1) ∧ (L ++ [p]).getD (k + 1 - 1) 0 = p from And.intro (HL.out.snoc (fun _ => hp0 h0) (fun h => absurd h (by omega))) (by rw [Nat.add_sub_cancel]; exact (T.getD_snoc HL.out.len).1))
        clear hp0 hp1 HL h0
        have own0 := HO.out.alloc (.cells #[.int .i64 p] 3)
        have U1 := U.alloc (.cells #[.int .i64 p] 3)
        have IN := T.one_int (wr.alloc (.cells #[.int .i64 p] 3)) p (blk_new wr (.cells #[.int .i64 p] 3) _ rfl)
        have jkB := blk_keep (.cells #[.int .i64 p] 3) kB
        have jkT := blk_keep (.cells #[.int .i64 p] 3) kT
        have jkC := blk_keep (.cells #[.int .i64 p] 3) kC
        have jk6 := blk_keep (.cells #[.int .i64 p] 3) k6
        have jk7 := blk_keep (.cells #[.int .i64 p] 3) k7
        go_wp2_with (at_builtin; refine T.wpList_app (ys := L) T.elI rfl (.tmp 39) (.tmp 41) rfl IN rfl b1 _ k rfl own0 (by omega) (by simp) (by simp; omega) ?_; intro v1 w1 own1 grow1; have rkB := grown_blk grow1 jkB (row_block own0 (by omega)); have rkT := grown_blk grow1 jkT (row_block own0 (by omega)); have rkC := grown_blk grow1 jkC (row_block own0 (by omega)); have rk6 := grown_blk grow1 jk6 (row_block own0 (by omega)); have rk7 := grown_blk grow1 jk7 (row_block own0 (by omega)); have U2 : Up w w1 := U1.grown grow1 (fun k e => by (have := row_base own0 k e; omega)); obtain ⟨a1, c1, rfl, _, _⟩ := row_val own1; have zx := frozB rk7)
        have yk7 : mblk (w1.setCell ⟨q0 + 1 + 1 + 1 + 1, 0, none⟩ (.slice a1 (k + 1) c1)) (q0 + 1 + 1 + 1 + 1) = some (.cells #[.slice a1 (k + 1) c1, .slice none 0 0, .slice none 0 0] 30 (0, 0)) := blk_put rk7 0 _
        have ykB : mblk (w1.setCell ⟨q0 + 1 + 1 + 1 + 1, 0, none⟩ (.slice a1 (k + 1) c1)) (q0) = some (.cells (BoC (N : Int) bl bh rl rh (.slice aP ps.length cP) (.slice aQ qs.length cQ) (.slice aL ls.length cL)) 27 (0, 0)) := by rw [blk_set _ _ _ _ (by show q0 ≠ q0 + 1 + 1 + 1 + 1; omega)]; exact rkB
        have ykT : mblk (w1.setCell ⟨q0 + 1 + 1 + 1 + 1, 0, none⟩ (.slice a1 (k + 1) c1)) (q0 + 1) = some (.cells #[.slice none 0 0, .slice none 0 0, .slice none 0 0] 30 (0, 0)) := by rw [blk_set _ _ _ _ (by show q0 + 1 ≠ q0 + 1 + 1 + 1 + 1; omega)]; exact rkT
        have ykC : mblk (w1.setCell ⟨q0 + 1 + 1 + 1 + 1, 0, none⟩ (.slice a1 (k + 1) c1)) (q0 + 1 + 1) = some (.cells #[.int .i64 0, .int .i64 0, .int .i64 0, .int .i64 0, .int .i64 0, .slice none 0 0, .slice none 0 0, .slice none 0 0] 27 (0, 0)) := by rw [blk_set _ _ _ _ (by show q0 + 1 + 1 ≠ q0 + 1 + 1 + 1 + 1; omega)]; exact rkC
        have yk6 : mblk (w1.setCell ⟨q0 + 1 + 1 + 1 + 1, 0, none⟩ (.slice a1 (k + 1) c1)) (q0 + 1 + 1 + 1) = some (.cells (BoC (N : Int) bl bh rl rh (.slice aP ps.length cP) (.slice aQ qs.length cQ) (.slice none 0 0)) 27 (0, 0)) := by rw [blk_set _ _ _ _ (by show q0 + 1 + 1 + 1 ≠ q0 + 1 + 1 + 1 + 1; omega)]; exact rk6
        have U3 := U2.set (p := ⟨q0 + 1 + 1 + 1 + 1, 0, none⟩) (show w.heap.size ≤ q0 + 1 + 1 + 1 + 1 by omega) (.slice a1 (k + 1) c1)
        have hw2 : wr.heap.size ≤ (wr.alloc (.cells #[.int .i64 p] 3)).heap.size := by simp
        have hw3 : b1 ≤ (w1.setCell ⟨q0 + 1 + 1 + 1 + 1, 0, none⟩ (.slice a1 (k + 1) c1)).heap.size := by
          have h1 := grow1.size
          simp only [World.size_setCell]
          omega
        have HO4 := Lib.hid (show (w1.setCell ⟨q0 + 1 + 1 + 1 + 1, 0, none⟩ (.slice a1 (k + 1) c1)).ownsRow b1 3 1 (.slice a1 (k + 1) c1) (k + 1) (T.flat 1 T.encI (L ++ [p])) from row_other own1 (grown_set w1 (q0 + 1 + 1 + 1 + 1) 0 _) (row_block own1 (by omega)))
        clear own1 own0 grow1 IN U1 U2 zx HO jkB jkT jkC jk6 jk7 rkB rkT rkC rk6 rk7 kB kT kC k6 k7 U
        go_roundw
        case rel => exact ⟨k + 1, L ++ [p], p, a1, c1, by omega, rfl, by go_num, fun h => absurd h (by omega), fun _ => HS.out.2, HS.out.1, HO4, hw3, U3, ykB, ykT, ykC, yk6, yk7⟩
        case measure => (simp only [intOf]; omega)
      · skip
        have ik0 : (0 : Int) < (k : Int) := by omega
        have d0 : decide ((k : Int) > 0) = true := decide_eq_true (by omega)
        have hpb : -(20000 + 1000 * ((k - 1 : Nat) : Int)) ≤ p ∧ p ≤ 20000 + 1000 * ((k - 1 : Nat) : Int) := by
          have := HL.out.bd (by have := HBR.out; omega) (by have := HBR.out; omega) (k - 1) (by omega)
          rw [hp1 (by omega)] at this
          exact this
        obtain ⟨f1, hf1⟩ : ∃ x, S.frm rl rh (S.at xs (k : Int)) = x := ⟨_, rfl⟩
        have hf2 : rl ≤ f1 ∧ f1 ≤ rh := by rw [← hf1]; exact S.frm_in (by have := HBR.out; omega) _
        obtain ⟨p2, hp2⟩ : ∃ x, p + f1 = x := ⟨_, rfl⟩
        have wp : IntKind.i64.wrap (p + f1) = p2 := by rw [← hp2]; exact IntWalk.i64_in _ (by have := HBR.out; omega)
        have HFr2 := Lib.hid (fun w' => show Calls Try.prog 83 #[SpV rl rh, .int .i64 (S.at xs (k : Int))] w' fun e w'' => e = .returned (.int .i64 f1) ∧ Up w' w'' by rw [← hf1]; exact HFr.out _ w')
        have HS0 := Lib.hid (show T.WsL bl bh rl rh (L ++ [p2]) (k + 1) ∧ (L ++ [p2]).getD (k + 1 - 1) 0 = p2 from And.intro (HL.out.snoc (fun h => absurd h h0) (fun _ => by rw [hp1 (by omega)]; omega)) (by rw [Nat.add_sub_cancel]; exact (T.getD_snoc HL.out.len).1))
        have HU := Lib.hid U
        have hw2 := hw1
        clear hpb hf1 hf2 hp2 hw1
        go_wp2_with fail
        have F142 := Lib.hid (fun w (u : Up wr w) => cellB (u.blk kB))
        have F143 := Lib.hid (fun w (u : Up wr w) => cellB (u.blk kT))
        have F144 := Lib.hid (fun w (u : Up wr w) => cellB (u.blk kC))
        have F145 := Lib.hid (fun w (u : Up wr w) => cellB (u.blk k6))
        have F146 := Lib.hid (fun w (u : Up wr w) => cellB (u.blk k7))
        refine (wpIn_wide (n := 5)).1 ?_
        refine wpIn_nrm ?_
        refine T.regionQ (fun w' => Up wr w') 8 1 hmx (by kernel_rfl) (by kernel_rfl) ((Up.refl wr).drew) (fun hCl => ?_)
        refine T.qT 0 (some 30) ?v6 rfl rfl hCl ?hy6 (fun hCl' => ?_)
        case hy6 => (intro w hSw; refine T.qVal ?_ hSw; (try dsimp only [List.getElem_toArray, List.getElem_cons_succ, List.getElem_cons_zero]); go_simp; try with_reducible rfl)
        simp only [Act.put, List.setIfInBounds_toArray, List.set_cons_zero, List.set_cons_succ]; replace hCl := hCl'; clear hCl'
        refine T.qT 1 (some 31) ?v7 rfl rfl hCl ?hy7 (fun hCl' => ?_)
        case hy7 => (intro w hSw; refine T.qVal ?_ hSw; (try dsimp only [List.getElem_toArray, List.getElem_cons_succ, List.getElem_cons_zero]); go_simp; try with_reducible rfl)
        simp only [Act.put, List.setIfInBounds_toArray, List.set_cons_zero, List.set_cons_succ]; replace hCl := hCl'; clear hCl'
        refine T.qT 3 (some 33) ?v8 rfl rfl hCl ?hy8 (fun hCl' => ?_)
        case hy8 => (intro w hSw; refine T.qVal ?_ hSw; (try dsimp only [List.getElem_toArray, List.getElem_cons_succ, List.getElem_cons_zero]); go_simp; try with_reducible rfl)
        simp only [Act.put, List.setIfInBounds_toArray, List.set_cons_zero, List.set_cons_succ]; replace hCl := hCl'; clear hCl'
        refine T.qT 4 (some 34) ?v9 rfl rfl hCl ?hy9 (fun hCl' => ?_)
        case hy9 => (intro w hSw; refine T.qVal ?_ hSw; (try dsimp only [List.getElem_toArray, List.getElem_cons_succ, List.getElem_cons_zero]); go_simp; try with_reducible rfl)
        simp only [Act.put, List.setIfInBounds_toArray, List.set_cons_zero, List.set_cons_succ]; replace hCl := hCl'; clear hCl'
        refine T.qT 2 (some 32) ?v10 rfl rfl hCl ?hy10 (fun hCl' => ?_)
        case hy10 => (intro w hSw; refine T.qVal ?_ hSw; (have fF142 := F142.out w hSw; have fF143 := F143.out w hSw; have fF144 := F144.out w hSw; have fF145 := F145.out w hSw; have fF146 := F146.out w hSw); (try dsimp only [List.getElem_toArray, List.getElem_cons_succ, List.getElem_cons_zero]); go_simp; try with_reducible rfl)
        simp only [Act.put, List.setIfInBounds_toArray, List.set_cons_zero, List.set_cons_succ]; replace hCl := hCl'; clear hCl'
        refine T.qT 5 (some 35) ((.int .i64 (S.at xs (k : Int)))) rfl rfl hCl ?hy11 (fun hCl' => ?_)
        case hy11 => (intro w hSw; (have fF142 := F142.out w hSw; have fF143 := F143.out w hSw; have fF144 := F144.out w hSw; have fF145 := F145.out w hSw; have fF146 := F146.out w hSw); (try dsimp only [List.getElem_toArray, List.getElem_cons_succ, List.getElem_cons_zero]); go_simp; (refine (callsIn_wide.2 (HAt.out w (HU.out.trans hSw) (k : Int))).mono ?_; rintro e w3 ⟨rfl, rfl⟩; exact ⟨rfl, hSw⟩))
        simp only [Act.put, List.setIfInBounds_toArray, List.set_cons_zero, List.set_cons_succ]
        replace hCl := hCl'; clear hCl'
        refine T.qT 6 (some 36) ((.int .i64 f1)) rfl rfl hCl ?hy12 (fun hCl' => ?_)
        case hy12 => (intro w hSw; (have fF142 := F142.out w hSw; have fF143 := F143.out w hSw; have fF144 := F144.out w hSw; have fF145 := F145.out w hSw; have fF146 := F146.out w hSw); (try dsimp only [List.getElem_toArray, List.getElem_cons_succ, List.getElem_cons_zero]); go_simp; (refine (callsIn_wide.2 (HFr2.out w)).mono ?_; rintro e w3 ⟨rfl, u3⟩; exact ⟨rfl, hSw.trans u3⟩))
        simp only [Act.put, List.setIfInBounds_toArray, List.set_cons_zero, List.set_cons_succ]
        replace hCl := hCl'; clear hCl'
        refine T.qT 7 (some 37) ?v13 rfl rfl hCl ?hy13 (fun hCl' => ?_)
        case hy13 => (intro w hSw; refine T.qVal ?_ hSw; (try dsimp only [List.getElem_toArray, List.getElem_cons_succ, List.getElem_cons_zero]); go_simp; try with_reducible rfl)
        simp only [Act.put, List.setIfInBounds_toArray, List.set_cons_zero, List.set_cons_succ]; replace hCl := hCl'; clear hCl'
        refine T.tail_intro (by kernel_rfl) (fun Y141 hY141 => ?_)
        have HO' := Lib.hid (row_up HO.out hY141)
        have hw1 := Nat.le_trans hw2 hY141.size
        clear HO
        replace U := U.trans hY141
        replace kB := hY141.blk kB
        replace kT := hY141.blk kT
        replace kC := hY141.blk kC
        replace k6 := hY141.blk k6
        replace k7 := hY141.blk k7
        clear F142 F143 F144 F145 F146 hY141
        refine lastG (i := 8) (by kernel_rfl) rfl (by rfl) (by decide) (fun K hK => ?_)
        go_simp
        refine hK.out _ _ ?_
        clear hK K
        refine doneG (by kernel_rfl) ?_ _
        refine S.nrm_intro ?_
        have HO := HO'
        clear HO' HU HFr2
        have HS := Lib.hid (HS0.out)
        clear hp0 hp1 HL h0
        have own0 := HO.out.alloc (.cells #[.int .i64 p2] 3)
        have U1 := U.alloc (.cells #[.int .i64 p2] 3)
        have IN := T.one_int (Y141.alloc (.cells #[.int .i64 p2] 3)) p2 (blk_new Y141 (.cells #[.int .i64 p2] 3) _ rfl)
        have jkB := blk_keep (.cells #[.int .i64 p2] 3) kB
        have jkT := blk_keep (.cells #[.int .i64 p2] 3) kT
        have jkC := blk_keep (.cells #[.int .i64 p2] 3) kC
        have jk6 := blk_keep (.cells #[.int .i64 p2] 3) k6
        have jk7 := blk_keep (.cells #[.int .i64 p2] 3) k7
        go_wp2_with (at_builtin; refine T.wpList_app (ys := L) T.elI rfl (.tmp 39) (.tmp 41) rfl IN rfl b1 _ k rfl own0 (by omega) (by simp) (by simp; omega) ?_; intro v1 w1 own1 grow1; have rkB := grown_blk grow1 jkB (row_block own0 (by omega)); have rkT := grown_blk grow1 jkT (row_block own0 (by omega)); have rkC := grown_blk grow1 jkC (row_block own0 (by omega)); have rk6 := grown_blk grow1 jk6 (row_block own0 (by omega)); have rk7 := grown_blk grow1 jk7 (row_block own0 (by omega)); have U2 : Up w w1 := U1.grown grow1 (fun k e => by (have := row_base own0 k e; omega)); obtain ⟨a1, c1, rfl, _, _⟩ := row_val own1; have zx := frozB rk7)
        have yk7 : mblk (w1.setCell ⟨q0 + 1 + 1 + 1 + 1, 0, none⟩ (.slice a1 (k + 1) c1)) (q0 + 1 + 1 + 1 + 1) = some (.cells #[.slice a1 (k + 1) c1, .slice none 0 0, .slice none 0 0] 30 (0, 0)) := blk_put rk7 0 _
        have ykB : mblk (w1.setCell ⟨q0 + 1 + 1 + 1 + 1, 0, none⟩ (.slice a1 (k + 1) c1)) (q0) = some (.cells (BoC (N : Int) bl bh rl rh (.slice aP ps.length cP) (.slice aQ qs.length cQ) (.slice aL ls.length cL)) 27 (0, 0)) := by rw [blk_set _ _ _ _ (by show q0 ≠ q0 + 1 + 1 + 1 + 1; omega)]; exact rkB
        have ykT : mblk (w1.setCell ⟨q0 + 1 + 1 + 1 + 1, 0, none⟩ (.slice a1 (k + 1) c1)) (q0 + 1) = some (.cells #[.slice none 0 0, .slice none 0 0, .slice none 0 0] 30 (0, 0)) := by rw [blk_set _ _ _ _ (by show q0 + 1 ≠ q0 + 1 + 1 + 1 + 1; omega)]; exact rkT
        have ykC : mblk (w1.setCell ⟨q0 + 1 + 1 + 1 + 1, 0, none⟩ (.slice a1 (k + 1) c1)) (q0 + 1 + 1) = some (.cells #[.int .i64 0, .int .i64 0, .int .i64 0, .int .i64 0, .int .i64 0, .slice none 0 0, .slice none 0 0, .slice none 0 0] 27 (0, 0)) := by rw [blk_set _ _ _ _ (by show q0 + 1 + 1 ≠ q0 + 1 + 1 + 1 + 1; omega)]; exact rkC
        have yk6 : mblk (w1.setCell ⟨q0 + 1 + 1 + 1 + 1, 0, none⟩ (.slice a1 (k + 1) c1)) (q0 + 1 + 1 + 1) = some (.cells (BoC (N : Int) bl bh rl rh (.slice aP ps.length cP) (.slice aQ qs.length cQ) (.slice none 0 0)) 27 (0, 0)) := by rw [blk_set _ _ _ _ (by show q0 + 1 + 1 + 1 ≠ q0 + 1 + 1 + 1 + 1; omega)]; exact rk6
        have U3 := U2.set (p := ⟨q0 + 1 + 1 + 1 + 1, 0, none⟩) (show w.heap.size ≤ q0 + 1 + 1 + 1 + 1 by omega) (.slice a1 (k + 1) c1)
        have hw2 : Y141.heap.size ≤ (Y141.alloc (.cells #[.int .i64 p2] 3)).heap.size := by simp
        have hw3 : b1 ≤ (w1.setCell ⟨q0 + 1 + 1 + 1 + 1, 0, none⟩ (.slice a1 (k + 1) c1)).heap.size := by
          have h1 := grow1.size
          simp only [World.size_setCell]
          omega
        have HO4 := Lib.hid (show (w1.setCell ⟨q0 + 1 + 1 + 1 + 1, 0, none⟩ (.slice a1 (k + 1) c1)).ownsRow b1 3 1 (.slice a1 (k + 1) c1) (k + 1) (T.flat 1 T.encI (L ++ [p2])) from row_other own1 (grown_set w1 (q0 + 1 + 1 + 1 + 1) 0 _) (row_block own1 (by omega)))
        clear own1 own0 grow1 IN U1 U2 zx HO jkB jkT jkC jk6 jk7 rkB rkT rkC rk6 rk7 kB kT kC k6 k7 U
        go_roundw
        case rel => exact ⟨k + 1, L ++ [p2], p2, a1, c1, by omega, rfl, by go_num, fun h => absurd h (by omega), fun _ => HS.out.2, HS.out.1, HO4, hw3, U3, ykB, ykT, ykC, yk6, yk7⟩
        case measure => (simp only [intOf]; omega)
    · skip
      have hkN : N = k := by omega
      subst hkN
      have dk : decide ((N : Int) < (N : Int)) = false := decide_eq_false (by omega)
      have HLN := Lib.hid HL.out
      have HLr := Lib.hid HO.out
      clear HL HO hp0 hp1 hlt hk
      obtain ⟨b2, hb2⟩ : ∃ x, wr.heap.size = x := ⟨_, rfl⟩
      have hw2 : b2 ≤ wr.heap.size := by omega
      have HA1 := Lib.hid (show ∀ g, Value.ownBlock (.slice a N c) = some g → g < b2 ∧ b1 ≤ g from fun g e => by have := HLr.out.lt g e; omega)
      have HSE := Lib.hid (T.WsE.nil (ps := ps))
      have hb12 : b1 ≤ b2 := by omega
      clear hb2
      go_wp2_with fail
      go_loopw [10] (fun i wr => ∃ (j : Nat) (E : List Int) (a2 : Option Addr) (c2 : Nat), j ≤ ps.length ∧ i = .int .i64 j ∧ Hid (T.WsE ps E j) ∧ Hid (wr.ownsRow b1 3 1 (.slice a N c) N (T.flat 1 T.encI L)) ∧ Hid (wr.ownsRow b2 3 1 (.slice a2 j c2) j (T.flat 1 T.encI E)) ∧ b2 ≤ wr.heap.size ∧ Up w wr ∧ mblk wr (q0) = some (.cells (BoC (N : Int) bl bh rl rh (.slice aP ps.length cP) (.slice aQ qs.length cQ) (.slice aL ls.length cL)) 27 (0, 0)) ∧ mblk wr (q0 + 1) = some (.cells #[.slice none 0 0, .slice none 0 0, .slice none 0 0] 30 (0, 0)) ∧ mblk wr (q0 + 1 + 1) = some (.cells #[.int .i64 0, .int .i64 0, .int .i64 0, .int .i64 0, .int .i64 0, .slice none 0 0, .slice none 0 0, .slice none 0 0] 27 (0, 0)) ∧ mblk wr (q0 + 1 + 1 + 1) = some (.cells (BoC (N : Int) bl bh rl rh (.slice aP ps.length cP) (.slice aQ qs.length cQ) (.slice none 0 0)) 27 (0, 0)) ∧ mblk wr (q0 + 1 + 1 + 1 + 1) = some (.cells #[.slice a N c, .slice a2 j c2, .slice none 0 0] 30 (0, 0))) (fun i _ => ps.length - (intOf i).toNat)
      case atStart => exact ⟨0, [], none, 0, Nat.zero_le _, rfl, HSE, HLr, Lib.hid (World.ownsRow_nil _ _ _ _), hw2, U, kB, kT, kC, k6, k7⟩
      case round =>
        clear U HSE hw1 hw2 HLr kB kT kC k6 k7
        obtain ⟨j, E, a2, c2, hj, rfl, HE, HLr, HO, hw2, U, kB, kT, kC, k6, k7⟩ := hrel
        by_cases hlt : j < ps.length
        · skip
          have ew : IntKind.i64.wrap ((j : Int) + 1) = (j : Int) + 1 := IntWalk.i64_in _ (by omega)
          have eo : IntKind.i64.wrap ((j : Int) + 3) = (j : Int) + 3 := IntWalk.i64_in _ (by omega)
          have dk : decide ((j : Int) < (ps.length : Int)) = true := decide_eq_true (by omega)
          have ilt : (j : Int) < (ps.length : Int) := by omega
          have hbs := (S.spanOk_iff.1 (HPQ.out.1 (ps.getD j (0, 0)) (T.getD_mem hlt)) : -2000 ≤ (ps.getD j (0, 0)).1 ∧ (ps.getD j (0, 0)).1 ≤ (ps.getD j (0, 0)).2 ∧ (ps.getD j (0, 0)).2 ≤ 2000)
          obtain ⟨⟨r0, r1⟩, hss⟩ : ∃ s, ps.getD j (0, 0) = s := ⟨_, rfl⟩
          rw [hss] at hbs
          obtain ⟨a', c', e', _, _, hm⟩ := (HI.out _ (Up.refl w)).is
          injection e' with ea eb ec
          clear eb ec
          obtain ⟨g, off, ga, gl, hx⟩ := hm (by omega)
          subst ea ga
          clear hm
          have cc0 := (U.facts.1 g _ gl).trans (hx j hlt 0 (by omega))
          have cc1 := (U.facts.1 g _ gl).trans (hx j hlt 1 (by omega))
          rw [hss] at cc0 cc1
          replace cc0 : wr.cell? ⟨g, off + j * 2, none⟩ = some (.int .i64 r0) := cc0
          replace cc1 : wr.cell? ⟨g, off + j * 2 + 1, none⟩ = some (.int .i64 r1) := cc1
          clear hx
          obtain ⟨f1, hf1⟩ : ∃ x, S.frm r0 r1 (S.at xs ((j : Int) + 3)) = x := ⟨_, rfl⟩
          have hf2 : r0 ≤ f1 ∧ f1 ≤ r1 := by rw [← hf1]; exact S.frm_in (by have := hbs.2.1; dsimp only at this; omega) _
          have HSn := Lib.hid (HE.out.snoc (v := f1) (by rw [hss]; exact hf2))
          have HF2 := Lib.hid (fun w' => show Calls Try.prog 83 #[SpV r0 r1, .int .i64 (S.at xs ((j : Int) + 3))] w' fun e w'' => e = .returned (.int .i64 f1) ∧ Up w' w'' by rw [← hf1]; exact B_From_any r0 r1 _ w' (by have := hbs; dsimp only at this; omega) (by have := hbs; dsimp only at this; omega) (by have := hbs; dsimp only at this; omega) (by have := hbs; dsimp only at this; omega))
          have HBS := Lib.hid hbs
          clear hf1 hf2 hbs hss HE
          go_wp2_with fail
          refine (wpIn_wide (n := 5)).1 ?_
          refine wpIn_nrm ?_
          refine regionG (fun w' => Up w w' ∧ mblk w' (q0) = some (.cells (BoC (N : Int) bl bh rl rh (.slice (some ⟨g, off, none⟩) ps.length cP) (.slice aQ qs.length cQ) (.slice aL ls.length cL)) 27 (0, 0)) ∧ mblk w' (q0 + 1) = some (.cells #[.slice none 0 0, .slice none 0 0, .slice none 0 0] 30 (0, 0)) ∧ mblk w' (q0 + 1 + 1) = some (.cells #[.int .i64 0, .int .i64 0, .int .i64 0, .int .i64 0, .int .i64 0, .slice none 0 0, .slice none 0 0, .slice none 0 0] 27 (0, 0)) ∧ mblk w' (q0 + 1 + 1 + 1) = some (.cells (BoC (N : Int) bl bh rl rh (.slice (some ⟨g, off, none⟩) ps.length cP) (.slice aQ qs.length cQ) (.slice none 0 0)) 27 (0, 0)) ∧ mblk w' (q0 + 1 + 1 + 1 + 1) = some (.cells #[.slice a N c, .slice a2 j c2, .slice none 0 0] 30 (0, 0)) ∧ w'.cell? ⟨g, off + j * 2, none⟩ = some (.int .i64 r0) ∧ w'.cell? ⟨g, off + j * 2 + 1, none⟩ = some (.int .i64 r1)) 15 hmx ⟨U.drew, (by rw [blk_drew]; exact kB), (by rw [blk_drew]; exact kT), (by rw [blk_drew]; exact kC), (by rw [blk_drew]; exact k6), (by rw [blk_drew]; exact k7), cc0, cc1⟩ (fun hHeld hCl => ?_)
          refine takeG (i := 0) (d := (some 51)) (v := ?v14) rfl rfl (by kernel_rfl) (by kernel_rfl) (by decide) hCl (by kernel_rfl) (by kernel_rfl) (by kernel_rfl) (fun _ _ _ h => h) (by rfl) ?hy14 (fun _ _ _ => trivial) (by assumption) (fun hCl' => ?_)
          case hy14 => ((intro w hSw; (try dsimp only at hSw); (try go_split_ands); go_simp); try with_reducible rfl)
          simp only [Act.put, List.setIfInBounds_toArray, List.set_cons_zero, List.set_cons_succ]
          replace hCl := hCl'; clear hCl'
          refine takeG (i := 1) (d := (some 52)) (v := ?v15) rfl rfl (by kernel_rfl) (by kernel_rfl) (by decide) hCl (by kernel_rfl) (by kernel_rfl) (by kernel_rfl) (fun _ _ _ h => h) (by rfl) ?hy15 (fun _ _ _ => trivial) (by assumption) (fun hCl' => ?_)
          case hy15 => ((intro w hSw; (try dsimp only at hSw); (try go_split_ands); go_simp); try with_reducible rfl)
          simp only [Act.put, List.setIfInBounds_toArray, List.set_cons_zero, List.set_cons_succ]
          replace hCl := hCl'; clear hCl'
          refine takeG (i := 2) (d := (some 53)) (v := ?v16) rfl rfl (by kernel_rfl) (by kernel_rfl) (by decide) hCl (by kernel_rfl) (by kernel_rfl) (by kernel_rfl) (fun _ _ _ h => h) (by rfl) ?hy16 (fun _ _ _ => trivial) (by assumption) (fun hCl' => ?_)
          case hy16 => ((intro w hSw; (try dsimp only at hSw); (try go_split_ands); go_simp); try with_reducible rfl)
          simp only [Act.put, List.setIfInBounds_toArray, List.set_cons_zero, List.set_cons_succ]
          replace hCl := hCl'; clear hCl'
          refine takeG (i := 3) (d := (some 54)) (v := ?v17) rfl rfl (by kernel_rfl) (by kernel_rfl) (by decide) hCl (by kernel_rfl) (by kernel_rfl) (by kernel_rfl) (fun _ _ _ h => h) (by rfl) ?hy17 (fun _ _ _ => trivial) (by assumption) (fun hCl' => ?_)
          case hy17 => ((intro w hSw; (try dsimp only at hSw); (try go_split_ands); go_simp); try with_reducible rfl)
          simp only [Act.put, List.setIfInBounds_toArray, List.set_cons_zero, List.set_cons_succ]
          replace hCl := hCl'; clear hCl'
          refine takeG (i := 4) (d := (some 55)) (v := ?v18) rfl rfl (by kernel_rfl) (by kernel_rfl) (by decide) hCl (by kernel_rfl) (by kernel_rfl) (by kernel_rfl) (fun _ _ _ h => h) (by rfl) ?hy18 (fun _ _ _ => trivial) (by assumption) (fun hCl' => ?_)
          case hy18 => ((intro w hSw; (try dsimp only at hSw); (try go_split_ands); go_simp); try with_reducible rfl)
          simp only [Act.put, List.setIfInBounds_toArray, List.set_cons_zero, List.set_cons_succ]
          replace hCl := hCl'; clear hCl'
          refine takeG (i := 5) (d := (some 56)) (v := ?v19) rfl rfl (by kernel_rfl) (by kernel_rfl) (by decide) hCl (by kernel_rfl) (by kernel_rfl) (by kernel_rfl) (fun _ _ _ h => h) (by rfl) ?hy19 (fun _ _ _ => trivial) (by assumption) (fun hCl' => ?_)
          case hy19 => ((intro w hSw; (try dsimp only at hSw); (try go_split_ands); go_simp); try with_reducible rfl)
          simp only [Act.put, List.setIfInBounds_toArray, List.set_cons_zero, List.set_cons_succ]
          replace hCl := hCl'; clear hCl'
          refine takeG (i := 6) (d := (some 57)) (v := ?v20) rfl rfl (by kernel_rfl) (by kernel_rfl) (by decide) hCl (by kernel_rfl) (by kernel_rfl) (by kernel_rfl) (fun _ _ _ h => h) (by rfl) ?hy20 (fun _ _ _ => trivial) (by assumption) (fun hCl' => ?_)
          case hy20 => ((intro w hSw; (try dsimp only at hSw); (try go_split_ands); go_simp); try with_reducible rfl)
          simp only [Act.put, List.setIfInBounds_toArray, List.set_cons_zero, List.set_cons_succ]
          replace hCl := hCl'; clear hCl'
          refine takeG (i := 7) (d := (some 58)) (v := ?v21) rfl rfl (by kernel_rfl) (by kernel_rfl) (by decide) hCl (by kernel_rfl) (by kernel_rfl) (by kernel_rfl) (fun _ _ _ h => h) (by rfl) ?hy21 (fun _ _ _ => trivial) (by assumption) (fun hCl' => ?_)
          case hy21 => ((intro w hSw; (try dsimp only at hSw); (try go_split_ands); go_simp); try with_reducible rfl)
          simp only [Act.put, List.setIfInBounds_toArray, List.set_cons_zero, List.set_cons_succ]
          replace hCl := hCl'; clear hCl'
          refine takeG (i := 8) (d := (some 59)) (v := ?v22) rfl rfl (by kernel_rfl) (by kernel_rfl) (by decide) hCl (by kernel_rfl) (by kernel_rfl) (by kernel_rfl) (fun _ _ _ h => h) (by rfl) ?hy22 (fun _ _ _ => trivial) (by assumption) (fun hCl' => ?_)
          case hy22 => ((intro w hSw; (try dsimp only at hSw); (try go_split_ands); go_simp); try with_reducible rfl)
          simp only [Act.put, List.setIfInBounds_toArray, List.set_cons_zero, List.set_cons_succ]
          replace hCl := hCl'; clear hCl'
          refine takeG (i := 9) (d := (some 60)) (v := ?v23) rfl rfl (by kernel_rfl) (by kernel_rfl) (by decide) hCl (by kernel_rfl) (by kernel_rfl) (by kernel_rfl) (fun _ _ _ h => h) (by rfl) ?hy23 (fun _ _ _ => trivial) (by assumption) (fun hCl' => ?_)
          case hy23 => ((intro w hSw; (try dsimp only at hSw); (try go_split_ands); go_simp); try with_reducible rfl)
          simp only [Act.put, List.setIfInBounds_toArray, List.set_cons_zero, List.set_cons_succ]
          replace hCl := hCl'; clear hCl'
          refine nextG (i := 10) (by kernel_rfl) rfl (by rfl) hCl (fun K hK => ?_)
          go_simp
          refine ⟨trivial, (callsIn_wide.2 (HAt.out _ hHeld.1 ((j : Int) + 3))).mono ?_⟩
          rintro e' w9 ⟨rfl, rfl⟩
          refine hK.out _ _ hHeld (fun hHeld hCl => ?_)
          clear hK K
          try dsimp only [List.getElem_toArray, List.getElem_cons_succ, List.getElem_cons_zero]
          try simp only [Act.put, List.setIfInBounds_toArray, List.set_cons_zero, List.set_cons_succ]
          refine nextG (i := 11) (by kernel_rfl) rfl (by rfl) hCl (fun K hK => ?_)
          go_simp
          refine ⟨trivial, (callsIn_wide.2 (HF2.out _)).mono ?_⟩
          rintro e' X1 ⟨rfl, u⟩
          have VW : Up wr X1 := (Up.refl wr).drew.trans u
          refine hK.out _ _ ⟨hHeld.1.trans u, u.blk hHeld.2.1, u.blk hHeld.2.2.1, u.blk hHeld.2.2.2.1, u.blk hHeld.2.2.2.2.1, u.blk hHeld.2.2.2.2.2.1, u.cell2 hHeld.2.2.2.2.2.2.1, u.cell2 hHeld.2.2.2.2.2.2.2⟩ (fun hHeld hCl => ?_)
          clear hK K u
          try dsimp only [List.getElem_toArray, List.getElem_cons_succ, List.getElem_cons_zero]
          try simp only [Act.put, List.setIfInBounds_toArray, List.set_cons_zero, List.set_cons_succ]
          refine nextG (i := 12) (by kernel_rfl) rfl (by rfl) hCl (fun K hK => ?_)
          go_simp
          have A1 : Up X1 (X1.alloc (.cells #[.int .i64 f1] 3)) := Up.alloc (Up.refl X1) _
          have pl := blk_new X1 (.cells #[.int .i64 f1] 3) _ rfl
          have hb0 : b2 ≤ X1.heap.size := Nat.le_trans hw2 VW.size
          obtain ⟨q7, hq7⟩ : ∃ q, X1.heap.size = q := ⟨_, rfl⟩
          obtain ⟨X3, hX3⟩ : ∃ X, X1.alloc (.cells #[.int .i64 f1] 3) = X := ⟨_, rfl⟩
          rw [hX3] at A1 pl
          have hb3 := A1.size
          rw [hq7] at pl hb0 hb3
          try rw [hX3]
          try rw [hq7]
          refine hK.out _ _ ⟨hHeld.1.trans A1, A1.blk hHeld.2.1, A1.blk hHeld.2.2.1, A1.blk hHeld.2.2.2.1, A1.blk hHeld.2.2.2.2.1, A1.blk hHeld.2.2.2.2.2.1, A1.cell2 hHeld.2.2.2.2.2.2.1, A1.cell2 hHeld.2.2.2.2.2.2.2⟩ (fun hHeld hCl => ?_)
          clear hK K hX3 hq7
          try dsimp only [List.getElem_toArray, List.getElem_cons_succ, List.getElem_cons_zero]
          try simp only [Act.put, List.setIfInBounds_toArray, List.set_cons_zero, List.set_cons_succ]
          refine nextG (i := 13) (by kernel_rfl) rfl (by rfl) hCl (fun K hK => ?_)
          have R1 := row_up (row_up HO.out VW) A1
          refine T.opIn_app T.elI (.tmp 52) (.tmp 63) rfl (T.one_int _ _ pl) rfl b2 _ j rfl R1 (by omega) (by simp) (by omega) ?_
          intro v2 X2 R2 hg2
          replace R2 : X2.ownsRow b2 3 1 v2 (j + 1) _ := R2
          obtain ⟨ra, rc, rfl, _, _⟩ := row_val R2
          have V2 := Up.grown hHeld.1 hg2 (fun k e => by have := row_base R1 k e; omega)
          have ekB := grown_blk hg2 hHeld.2.1 (row_block R1 (by omega))
          have ekT := grown_blk hg2 hHeld.2.2.1 (row_block R1 (by omega))
          have ekC := grown_blk hg2 hHeld.2.2.2.1 (row_block R1 (by omega))
          have ek6 := grown_blk hg2 hHeld.2.2.2.2.1 (row_block R1 (by omega))
          have ek7 := grown_blk hg2 hHeld.2.2.2.2.2.1 (row_block R1 (by omega))
          have f0_ := hg2.cell hHeld.2.2.2.2.2.2.1 (row_block R1 (show g < b2 by omega))
          have f1_ := hg2.cell hHeld.2.2.2.2.2.2.2 (row_block R1 (show g < b2 by omega))
          have KHLr := row_keep (row_up (row_up HLr.out VW) A1) hg2 (fun g0 e0 => row_block R1 (HA1.out g0 e0).1)
          have hb4 := hg2.size
          refine hK.out _ _ ⟨V2, ekB, ekT, ekC, ek6, ek7, f0_, f1_⟩ (fun _ hCl => ?_)
          clear hK K hg2 pl R1
          try dsimp only [List.getElem_toArray, List.getElem_cons_succ, List.getElem_cons_zero]
          try simp only [Act.put, List.setIfInBounds_toArray, List.set_cons_zero, List.set_cons_succ]
          refine takeG (i := 14) (d := (some 65)) (v := ?v27) rfl rfl (by kernel_rfl) (by kernel_rfl) (by decide) hCl (by kernel_rfl) (by kernel_rfl) (by kernel_rfl) (fun _ _ _ h => h) (by rfl) ?hy27 (fun _ _ _ => trivial) (by assumption) (fun hCl' => ?_)
          case hy27 => ((intro w hSw; (try dsimp only at hSw); (try go_split_ands); go_simp); try with_reducible rfl)
          simp only [Act.put, List.setIfInBounds_toArray, List.set_cons_zero, List.set_cons_succ]
          replace hCl := hCl'; clear hCl'
          have zf := frozB ek7
          clear hCl
          refine lastG (i := 15) (by kernel_rfl) rfl (by rfl) (by decide) (fun K hK => ?_)
          go_simp
          obtain ⟨Z, hZ⟩ : ∃ X, X2.setCell ⟨q0 + 1 + 1 + 1 + 1, 1, none⟩ (.slice ra (j + 1) rc) = X := ⟨_, rfl⟩
          have V3 : Up w Z := by rw [← hZ]; exact V2.set (p := ⟨q0 + 1 + 1 + 1 + 1, 1, none⟩) (show w.heap.size ≤ q0 + 1 + 1 + 1 + 1 by omega) _
          have hw3 : b2 ≤ Z.heap.size := by rw [← hZ]; simp only [World.size_setCell]; omega
          have dk7 : mblk Z (q0 + 1 + 1 + 1 + 1) = some (.cells #[.slice a N c, .slice ra (j + 1) rc, .slice none 0 0] 30 (0, 0)) := by rw [← hZ]; exact blk_put ek7 1 _
          have dkB : mblk Z (q0) = some (.cells (BoC (N : Int) bl bh rl rh (.slice (some ⟨g, off, none⟩) ps.length cP) (.slice aQ qs.length cQ) (.slice aL ls.length cL)) 27 (0, 0)) := by rw [← hZ, blk_set _ _ _ _ (by show q0 ≠ q0 + 1 + 1 + 1 + 1; omega)]; exact ekB
          have dkT : mblk Z (q0 + 1) = some (.cells #[.slice none 0 0, .slice none 0 0, .slice none 0 0] 30 (0, 0)) := by rw [← hZ, blk_set _ _ _ _ (by show q0 + 1 ≠ q0 + 1 + 1 + 1 + 1; omega)]; exact ekT
          have dkC : mblk Z (q0 + 1 + 1) = some (.cells #[.int .i64 0, .int .i64 0, .int .i64 0, .int .i64 0, .int .i64 0, .slice none 0 0, .slice none 0 0, .slice none 0 0] 27 (0, 0)) := by rw [← hZ, blk_set _ _ _ _ (by show q0 + 1 + 1 ≠ q0 + 1 + 1 + 1 + 1; omega)]; exact ekC
          have dk6 : mblk Z (q0 + 1 + 1 + 1) = some (.cells (BoC (N : Int) bl bh rl rh (.slice (some ⟨g, off, none⟩) ps.length cP) (.slice aQ qs.length cQ) (.slice none 0 0)) 27 (0, 0)) := by rw [← hZ, blk_set _ _ _ _ (by show q0 + 1 + 1 + 1 ≠ q0 + 1 + 1 + 1 + 1; omega)]; exact ek6
          have LHLr := Lib.hid (row_keep KHLr (grown_set X2 (q0 + 1 + 1 + 1 + 1) 1 (.slice ra (j + 1) rc)) (fun g0 e0 => by have := (HA1.out g0 e0).2; simp; omega))
          rw [hZ] at LHLr
          have HO2 := Lib.hid (row_other R2 (grown_set X2 (q0 + 1 + 1 + 1 + 1) 1 (.slice ra (j + 1) rc)) (row_block R2 (show q0 + 1 + 1 + 1 + 1 < b2 by omega)))
          rw [hZ] at HO2
          try rw [hZ]
          refine hK.out _ _ ?_
          clear hK K hZ V2 R2 zf A1 hb0 hb3 hb4 f0_ f1_ cc0 cc1 hHeld ekB ekT ekC ek6 ek7 kB kT kC k6 k7 U KHLr HLr HO VW HF2
          refine doneG (by kernel_rfl) ?_ _
          refine S.nrm_intro ?_
          clear HBS
          go_wp2_with fail
          go_roundw
          case rel => exact ⟨j + 1, E ++ [f1], ra, rc, by omega, by go_num, HSn, LHLr, HO2, hw3, V3, dkB, dkT, dkC, dk6, dk7⟩
          case measure => (simp only [intOf]; omega)
        · skip
          have hjN : ps.length = j := by omega
          subst hjN
          have dk : decide ((ps.length : Int) < (ps.length : Int)) = false := decide_eq_false (by omega)
          have HEN := Lib.hid HE.out
          have HEr := Lib.hid HO.out
          clear HE HO hlt hj
          obtain ⟨b3, hb3⟩ : ∃ x, wr.heap.size = x := ⟨_, rfl⟩
          have hb23 : b2 ≤ b3 := by omega
          have hw3 : b3 ≤ wr.heap.size := by omega
          have HA13 := Lib.hid (show ∀ g, Value.ownBlock (.slice a N c) = some g → g < b3 ∧ b1 ≤ g from fun g e => by have := HA1.out g e; omega)
          have HA2 := Lib.hid (show ∀ g, Value.ownBlock (.slice a2 ps.length c2) = some g → g < b3 ∧ b1 ≤ g from fun g e => by have := HEr.out.lt g e; omega)
          have HSQ := Lib.hid (T.WsE.nil (ps := qs))
          clear hb3 HA1
          go_wp2_with fail
          go_loopw [11] (fun i wr => ∃ (m : Nat) (Q : List Int) (a3 : Option Addr) (c3 : Nat), m ≤ qs.length ∧ i = .int .i64 m ∧ Hid (T.WsE qs Q m) ∧ Hid (wr.ownsRow b1 3 1 (.slice a N c) N (T.flat 1 T.encI L)) ∧ Hid (wr.ownsRow b2 3 1 (.slice a2 ps.length c2) ps.length (T.flat 1 T.encI E)) ∧ Hid (wr.ownsRow b3 3 1 (.slice a3 m c3) m (T.flat 1 T.encI Q)) ∧ b3 ≤ wr.heap.size ∧ Up w wr ∧ mblk wr (q0) = some (.cells (BoC (N : Int) bl bh rl rh (.slice aP ps.length cP) (.slice aQ qs.length cQ) (.slice aL ls.length cL)) 27 (0, 0)) ∧ mblk wr (q0 + 1) = some (.cells #[.slice none 0 0, .slice none 0 0, .slice none 0 0] 30 (0, 0)) ∧ mblk wr (q0 + 1 + 1) = some (.cells #[.int .i64 0, .int .i64 0, .int .i64 0, .int .i64 0, .int .i64 0, .slice none 0 0, .slice none 0 0, .slice none 0 0] 27 (0, 0)) ∧ mblk wr (q0 + 1 + 1 + 1) = some (.cells (BoC (N : Int) bl bh rl rh (.slice aP ps.length cP) (.slice aQ qs.length cQ) (.slice none 0 0)) 27 (0, 0)) ∧ mblk wr (q0 + 1 + 1 + 1 + 1) = some (.cells #[.slice a N c, .slice a2 ps.length c2, .slice a3 m c3] 30 (0, 0))) (fun i _ => qs.length - (intOf i).toNat)
          case atStart => exact ⟨0, [], none, 0, Nat.zero_le _, rfl, HSQ, HLr, HEr, Lib.hid (World.ownsRow_nil _ _ _ _), hw3, U, kB, kT, kC, k6, k7⟩
          case round =>
            clear U HSQ hw2 hw3 HLr HEr kB kT kC k6 k7
            obtain ⟨m, Q, a3, c3, hj, rfl, HQ, HLr, HEr, HO, hw2, U, kB, kT, kC, k6, k7⟩ := hrel
            by_cases hlt : m < qs.length
            · skip
              have ew : IntKind.i64.wrap ((m : Int) + 1) = (m : Int) + 1 := IntWalk.i64_in _ (by omega)
              have eo : IntKind.i64.wrap ((m : Int) + 5) = (m : Int) + 5 := IntWalk.i64_in _ (by omega)
              have dk : decide ((m : Int) < (qs.length : Int)) = true := decide_eq_true (by omega)
              have ilt : (m : Int) < (qs.length : Int) := by omega
              have hbs := (S.spanOk_iff.1 (HPQ.out.2.1 (qs.getD m (0, 0)) (T.getD_mem hlt)) : 0 ≤ (qs.getD m (0, 0)).1 ∧ (qs.getD m (0, 0)).1 ≤ (qs.getD m (0, 0)).2 ∧ (qs.getD m (0, 0)).2 ≤ 5000)
              obtain ⟨⟨r0, r1⟩, hss⟩ : ∃ s, qs.getD m (0, 0) = s := ⟨_, rfl⟩
              rw [hss] at hbs
              obtain ⟨a', c', e', _, _, hm⟩ := (HJ.out _ (Up.refl w)).is
              injection e' with ea eb ec
              clear eb ec
              obtain ⟨g, off, ga, gl, hx⟩ := hm (by omega)
              subst ea ga
              clear hm
              have cc0 := (U.facts.1 g _ gl).trans (hx m hlt 0 (by omega))
              have cc1 := (U.facts.1 g _ gl).trans (hx m hlt 1 (by omega))
              rw [hss] at cc0 cc1
              replace cc0 : wr.cell? ⟨g, off + m * 2, none⟩ = some (.int .i64 r0) := cc0
              replace cc1 : wr.cell? ⟨g, off + m * 2 + 1, none⟩ = some (.int .i64 r1) := cc1
              clear hx
              obtain ⟨f1, hf1⟩ : ∃ x, S.frm r0 r1 (S.at xs ((m : Int) + 5)) = x := ⟨_, rfl⟩
              have hf2 : r0 ≤ f1 ∧ f1 ≤ r1 := by rw [← hf1]; exact S.frm_in (by have := hbs.2.1; dsimp only at this; omega) _
              have HSn := Lib.hid (HQ.out.snoc (v := f1) (by rw [hss]; exact hf2))
              have HF2 := Lib.hid (fun w' => show Calls Try.prog 83 #[SpV r0 r1, .int .i64 (S.at xs ((m : Int) + 5))] w' fun e w'' => e = .returned (.int .i64 f1) ∧ Up w' w'' by rw [← hf1]; exact B_From_any r0 r1 _ w' (by have := hbs; dsimp only at this; omega) (by have := hbs; dsimp only at this; omega) (by have := hbs; dsimp only at this; omega) (by have := hbs; dsimp only at this; omega))
              have HBS := Lib.hid hbs
              clear hf1 hf2 hbs hss HQ
              go_wp2_with fail
              refine (wpIn_wide (n := 5)).1 ?_
              refine wpIn_nrm ?_
              refine regionG (fun w' => Up w w' ∧ mblk w' (q0) = some (.cells (BoC (N : Int) bl bh rl rh (.slice aP ps.length cP) (.slice (some ⟨g, off, none⟩) qs.length cQ) (.slice aL ls.length cL)) 27 (0, 0)) ∧ mblk w' (q0 + 1) = some (.cells #[.slice none 0 0, .slice none 0 0, .slice none 0 0] 30 (0, 0)) ∧ mblk w' (q0 + 1 + 1) = some (.cells #[.int .i64 0, .int .i64 0, .int .i64 0, .int .i64 0, .int .i64 0, .slice none 0 0, .slice none 0 0, .slice none 0 0] 27 (0, 0)) ∧ mblk w' (q0 + 1 + 1 + 1) = some (.cells (BoC (N : Int) bl bh rl rh (.slice aP ps.length cP) (.slice (some ⟨g, off, none⟩) qs.length cQ) (.slice none 0 0)) 27 (0, 0)) ∧ mblk w' (q0 + 1 + 1 + 1 + 1) = some (.cells #[.slice a N c, .slice a2 ps.length c2, .slice a3 m c3] 30 (0, 0)) ∧ w'.cell? ⟨g, off + m * 2, none⟩ = some (.int .i64 r0) ∧ w'.cell? ⟨g, off + m * 2 + 1, none⟩ = some (.int .i64 r1)) 15 hmx ⟨U.drew, (by rw [blk_drew]; exact kB), (by rw [blk_drew]; exact kT), (by rw [blk_drew]; exact kC), (by rw [blk_drew]; exact k6), (by rw [blk_drew]; exact k7), cc0, cc1⟩ (fun hHeld hCl => ?_)
              refine takeG (i := 0) (d := (some 73)) (v := ?v29) rfl rfl (by kernel_rfl) (by kernel_rfl) (by decide) hCl (by kernel_rfl) (by kernel_rfl) (by kernel_rfl) (fun _ _ _ h => h) (by rfl) ?hy29 (fun _ _ _ => trivial) (by assumption) (fun hCl' => ?_)
              case hy29 => ((intro w hSw; (try dsimp only at hSw); (try go_split_ands); go_simp); try with_reducible rfl)
              simp only [Act.put, List.setIfInBounds_toArray, List.set_cons_zero, List.set_cons_succ]
              replace hCl := hCl'; clear hCl'
              refine takeG (i := 1) (d := (some 74)) (v := ?v30) rfl rfl (by kernel_rfl) (by kernel_rfl) (by decide) hCl (by kernel_rfl) (by kernel_rfl) (by kernel_rfl) (fun _ _ _ h => h) (by rfl) ?hy30 (fun _ _ _ => trivial) (by assumption) (fun hCl' => ?_)
              case hy30 => ((intro w hSw; (try dsimp only at hSw); (try go_split_ands); go_simp); try with_reducible rfl)
              simp only [Act.put, List.setIfInBounds_toArray, List.set_cons_zero, List.set_cons_succ]
              replace hCl := hCl'; clear hCl'
              refine takeG (i := 2) (d := (some 75)) (v := ?v31) rfl rfl (by kernel_rfl) (by kernel_rfl) (by decide) hCl (by kernel_rfl) (by kernel_rfl) (by kernel_rfl) (fun _ _ _ h => h) (by rfl) ?hy31 (fun _ _ _ => trivial) (by assumption) (fun hCl' => ?_)
              case hy31 => ((intro w hSw; (try dsimp only at hSw); (try go_split_ands); go_simp); try with_reducible rfl)
              simp only [Act.put, List.setIfInBounds_toArray, List.set_cons_zero, List.set_cons_succ]
              replace hCl := hCl'; clear hCl'
              refine takeG (i := 3) (d := (some 76)) (v := ?v32) rfl rfl (by kernel_rfl) (by kernel_rfl) (by decide) hCl (by kernel_rfl) (by kernel_rfl) (by kernel_rfl) (fun _ _ _ h => h) (by rfl) ?hy32 (fun _ _ _ => trivial) (by assumption) (fun hCl' => ?_)
              case hy32 => ((intro w hSw; (try dsimp only at hSw); (try go_split_ands); go_simp); try with_reducible rfl)
              simp only [Act.put, List.setIfInBounds_toArray, List.set_cons_zero, List.set_cons_succ]
              replace hCl := hCl'; clear hCl'
              refine takeG (i := 4) (d := (some 77)) (v := ?v33) rfl rfl (by kernel_rfl) (by kernel_rfl) (by decide) hCl (by kernel_rfl) (by kernel_rfl) (by kernel_rfl) (fun _ _ _ h => h) (by rfl) ?hy33 (fun _ _ _ => trivial) (by assumption) (fun hCl' => ?_)
              case hy33 => ((intro w hSw; (try dsimp only at hSw); (try go_split_ands); go_simp); try with_reducible rfl)
              simp only [Act.put, List.setIfInBounds_toArray, List.set_cons_zero, List.set_cons_succ]
              replace hCl := hCl'; clear hCl'
              refine takeG (i := 5) (d := (some 78)) (v := ?v34) rfl rfl (by kernel_rfl) (by kernel_rfl) (by decide) hCl (by kernel_rfl) (by kernel_rfl) (by kernel_rfl) (fun _ _ _ h => h) (by rfl) ?hy34 (fun _ _ _ => trivial) (by assumption) (fun hCl' => ?_)
              case hy34 => ((intro w hSw; (try dsimp only at hSw); (try go_split_ands); go_simp); try with_reducible rfl)
              simp only [Act.put, List.setIfInBounds_toArray, List.set_cons_zero, List.set_cons_succ]
              replace hCl := hCl'; clear hCl'
              refine takeG (i := 6) (d := (some 79)) (v := ?v35) rfl rfl (by kernel_rfl) (by kernel_rfl) (by decide) hCl (by kernel_rfl) (by kernel_rfl) (by kernel_rfl) (fun _ _ _ h => h) (by rfl) ?hy35 (fun _ _ _ => trivial) (by assumption) (fun hCl' => ?_)
              case hy35 => ((intro w hSw; (try dsimp only at hSw); (try go_split_ands); go_simp); try with_reducible rfl)
              simp only [Act.put, List.setIfInBounds_toArray, List.set_cons_zero, List.set_cons_succ]
              replace hCl := hCl'; clear hCl'
              refine takeG (i := 7) (d := (some 80)) (v := ?v36) rfl rfl (by kernel_rfl) (by kernel_rfl) (by decide) hCl (by kernel_rfl) (by kernel_rfl) (by kernel_rfl) (fun _ _ _ h => h) (by rfl) ?hy36 (fun _ _ _ => trivial) (by assumption) (fun hCl' => ?_)
              case hy36 => ((intro w hSw; (try dsimp only at hSw); (try go_split_ands); go_simp); try with_reducible rfl)
              simp only [Act.put, List.setIfInBounds_toArray, List.set_cons_zero, List.set_cons_succ]
              replace hCl := hCl'; clear hCl'
              refine takeG (i := 8) (d := (some 81)) (v := ?v37) rfl rfl (by kernel_rfl) (by kernel_rfl) (by decide) hCl (by kernel_rfl) (by kernel_rfl) (by kernel_rfl) (fun _ _ _ h => h) (by rfl) ?hy37 (fun _ _ _ => trivial) (by assumption) (fun hCl' => ?_)
              case hy37 => ((intro w hSw; (try dsimp only at hSw); (try go_split_ands); go_simp); try with_reducible rfl)
              simp only [Act.put, List.setIfInBounds_toArray, List.set_cons_zero, List.set_cons_succ]
              replace hCl := hCl'; clear hCl'
              refine takeG (i := 9) (d := (some 82)) (v := ?v38) rfl rfl (by kernel_rfl) (by kernel_rfl) (by decide) hCl (by kernel_rfl) (by kernel_rfl) (by kernel_rfl) (fun _ _ _ h => h) (by rfl) ?hy38 (fun _ _ _ => trivial) (by assumption) (fun hCl' => ?_)
              case hy38 => ((intro w hSw; (try dsimp only at hSw); (try go_split_ands); go_simp); try with_reducible rfl)
              simp only [Act.put, List.setIfInBounds_toArray, List.set_cons_zero, List.set_cons_succ]
              replace hCl := hCl'; clear hCl'
              refine nextG (i := 10) (by kernel_rfl) rfl (by rfl) hCl (fun K hK => ?_)
              go_simp
              refine ⟨trivial, (callsIn_wide.2 (HAt.out _ hHeld.1 ((m : Int) + 5))).mono ?_⟩
              rintro e' w9 ⟨rfl, rfl⟩
              refine hK.out _ _ hHeld (fun hHeld hCl => ?_)
              clear hK K
              try dsimp only [List.getElem_toArray, List.getElem_cons_succ, List.getElem_cons_zero]
              try simp only [Act.put, List.setIfInBounds_toArray, List.set_cons_zero, List.set_cons_succ]
              refine nextG (i := 11) (by kernel_rfl) rfl (by rfl) hCl (fun K hK => ?_)
              go_simp
              refine ⟨trivial, (callsIn_wide.2 (HF2.out _)).mono ?_⟩
              rintro e' X1 ⟨rfl, u⟩
              have VW : Up wr X1 := (Up.refl wr).drew.trans u
              refine hK.out _ _ ⟨hHeld.1.trans u, u.blk hHeld.2.1, u.blk hHeld.2.2.1, u.blk hHeld.2.2.2.1, u.blk hHeld.2.2.2.2.1, u.blk hHeld.2.2.2.2.2.1, u.cell2 hHeld.2.2.2.2.2.2.1, u.cell2 hHeld.2.2.2.2.2.2.2⟩ (fun hHeld hCl => ?_)
              clear hK K u
              try dsimp only [List.getElem_toArray, List.getElem_cons_succ, List.getElem_cons_zero]
              try simp only [Act.put, List.setIfInBounds_toArray, List.set_cons_zero, List.set_cons_succ]
              refine nextG (i := 12) (by kernel_rfl) rfl (by rfl) hCl (fun K hK => ?_)
              go_simp
              have A1 : Up X1 (X1.alloc (.cells #[.int .i64 f1] 3)) := Up.alloc (Up.refl X1) _
              have pl := blk_new X1 (.cells #[.int .i64 f1] 3) _ rfl
              have hb0 : b3 ≤ X1.heap.size := Nat.le_trans hw2 VW.size
              obtain ⟨q7, hq7⟩ : ∃ q, X1.heap.size = q := ⟨_, rfl⟩
              obtain ⟨X3, hX3⟩ : ∃ X, X1.alloc (.cells #[.int .i64 f1] 3) = X := ⟨_, rfl⟩
              rw [hX3] at A1 pl
              have hb3 := A1.size
              rw [hq7] at pl hb0 hb3
              try rw [hX3]
              try rw [hq7]
              refine hK.out _ _ ⟨hHeld.1.trans A1, A1.blk hHeld.2.1, A1.blk hHeld.2.2.1, A1.blk hHeld.2.2.2.1, A1.blk hHeld.2.2.2.2.1, A1.blk hHeld.2.2.2.2.2.1, A1.cell2 hHeld.2.2.2.2.2.2.1, A1.cell2 hHeld.2.2.2.2.2.2.2⟩ (fun hHeld hCl => ?_)
              clear hK K hX3 hq7
              try dsimp only [List.getElem_toArray, List.getElem_cons_succ, List.getElem_cons_zero]
              try simp only [Act.put, List.setIfInBounds_toArray, List.set_cons_zero, List.set_cons_succ]
              refine nextG (i := 13) (by kernel_rfl) rfl (by rfl) hCl (fun K hK => ?_)
              have R1 := row_up (row_up HO.out VW) A1
              refine T.opIn_app T.elI (.tmp 74) (.tmp 85) rfl (T.one_int _ _ pl) rfl b3 _ m rfl R1 (by omega) (by simp) (by omega) ?_
              intro v2 X2 R2 hg2
              replace R2 : X2.ownsRow b3 3 1 v2 (m + 1) _ := R2
              obtain ⟨ra, rc, rfl, _, _⟩ := row_val R2
              have V2 := Up.grown hHeld.1 hg2 (fun k e => by have := row_base R1 k e; omega)
              have ekB := grown_blk hg2 hHeld.2.1 (row_block R1 (by omega))
              have ekT := grown_blk hg2 hHeld.2.2.1 (row_block R1 (by omega))
              have ekC := grown_blk hg2 hHeld.2.2.2.1 (row_block R1 (by omega))
              have ek6 := grown_blk hg2 hHeld.2.2.2.2.1 (row_block R1 (by omega))
              have ek7 := grown_blk hg2 hHeld.2.2.2.2.2.1 (row_block R1 (by omega))
              have f0_ := hg2.cell hHeld.2.2.2.2.2.2.1 (row_block R1 (show g < b3 by omega))
              have f1_ := hg2.cell hHeld.2.2.2.2.2.2.2 (row_block R1 (show g < b3 by omega))
              have KHLr := row_keep (row_up (row_up HLr.out VW) A1) hg2 (fun g0 e0 => row_block R1 (HA13.out g0 e0).1)
              have KHEr := row_keep (row_up (row_up HEr.out VW) A1) hg2 (fun g0 e0 => row_block R1 (HA2.out g0 e0).1)
              have hb4 := hg2.size
              refine hK.out _ _ ⟨V2, ekB, ekT, ekC, ek6, ek7, f0_, f1_⟩ (fun _ hCl => ?_)
              clear hK K hg2 pl R1
              try dsimp only [List.getElem_toArray, List.getElem_cons_succ, List.getElem_cons_zero]
              try simp only [Act.put, List.setIfInBounds_toArray, List.set_cons_zero, List.set_cons_succ]
              refine takeG (i := 14) (d := (some 87)) (v := ?v42) rfl rfl (by kernel_rfl) (by kernel_rfl) (by decide) hCl (by kernel_rfl) (by kernel_rfl) (by kernel_rfl) (fun _ _ _ h => h) (by rfl) ?hy42 (fun _ _ _ => trivial) (by assumption) (fun hCl' => ?_)
              case hy42 => ((intro w hSw; (try dsimp only at hSw); (try go_split_ands); go_simp); try with_reducible rfl)
              simp only [Act.put, List.setIfInBounds_toArray, List.set_cons_zero, List.set_cons_succ]
              replace hCl := hCl'; clear hCl'
              have zf := frozB ek7
              clear hCl
              refine lastG (i := 15) (by kernel_rfl) rfl (by rfl) (by decide) (fun K hK => ?_)
              go_simp
              obtain ⟨Z, hZ⟩ : ∃ X, X2.setCell ⟨q0 + 1 + 1 + 1 + 1, 2, none⟩ (.slice ra (m + 1) rc) = X := ⟨_, rfl⟩
              have V3 : Up w Z := by rw [← hZ]; exact V2.set (p := ⟨q0 + 1 + 1 + 1 + 1, 2, none⟩) (show w.heap.size ≤ q0 + 1 + 1 + 1 + 1 by omega) _
              have hw3 : b3 ≤ Z.heap.size := by rw [← hZ]; simp only [World.size_setCell]; omega
              have dk7 : mblk Z (q0 + 1 + 1 + 1 + 1) = some (.cells #[.slice a N c, .slice a2 ps.length c2, .slice ra (m + 1) rc] 30 (0, 0)) := by rw [← hZ]; exact blk_put ek7 2 _
              have dkB : mblk Z (q0) = some (.cells (BoC (N : Int) bl bh rl rh (.slice aP ps.length cP) (.slice (some ⟨g, off, none⟩) qs.length cQ) (.slice aL ls.length cL)) 27 (0, 0)) := by rw [← hZ, blk_set _ _ _ _ (by show q0 ≠ q0 + 1 + 1 + 1 + 1; omega)]; exact ekB
              have dkT : mblk Z (q0 + 1) = some (.cells #[.slice none 0 0, .slice none 0 0, .slice none 0 0] 30 (0, 0)) := by rw [← hZ, blk_set _ _ _ _ (by show q0 + 1 ≠ q0 + 1 + 1 + 1 + 1; omega)]; exact ekT
              have dkC : mblk Z (q0 + 1 + 1) = some (.cells #[.int .i64 0, .int .i64 0, .int .i64 0, .int .i64 0, .int .i64 0, .slice none 0 0, .slice none 0 0, .slice none 0 0] 27 (0, 0)) := by rw [← hZ, blk_set _ _ _ _ (by show q0 + 1 + 1 ≠ q0 + 1 + 1 + 1 + 1; omega)]; exact ekC
              have dk6 : mblk Z (q0 + 1 + 1 + 1) = some (.cells (BoC (N : Int) bl bh rl rh (.slice aP ps.length cP) (.slice (some ⟨g, off, none⟩) qs.length cQ) (.slice none 0 0)) 27 (0, 0)) := by rw [← hZ, blk_set _ _ _ _ (by show q0 + 1 + 1 + 1 ≠ q0 + 1 + 1 + 1 + 1; omega)]; exact ek6
              have LHLr := Lib.hid (row_keep KHLr (grown_set X2 (q0 + 1 + 1 + 1 + 1) 2 (.slice ra (m + 1) rc)) (fun g0 e0 => by have := (HA13.out g0 e0).2; simp; omega))
              rw [hZ] at LHLr
              have LHEr := Lib.hid (row_keep KHEr (grown_set X2 (q0 + 1 + 1 + 1 + 1) 2 (.slice ra (m + 1) rc)) (fun g0 e0 => by have := (HA2.out g0 e0).2; simp; omega))
              rw [hZ] at LHEr
              have HO2 := Lib.hid (row_other R2 (grown_set X2 (q0 + 1 + 1 + 1 + 1) 2 (.slice ra (m + 1) rc)) (row_block R2 (show q0 + 1 + 1 + 1 + 1 < b3 by omega)))
              rw [hZ] at HO2
              try rw [hZ]
              refine hK.out _ _ ?_
              clear hK K hZ V2 R2 zf A1 hb0 hb3 hb4 f0_ f1_ cc0 cc1 hHeld ekB ekT ekC ek6 ek7 kB kT kC k6 k7 U KHLr KHEr HLr HEr HO VW HF2
              refine doneG (by kernel_rfl) ?_ _
              refine S.nrm_intro ?_
              clear HBS
              go_wp2_with fail
              go_roundw
              case rel => exact ⟨m + 1, Q ++ [f1], ra, rc, by omega, by go_num, HSn, LHLr, LHEr, HO2, hw3, V3, dkB, dkT, dkC, dk6, dk7⟩
              case measure => (simp only [intOf]; omega)
            · skip
              have hmN : qs.length = m := by omega
              subst hmN
              have dk : decide ((qs.length : Int) < (qs.length : Int)) = false := decide_eq_false (by omega)
              have HQN := Lib.hid HQ.out
              have HQr := Lib.hid HO.out
              clear HQ HO hlt hj
              obtain ⟨b4, hb4⟩ : ∃ x, wr.heap.size = x := ⟨_, rfl⟩
              have hb34 : b3 ≤ b4 := by omega
              have hw3 : b4 ≤ wr.heap.size := by omega
              have HB1 := Lib.hid (show ∀ g, Value.ownBlock (.slice a N c) = some g → g < b4 ∧ b1 ≤ g from fun g e => by have := HA13.out g e; omega)
              have HB2 := Lib.hid (show ∀ g, Value.ownBlock (.slice a2 ps.length c2) = some g → g < b4 ∧ b1 ≤ g from fun g e => by have := HA2.out g e; omega)
              have HB3 := Lib.hid (show ∀ g, Value.ownBlock (.slice a3 qs.length c3) = some g → g < b4 ∧ b1 ≤ g from fun g e => by have := HQr.out.lt g e; omega)
              have HSK := Lib.hid (T.WsK.nil (nP := ps.length) (nQ := qs.length) (N := (N : Int)) (y := T.wsY L E Q) (k := 0))
              clear hb4 HA13 HA2
              go_wp2_with fail
              go_loopw [12] (fun i wr => ∃ (k n4 : Nat) (ls' : List T.T5) (a4 : Option Addr) (c4 : Nat), k ≤ ls.length ∧ n4 ≤ k ∧ i = .int .i64 k ∧ Hid (T.WsK ps.length qs.length (N : Int) (T.wsY L E Q) ls' k) ∧ Hid (wr.ownsRow b1 3 1 (.slice a N c) N (T.flat 1 T.encI L)) ∧ Hid (wr.ownsRow b2 3 1 (.slice a2 ps.length c2) ps.length (T.flat 1 T.encI E)) ∧ Hid (wr.ownsRow b3 3 1 (.slice a3 qs.length c3) qs.length (T.flat 1 T.encI Q)) ∧ Hid (wr.ownsRow b4 63 5 (.slice a4 n4 c4) n4 (T.flat 5 T.encL ls')) ∧ b4 ≤ wr.heap.size ∧ Up w wr ∧ mblk wr (q0) = some (.cells (BoC (N : Int) bl bh rl rh (.slice aP ps.length cP) (.slice aQ qs.length cQ) (.slice aL ls.length cL)) 27 (0, 0)) ∧ mblk wr (q0 + 1) = some (.cells #[.slice none 0 0, .slice none 0 0, .slice none 0 0] 30 (0, 0)) ∧ mblk wr (q0 + 1 + 1) = some (.cells #[.int .i64 0, .int .i64 0, .int .i64 0, .int .i64 0, .int .i64 0, .slice none 0 0, .slice none 0 0, .slice none 0 0] 27 (0, 0)) ∧ mblk wr (q0 + 1 + 1 + 1) = some (.cells (BoC (N : Int) bl bh rl rh (.slice aP ps.length cP) (.slice aQ qs.length cQ) (.slice a4 n4 c4)) 27 (0, 0)) ∧ mblk wr (q0 + 1 + 1 + 1 + 1) = some (.cells #[.slice a N c, .slice a2 ps.length c2, .slice a3 qs.length c3] 30 (0, 0))) (fun i _ => ls.length - (intOf i).toNat)
              case atStart => exact ⟨0, 0, [], none, 0, Nat.zero_le _, Nat.le_refl _, rfl, HSK, HLr, HEr, HQr, Lib.hid (World.ownsRow_nil _ _ _ _), hw3, U, kB, kT, kC, k6, k7⟩
              case round =>
                clear U HSK hw2 hw3 HLr HEr HQr kB kT kC k6 k7
                obtain ⟨k, n4, ls', a4, c4, hj, hn4, rfl, HK4, HLr, HEr, HQr, HO, hw2, U, kB, kT, kC, k6, k7⟩ := hrel
                by_cases hlt : k < ls.length
                · skip
                  have ew : IntKind.i64.wrap ((k : Int) + 1) = (k : Int) + 1 := IntWalk.i64_in _ (by omega)
                  have eo : IntKind.i64.wrap ((k : Int) + 7) = (k : Int) + 7 := IntWalk.i64_in _ (by omega)
                  have dk : decide ((k : Int) < (ls.length : Int)) = true := decide_eq_true (by omega)
                  have ilt : (k : Int) < (ls.length : Int) := by omega
                  have hok := HPQ.out.2.2 (ls.getD k (0, 0, 0, 0, 0)) (T.getD_mem hlt)
                  obtain ⟨n, wh, kd, r, er, hss, ln, hkd, br, be⟩ := T.look_pl HV.out hlt
                  rw [hss] at hok
                  obtain ⟨a', c', e', _, _, hm⟩ := (HK.out _ (Up.refl w)).is
                  injection e' with ea eb ec
                  clear eb ec
                  obtain ⟨g, off, ga, gl, hx⟩ := hm (by omega)
                  subst ea ga
                  clear hm
                  have cc0 := (U.facts.1 g _ gl).trans (hx k hlt 0 (by omega))
                  rw [hss] at cc0
                  replace cc0 : wr.cell? ⟨g, off + k * 5, none⟩ = some (.int .i64 (n : Int)) := cc0
                  have cc1 := (U.facts.1 g _ gl).trans (hx k hlt 1 (by omega))
                  rw [hss] at cc1
                  replace cc1 : wr.cell? ⟨g, off + k * 5 + 1, none⟩ = some (.int .i64 kd) := cc1
                  have cc2 := (U.facts.1 g _ gl).trans (hx k hlt 2 (by omega))
                  rw [hss] at cc2
                  replace cc2 : wr.cell? ⟨g, off + k * 5 + 2, none⟩ = some (.int .i64 (wh : Int)) := cc2
                  have cc3 := (U.facts.1 g _ gl).trans (hx k hlt 3 (by omega))
                  rw [hss] at cc3
                  replace cc3 : wr.cell? ⟨g, off + k * 5 + 3, none⟩ = some (.int .i64 r) := cc3
                  have cc4 := (U.facts.1 g _ gl).trans (hx k hlt 4 (by omega))
                  rw [hss] at cc4
                  replace cc4 : wr.cell? ⟨g, off + k * 5 + 4, none⟩ = some (.int .i64 er) := cc4
                  obtain ⟨gL, oL, rfl, cL0⟩ := T.row_num HLr.out (by omega) ln
                  have bL := HLN.out.bd (by have := HBR.out; omega) (by have := HBR.out; omega) n ln
                  obtain ⟨vL, hvL⟩ : ∃ x, L.getD n 0 = x := ⟨_, rfl⟩
                  rw [hvL] at cL0 bL
                  have iln : (n : Int) < (N : Int) := by omega
                  have Uz := Up.refl wr
                  have HOK := Lib.hid hok
                  clear hx gl hss hok
                  rcases hkd with ⟨rfl, lw⟩ | ⟨rfl, lw⟩
                  · skip
                    obtain ⟨gW, oW, rfl, cW0⟩ := T.row_num HEr.out (by omega) lw
                    have bW := HEN.out.2 wh lw
                    have bS : -2000 ≤ (ps.getD wh (0, 0)).1 ∧ (ps.getD wh (0, 0)).1 ≤ (ps.getD wh (0, 0)).2 ∧ (ps.getD wh (0, 0)).2 ≤ 2000 := S.spanOk_iff.1 (HPQ.out.1 (ps.getD wh (0, 0)) (T.getD_mem lw))
                    obtain ⟨vW, hvW⟩ : ∃ x, E.getD wh 0 = x := ⟨_, rfl⟩
                    rw [hvW] at cW0 bW
                    have ilw : (wh : Int) < (ps.length : Int) := by omega
                    obtain ⟨at_, hat⟩ : ∃ x, vL + vW = x := ⟨_, rfl⟩
                    have wat : IntKind.i64.wrap (vL + vW) = at_ := by rw [← hat]; exact IntWalk.i64_in _ (by omega)
                    have hHL := fun r' => T.ws_at (L := L) (E := E) (Q := Q) (n := n) (w := wh) (kd := 0) (r := r') (e := er) (by omega) (by omega) (by decide) at_ (by rw [← hat, hvL, hvW]; rfl)
                    have HHL := Lib.hid hHL
                    obtain ⟨f1, hf1⟩ : ∃ x, S.frm (-er) er (S.at xs ((k : Int) + 7)) = x := ⟨_, rfl⟩
                    have hf2 : -er ≤ f1 ∧ f1 ≤ er := by rw [← hf1]; exact S.frm_in (by omega) _
                    have HF2 := Lib.hid (fun w' => show Calls Try.prog 83 #[SpV (-er) er, .int .i64 (S.at xs ((k : Int) + 7))] w' fun e w'' => e = .returned (.int .i64 f1) ∧ Up w' w'' by rw [← hf1]; exact B_From_any (-er) er _ w' (by omega) (by omega) (by omega) (by omega))
                    have wne : IntKind.i64.wrap (-er) = -er := IntWalk.i64_in _ (by omega)
                    have wsm : IntKind.i64.wrap (at_ + f1) = at_ + f1 := IntWalk.i64_in _ (by omega)
                    obtain ⟨y1, hy1⟩ : ∃ z, Min.min 30000 (at_ + f1) = z := ⟨_, rfl⟩
                    obtain ⟨r', hr'⟩ : ∃ z, Max.max (-30000) y1 = z := ⟨_, rfl⟩
                    have M1 := min_run hy1
                    have M2 := max_run hr'
                    have br' : -30000 ≤ r' ∧ r' ≤ 30000 := by rw [← hr', ← hy1]; exact T.wsC_bd _
                    have wm1 : IntKind.i64.wrap (r' - er) = r' - er := IntWalk.i64_in _ (by omega)
                    have wm2 : IntKind.i64.wrap (r' + er) = r' + er := IntWalk.i64_in _ (by omega)
                    obtain ⟨bo, hbo⟩ : ∃ z, inB at_ (r' - er) (r' + er) = z := ⟨_, rfl⟩
                    have HBo := Lib.hid hbo
                    have HLi := Lib.hid (fun w' => show Calls Try.prog 60 #[.int .i64 at_, .int .i64 (r' - er), .int .i64 (r' + er)] w' fun e w'' => e = .returned (.bool bo) ∧ w' = w'' by rw [← hbo]; exact B_Lies_any _ _ _ _)
                    have HOK' := Lib.hid (T.look_re HOK.out br')
                    have HTo := Lib.hid (fun w' => B_To_any (-er) er w')
                    have HU := Lib.hid U
                    clear hat hHL hf1 hf2 hy1 hr' br' hbo bL bW bS hvL hvW HOK br be
                    have i_kB := kB
                    have dkBkx := blk_lt kB
                    have dkTkx := blk_lt kT
                    have dkCkx := blk_lt kC
                    have dk6kx := blk_lt k6
                    have dk7kx := blk_lt k7
                    have gkx := U.size
                    have kx := blk_new wr (.cells #[.int .i64 (n : Int), .int .i64 0, .int .i64 (wh : Int), .int .i64 r, .int .i64 er] 63) _ rfl
                    replace kB := blk_keep (.cells #[.int .i64 (n : Int), .int .i64 0, .int .i64 (wh : Int), .int .i64 r, .int .i64 er] 63) kB
                    replace kT := blk_keep (.cells #[.int .i64 (n : Int), .int .i64 0, .int .i64 (wh : Int), .int .i64 r, .int .i64 er] 63) kT
                    replace kC := blk_keep (.cells #[.int .i64 (n : Int), .int .i64 0, .int .i64 (wh : Int), .int .i64 r, .int .i64 er] 63) kC
                    replace k6 := blk_keep (.cells #[.int .i64 (n : Int), .int .i64 0, .int .i64 (wh : Int), .int .i64 r, .int .i64 er] 63) k6
                    replace k7 := blk_keep (.cells #[.int .i64 (n : Int), .int .i64 0, .int .i64 (wh : Int), .int .i64 r, .int .i64 er] 63) k7
                    replace U := U.alloc (.cells #[.int .i64 (n : Int), .int .i64 0, .int .i64 (wh : Int), .int .i64 r, .int .i64 er] 63)
                    replace Uz := Uz.alloc (.cells #[.int .i64 (n : Int), .int .i64 0, .int .i64 (wh : Int), .int .i64 r, .int .i64 er] 63)
                    obtain ⟨pkx, hpkx⟩ : ∃ z, wr.heap.size = z := ⟨_, rfl⟩
                    obtain ⟨W501, hW501⟩ : ∃ z, wr.alloc (.cells #[.int .i64 (n : Int), .int .i64 0, .int .i64 (wh : Int), .int .i64 r, .int .i64 er] 63) = z := ⟨_, rfl⟩
                    rw [hpkx] at kx dkBkx dkTkx dkCkx dk6kx dk7kx gkx
                    rw [hW501] at kx U kB kT kC k6 k7 Uz
                    have rL := Uz.cell2 cL0
                    have rW := Uz.cell2 cW0
                    go_wp2_with fail
                    have gkz : wr.heap.size ≤ pkx := by omega
                    clear i_kB cc0 cc1 cc2 cc3 cc4 cL0 cW0 rL rW
                    clear hpkx hW501
                    refine (HTo.out _).mono ?_
                    rintro e x502 ⟨rfl, u503⟩
                    replace U := U.trans u503
                    replace kB := u503.blk kB
                    replace kT := u503.blk kT
                    replace kC := u503.blk kC
                    replace k6 := u503.blk k6
                    replace k7 := u503.blk k7
                    replace kx := u503.blk kx
                    replace Uz := Uz.trans u503
                    clear u503 HTo
                    have Hu := Lib.hid (HU.out.trans Uz)
                    go_wp2_with fail
                    refine (HAt.out _ Hu.out ((k : Int) + 7)).mono ?_
                    rintro e x504 ⟨rfl, rfl⟩
                    go_wp2_with fail
                    refine (HF2.out _).mono ?_
                    rintro e x505 ⟨rfl, u506⟩
                    replace U := U.trans u506
                    replace kB := u506.blk kB
                    replace kT := u506.blk kT
                    replace kC := u506.blk kC
                    replace k6 := u506.blk k6
                    replace k7 := u506.blk k7
                    replace kx := u506.blk kx
                    replace Uz := Uz.trans u506
                    clear u506 HF2
                    have zf := frozB kx
                    have i0 := kx
                    have U1 := (U.set (p := ⟨pkx, 3, none⟩) (show w.heap.size ≤ pkx by omega) (.int .i64 r'))
                    have VUz := (Uz.set (p := ⟨pkx, 3, none⟩) (show wr.heap.size ≤ pkx by omega) (.int .i64 r'))
                    have jkB := kB
                    rw [← blk_set (x505) ⟨pkx, 3, none⟩ (.int .i64 r') (q0) (by show q0 ≠ pkx; omega)] at jkB
                    have jkT := kT
                    rw [← blk_set (x505) ⟨pkx, 3, none⟩ (.int .i64 r') (q0 + 1) (by show q0 + 1 ≠ pkx; omega)] at jkT
                    have jkC := kC
                    rw [← blk_set (x505) ⟨pkx, 3, none⟩ (.int .i64 r') (q0 + 1 + 1) (by show q0 + 1 + 1 ≠ pkx; omega)] at jkC
                    have jk6 := k6
                    rw [← blk_set (x505) ⟨pkx, 3, none⟩ (.int .i64 r') (q0 + 1 + 1 + 1) (by show q0 + 1 + 1 + 1 ≠ pkx; omega)] at jk6
                    have jk7 := k7
                    rw [← blk_set (x505) ⟨pkx, 3, none⟩ (.int .i64 r') (q0 + 1 + 1 + 1 + 1) (by show q0 + 1 + 1 + 1 + 1 ≠ pkx; omega)] at jk7
                    have jkx : mblk ((x505).setCell ⟨pkx, 3, none⟩ (.int .i64 r')) pkx = some (.cells #[.int .i64 (n : Int), .int .i64 0, .int .i64 (wh : Int), .int .i64 r', .int .i64 er] 63 (0, 0)) := (blk_put kx 3 (.int .i64 r'))
                    obtain ⟨W507, hW507⟩ : ∃ z, (x505).setCell ⟨pkx, 3, none⟩ (.int .i64 r') = z := ⟨_, rfl⟩
                    rw [hW507] at jkB jkT jkC jk6 jk7 jkx U1 VUz
                    clear Uz
                    have Uz := VUz
                    clear VUz
                    clear kB kT kC k6 k7 kx U
                    have kB := jkB
                    have kT := jkT
                    have kC := jkC
                    have k6 := jk6
                    have k7 := jk7
                    have kx := jkx
                    have U := U1
                    clear jkB jkT jkC jk6 jk7 jkx U1
                    go_wp2_with fail
                    clear hW507 zf i0
                    refine (HLi.out _).mono ?_
                    rintro e x508 ⟨rfl, rfl⟩
                    clear HLi
                    clear M1 M2 Hu
                    have HRl := Lib.hid (row_up HLr.out Uz)
                    have HRe := Lib.hid (row_up HEr.out Uz)
                    have HRq := Lib.hid (row_up HQr.out Uz)
                    have HOx := Lib.hid (row_up HO.out Uz)
                    have hwx := Nat.le_trans hw2 Uz.size
                    clear HLr HEr HQr HO Uz HU hw2
                    cases bo with
                    | false =>
                      have HN := Lib.hid HK4.out.no
                      clear HK4 HBo HHL HOK'
                      go_wp2_with fail
                      go_roundw
                      case rel => exact ⟨k + 1, n4, ls', a4, c4, by omega, by omega, by go_num, HN, HRl, HRe, HRq, HOx, hwx, U, kB, kT, kC, k6, k7⟩
                      case measure => (simp only [intOf]; omega)
                    | true =>
                      have HN := Lib.hid (HK4.out.put HOK'.out ((HHL.out r').2 (by have := HBo.out; unfold inB at this; exact of_decide_eq_true this)))
                      clear HK4 HBo HHL HOK'
                      have own0 := HOx.out.alloc (.cells #[.int .i64 (n : Int), .int .i64 0, .int .i64 (wh : Int), .int .i64 r', .int .i64 er] 63)
                      have U1 := U.alloc (.cells #[.int .i64 (n : Int), .int .i64 0, .int .i64 (wh : Int), .int .i64 r', .int .i64 er] 63)
                      have IN := T.one_look (blk_new W507 (.cells #[.int .i64 (n : Int), .int .i64 0, .int .i64 (wh : Int), .int .i64 r', .int .i64 er] 63) _ rfl)
                      have jkB := blk_keep (.cells #[.int .i64 (n : Int), .int .i64 0, .int .i64 (wh : Int), .int .i64 r', .int .i64 er] 63) kB
                      have jkT := blk_keep (.cells #[.int .i64 (n : Int), .int .i64 0, .int .i64 (wh : Int), .int .i64 r', .int .i64 er] 63) kT
                      have jkC := blk_keep (.cells #[.int .i64 (n : Int), .int .i64 0, .int .i64 (wh : Int), .int .i64 r', .int .i64 er] 63) kC
                      have jk6 := blk_keep (.cells #[.int .i64 (n : Int), .int .i64 0, .int .i64 (wh : Int), .int .i64 r', .int .i64 er] 63) k6
                      have jk7 := blk_keep (.cells #[.int .i64 (n : Int), .int .i64 0, .int .i64 (wh : Int), .int .i64 r', .int .i64 er] 63) k7
                      go_wp2_with (at_builtin; refine T.wpList_app (ys := ls') T.elL rfl (.tmp 154) (.tmp 156) rfl IN rfl b4 _ n4 rfl own0 (by omega) (by simp) (by simp; omega) ?_; intro v1 w1 own1 grow1; have rkB := grown_blk grow1 jkB (row_block own0 (by omega)); have rkT := grown_blk grow1 jkT (row_block own0 (by omega)); have rkC := grown_blk grow1 jkC (row_block own0 (by omega)); have rk6 := grown_blk grow1 jk6 (row_block own0 (by omega)); have rk7 := grown_blk grow1 jk7 (row_block own0 (by omega)); have U2 : Up w w1 := U1.grown grow1 (fun k e => by (have := row_base own0 k e; omega)); obtain ⟨a1, c1, rfl, _, _⟩ := row_val own1; have zx := frozB rk6)
                      have ykB : mblk (w1.setCell ⟨q0 + 1 + 1 + 1, 7, none⟩ (.slice a1 (n4 + 1) c1)) (q0) = some (.cells (BoC (N : Int) bl bh rl rh (.slice aP ps.length cP) (.slice aQ qs.length cQ) (.slice (some ⟨g, off, none⟩) ls.length cL)) 27 (0, 0)) := by rw [blk_set _ _ _ _ (by show q0 ≠ q0 + 1 + 1 + 1; omega)]; exact rkB
                      have ykT : mblk (w1.setCell ⟨q0 + 1 + 1 + 1, 7, none⟩ (.slice a1 (n4 + 1) c1)) (q0 + 1) = some (.cells #[.slice none 0 0, .slice none 0 0, .slice none 0 0] 30 (0, 0)) := by rw [blk_set _ _ _ _ (by show q0 + 1 ≠ q0 + 1 + 1 + 1; omega)]; exact rkT
                      have ykC : mblk (w1.setCell ⟨q0 + 1 + 1 + 1, 7, none⟩ (.slice a1 (n4 + 1) c1)) (q0 + 1 + 1) = some (.cells #[.int .i64 0, .int .i64 0, .int .i64 0, .int .i64 0, .int .i64 0, .slice none 0 0, .slice none 0 0, .slice none 0 0] 27 (0, 0)) := by rw [blk_set _ _ _ _ (by show q0 + 1 + 1 ≠ q0 + 1 + 1 + 1; omega)]; exact rkC
                      have yk6 : mblk (w1.setCell ⟨q0 + 1 + 1 + 1, 7, none⟩ (.slice a1 (n4 + 1) c1)) (q0 + 1 + 1 + 1) = some (.cells (BoC (N : Int) bl bh rl rh (.slice aP ps.length cP) (.slice aQ qs.length cQ) (.slice a1 (n4 + 1) c1)) 27 (0, 0)) := blk_put rk6 7 _
                      have yk7 : mblk (w1.setCell ⟨q0 + 1 + 1 + 1, 7, none⟩ (.slice a1 (n4 + 1) c1)) (q0 + 1 + 1 + 1 + 1) = some (.cells #[.slice (some ⟨gL, oL, none⟩) N c, .slice (some ⟨gW, oW, none⟩) ps.length c2, .slice a3 qs.length c3] 30 (0, 0)) := by rw [blk_set _ _ _ _ (by show q0 + 1 + 1 + 1 + 1 ≠ q0 + 1 + 1 + 1; omega)]; exact rk7
                      have LHRl := Lib.hid (row_keep (row_keep (HRl.out.alloc (.cells #[.int .i64 (n : Int), .int .i64 0, .int .i64 (wh : Int), .int .i64 r', .int .i64 er] 63)) grow1 (fun g0 e0 => row_block own0 (HB1.out g0 e0).1)) (grown_set w1 (q0 + 1 + 1 + 1) 7 (.slice a1 (n4 + 1) c1)) (fun g0 e0 => by have := (HB1.out g0 e0).2; simp; omega))
                      have LHRe := Lib.hid (row_keep (row_keep (HRe.out.alloc (.cells #[.int .i64 (n : Int), .int .i64 0, .int .i64 (wh : Int), .int .i64 r', .int .i64 er] 63)) grow1 (fun g0 e0 => row_block own0 (HB2.out g0 e0).1)) (grown_set w1 (q0 + 1 + 1 + 1) 7 (.slice a1 (n4 + 1) c1)) (fun g0 e0 => by have := (HB2.out g0 e0).2; simp; omega))
                      have LHRq := Lib.hid (row_keep (row_keep (HRq.out.alloc (.cells #[.int .i64 (n : Int), .int .i64 0, .int .i64 (wh : Int), .int .i64 r', .int .i64 er] 63)) grow1 (fun g0 e0 => row_block own0 (HB3.out g0 e0).1)) (grown_set w1 (q0 + 1 + 1 + 1) 7 (.slice a1 (n4 + 1) c1)) (fun g0 e0 => by have := (HB3.out g0 e0).2; simp; omega))
                      have U3 := U2.set (p := ⟨q0 + 1 + 1 + 1, 7, none⟩) (show w.heap.size ≤ q0 + 1 + 1 + 1 by omega) (.slice a1 (n4 + 1) c1)
                      have hwy : W507.heap.size ≤ (W507.alloc (.cells #[.int .i64 (n : Int), .int .i64 0, .int .i64 (wh : Int), .int .i64 r', .int .i64 er] 63)).heap.size := by simp
                      have hw3 : b4 ≤ (w1.setCell ⟨q0 + 1 + 1 + 1, 7, none⟩ (.slice a1 (n4 + 1) c1)).heap.size := by
                        have h1 := grow1.size
                        simp only [World.size_setCell]
                        omega
                      have HO4 := Lib.hid (show (w1.setCell ⟨q0 + 1 + 1 + 1, 7, none⟩ (.slice a1 (n4 + 1) c1)).ownsRow b4 63 5 (.slice a1 (n4 + 1) c1) (n4 + 1) (T.flat 5 T.encL (ls' ++ [((n : Int), 0, (wh : Int), r', er)])) from row_other own1 (grown_set w1 (q0 + 1 + 1 + 1) 7 _) (row_block own1 (by omega)))
                      clear own1 own0 grow1 IN U1 U2 zx HOx HRl HRe HRq jkB jkT jkC jk6 jk7 rkB rkT rkC rk6 rk7 kB kT kC k6 k7 U
                      go_roundw
                      case rel => exact ⟨k + 1, n4 + 1, ls' ++ [((n : Int), 0, (wh : Int), r', er)], a1, c1, by omega, by omega, by go_num, HN, LHRl, LHRe, LHRq, HO4, hw3, U3, ykB, ykT, ykC, yk6, yk7⟩
                      case measure => (simp only [intOf]; omega)
                  · skip
                    obtain ⟨gW, oW, rfl, cW0⟩ := T.row_num HQr.out (by omega) lw
                    have bW := HQN.out.2 wh lw
                    have bS : 0 ≤ (qs.getD wh (0, 0)).1 ∧ (qs.getD wh (0, 0)).1 ≤ (qs.getD wh (0, 0)).2 ∧ (qs.getD wh (0, 0)).2 ≤ 5000 := S.spanOk_iff.1 (HPQ.out.2.1 (qs.getD wh (0, 0)) (T.getD_mem lw))
                    obtain ⟨vW, hvW⟩ : ∃ x, Q.getD wh 0 = x := ⟨_, rfl⟩
                    rw [hvW] at cW0 bW
                    have ilw : (wh : Int) < (qs.length : Int) := by omega
                    obtain ⟨at_, hat⟩ : ∃ x, vL - vW = x := ⟨_, rfl⟩
                    have wat : IntKind.i64.wrap (vL - vW) = at_ := by rw [← hat]; exact IntWalk.i64_in _ (by omega)
                    have hHL := fun r' => T.ws_at (L := L) (E := E) (Q := Q) (n := n) (w := wh) (kd := 1) (r := r') (e := er) (by omega) (by omega) (by decide) at_ (by rw [← hat, hvL, hvW]; rfl)
                    have HHL := Lib.hid hHL
                    obtain ⟨f1, hf1⟩ : ∃ x, S.frm (-er) er (S.at xs ((k : Int) + 7)) = x := ⟨_, rfl⟩
                    have hf2 : -er ≤ f1 ∧ f1 ≤ er := by rw [← hf1]; exact S.frm_in (by omega) _
                    have HF2 := Lib.hid (fun w' => show Calls Try.prog 83 #[SpV (-er) er, .int .i64 (S.at xs ((k : Int) + 7))] w' fun e w'' => e = .returned (.int .i64 f1) ∧ Up w' w'' by rw [← hf1]; exact B_From_any (-er) er _ w' (by omega) (by omega) (by omega) (by omega))
                    have wne : IntKind.i64.wrap (-er) = -er := IntWalk.i64_in _ (by omega)
                    have wsm : IntKind.i64.wrap (at_ + f1) = at_ + f1 := IntWalk.i64_in _ (by omega)
                    obtain ⟨y1, hy1⟩ : ∃ z, Min.min 30000 (at_ + f1) = z := ⟨_, rfl⟩
                    obtain ⟨r', hr'⟩ : ∃ z, Max.max (-30000) y1 = z := ⟨_, rfl⟩
                    have M1 := min_run hy1
                    have M2 := max_run hr'
                    have br' : -30000 ≤ r' ∧ r' ≤ 30000 := by rw [← hr', ← hy1]; exact T.wsC_bd _
                    have wm1 : IntKind.i64.wrap (r' - er) = r' - er := IntWalk.i64_in _ (by omega)
                    have wm2 : IntKind.i64.wrap (r' + er) = r' + er := IntWalk.i64_in _ (by omega)
                    obtain ⟨bo, hbo⟩ : ∃ z, inB at_ (r' - er) (r' + er) = z := ⟨_, rfl⟩
                    have HBo := Lib.hid hbo
                    have HLi := Lib.hid (fun w' => show Calls Try.prog 60 #[.int .i64 at_, .int .i64 (r' - er), .int .i64 (r' + er)] w' fun e w'' => e = .returned (.bool bo) ∧ w' = w'' by rw [← hbo]; exact B_Lies_any _ _ _ _)
                    have HOK' := Lib.hid (T.look_re HOK.out br')
                    have HTo := Lib.hid (fun w' => B_To_any (-er) er w')
                    have HU := Lib.hid U
                    clear hat hHL hf1 hf2 hy1 hr' br' hbo bL bW bS hvL hvW HOK br be
                    have i_kB := kB
                    have dkBkx := blk_lt kB
                    have dkTkx := blk_lt kT
                    have dkCkx := blk_lt kC
                    have dk6kx := blk_lt k6
                    have dk7kx := blk_lt k7
                    have gkx := U.size
                    have kx := blk_new wr (.cells #[.int .i64 (n : Int), .int .i64 1, .int .i64 (wh : Int), .int .i64 r, .int .i64 er] 63) _ rfl
                    replace kB := blk_keep (.cells #[.int .i64 (n : Int), .int .i64 1, .int .i64 (wh : Int), .int .i64 r, .int .i64 er] 63) kB
                    replace kT := blk_keep (.cells #[.int .i64 (n : Int), .int .i64 1, .int .i64 (wh : Int), .int .i64 r, .int .i64 er] 63) kT
                    replace kC := blk_keep (.cells #[.int .i64 (n : Int), .int .i64 1, .int .i64 (wh : Int), .int .i64 r, .int .i64 er] 63) kC
                    replace k6 := blk_keep (.cells #[.int .i64 (n : Int), .int .i64 1, .int .i64 (wh : Int), .int .i64 r, .int .i64 er] 63) k6
                    replace k7 := blk_keep (.cells #[.int .i64 (n : Int), .int .i64 1, .int .i64 (wh : Int), .int .i64 r, .int .i64 er] 63) k7
                    replace U := U.alloc (.cells #[.int .i64 (n : Int), .int .i64 1, .int .i64 (wh : Int), .int .i64 r, .int .i64 er] 63)
                    replace Uz := Uz.alloc (.cells #[.int .i64 (n : Int), .int .i64 1, .int .i64 (wh : Int), .int .i64 r, .int .i64 er] 63)
                    obtain ⟨pkx, hpkx⟩ : ∃ z, wr.heap.size = z := ⟨_, rfl⟩
                    obtain ⟨W701, hW701⟩ : ∃ z, wr.alloc (.cells #[.int .i64 (n : Int), .int .i64 1, .int .i64 (wh : Int), .int .i64 r, .int .i64 er] 63) = z := ⟨_, rfl⟩
                    rw [hpkx] at kx dkBkx dkTkx dkCkx dk6kx dk7kx gkx
                    rw [hW701] at kx U kB kT kC k6 k7 Uz
                    have rL := Uz.cell2 cL0
                    have rW := Uz.cell2 cW0
                    go_wp2_with fail
                    have gkz : wr.heap.size ≤ pkx := by omega
                    clear i_kB cc0 cc1 cc2 cc3 cc4 cL0 cW0 rL rW
                    clear hpkx hW701
                    refine (HTo.out _).mono ?_
                    rintro e x702 ⟨rfl, u703⟩
                    replace U := U.trans u703
                    replace kB := u703.blk kB
                    replace kT := u703.blk kT
                    replace kC := u703.blk kC
                    replace k6 := u703.blk k6
                    replace k7 := u703.blk k7
                    replace kx := u703.blk kx
                    replace Uz := Uz.trans u703
                    clear u703 HTo
                    have Hu := Lib.hid (HU.out.trans Uz)
                    go_wp2_with fail
                    refine (HAt.out _ Hu.out ((k : Int) + 7)).mono ?_
                    rintro e x704 ⟨rfl, rfl⟩
                    go_wp2_with fail
                    refine (HF2.out _).mono ?_
                    rintro e x705 ⟨rfl, u706⟩
                    replace U := U.trans u706
                    replace kB := u706.blk kB
                    replace kT := u706.blk kT
                    replace kC := u706.blk kC
                    replace k6 := u706.blk k6
                    replace k7 := u706.blk k7
                    replace kx := u706.blk kx
                    replace Uz := Uz.trans u706
                    clear u706 HF2
                    have zf := frozB kx
                    have i0 := kx
                    have U1 := (U.set (p := ⟨pkx, 3, none⟩) (show w.heap.size ≤ pkx by omega) (.int .i64 r'))
                    have VUz := (Uz.set (p := ⟨pkx, 3, none⟩) (show wr.heap.size ≤ pkx by omega) (.int .i64 r'))
                    have jkB := kB
                    rw [← blk_set (x705) ⟨pkx, 3, none⟩ (.int .i64 r') (q0) (by show q0 ≠ pkx; omega)] at jkB
                    have jkT := kT
                    rw [← blk_set (x705) ⟨pkx, 3, none⟩ (.int .i64 r') (q0 + 1) (by show q0 + 1 ≠ pkx; omega)] at jkT
                    have jkC := kC
                    rw [← blk_set (x705) ⟨pkx, 3, none⟩ (.int .i64 r') (q0 + 1 + 1) (by show q0 + 1 + 1 ≠ pkx; omega)] at jkC
                    have jk6 := k6
                    rw [← blk_set (x705) ⟨pkx, 3, none⟩ (.int .i64 r') (q0 + 1 + 1 + 1) (by show q0 + 1 + 1 + 1 ≠ pkx; omega)] at jk6
                    have jk7 := k7
                    rw [← blk_set (x705) ⟨pkx, 3, none⟩ (.int .i64 r') (q0 + 1 + 1 + 1 + 1) (by show q0 + 1 + 1 + 1 + 1 ≠ pkx; omega)] at jk7
                    have jkx : mblk ((x705).setCell ⟨pkx, 3, none⟩ (.int .i64 r')) pkx = some (.cells #[.int .i64 (n : Int), .int .i64 1, .int .i64 (wh : Int), .int .i64 r', .int .i64 er] 63 (0, 0)) := (blk_put kx 3 (.int .i64 r'))
                    obtain ⟨W707, hW707⟩ : ∃ z, (x705).setCell ⟨pkx, 3, none⟩ (.int .i64 r') = z := ⟨_, rfl⟩
                    rw [hW707] at jkB jkT jkC jk6 jk7 jkx U1 VUz
                    clear Uz
                    have Uz := VUz
                    clear VUz
                    clear kB kT kC k6 k7 kx U
                    have kB := jkB
                    have kT := jkT
                    have kC := jkC
                    have k6 := jk6
                    have k7 := jk7
                    have kx := jkx
                    have U := U1
                    clear jkB jkT jkC jk6 jk7 jkx U1
                    go_wp2_with fail
                    clear hW707 zf i0
                    refine (HLi.out _).mono ?_
                    rintro e x708 ⟨rfl, rfl⟩
                    clear HLi
                    clear M1 M2 Hu
                    have HRl := Lib.hid (row_up HLr.out Uz)
                    have HRe := Lib.hid (row_up HEr.out Uz)
                    have HRq := Lib.hid (row_up HQr.out Uz)
                    have HOx := Lib.hid (row_up HO.out Uz)
                    have hwx := Nat.le_trans hw2 Uz.size
                    clear HLr HEr HQr HO Uz HU hw2
                    cases bo with
                    | false =>
                      have HN := Lib.hid HK4.out.no
                      clear HK4 HBo HHL HOK'
                      go_wp2_with fail
                      go_roundw
                      case rel => exact ⟨k + 1, n4, ls', a4, c4, by omega, by omega, by go_num, HN, HRl, HRe, HRq, HOx, hwx, U, kB, kT, kC, k6, k7⟩
                      case measure => (simp only [intOf]; omega)
                    | true =>
                      have HN := Lib.hid (HK4.out.put HOK'.out ((HHL.out r').2 (by have := HBo.out; unfold inB at this; exact of_decide_eq_true this)))
                      clear HK4 HBo HHL HOK'
                      have own0 := HOx.out.alloc (.cells #[.int .i64 (n : Int), .int .i64 1, .int .i64 (wh : Int), .int .i64 r', .int .i64 er] 63)
                      have U1 := U.alloc (.cells #[.int .i64 (n : Int), .int .i64 1, .int .i64 (wh : Int), .int .i64 r', .int .i64 er] 63)
                      have IN := T.one_look (blk_new W707 (.cells #[.int .i64 (n : Int), .int .i64 1, .int .i64 (wh : Int), .int .i64 r', .int .i64 er] 63) _ rfl)
                      have jkB := blk_keep (.cells #[.int .i64 (n : Int), .int .i64 1, .int .i64 (wh : Int), .int .i64 r', .int .i64 er] 63) kB
                      have jkT := blk_keep (.cells #[.int .i64 (n : Int), .int .i64 1, .int .i64 (wh : Int), .int .i64 r', .int .i64 er] 63) kT
                      have jkC := blk_keep (.cells #[.int .i64 (n : Int), .int .i64 1, .int .i64 (wh : Int), .int .i64 r', .int .i64 er] 63) kC
                      have jk6 := blk_keep (.cells #[.int .i64 (n : Int), .int .i64 1, .int .i64 (wh : Int), .int .i64 r', .int .i64 er] 63) k6
                      have jk7 := blk_keep (.cells #[.int .i64 (n : Int), .int .i64 1, .int .i64 (wh : Int), .int .i64 r', .int .i64 er] 63) k7
                      go_wp2_with (at_builtin; refine T.wpList_app (ys := ls') T.elL rfl (.tmp 154) (.tmp 156) rfl IN rfl b4 _ n4 rfl own0 (by omega) (by simp) (by simp; omega) ?_; intro v1 w1 own1 grow1; have rkB := grown_blk grow1 jkB (row_block own0 (by omega)); have rkT := grown_blk grow1 jkT (row_block own0 (by omega)); have rkC := grown_blk grow1 jkC (row_block own0 (by omega)); have rk6 := grown_blk grow1 jk6 (row_block own0 (by omega)); have rk7 := grown_blk grow1 jk7 (row_block own0 (by omega)); have U2 : Up w w1 := U1.grown grow1 (fun k e => by (have := row_base own0 k e; omega)); obtain ⟨a1, c1, rfl, _, _⟩ := row_val own1; have zx := frozB rk6)
                      have ykB : mblk (w1.setCell ⟨q0 + 1 + 1 + 1, 7, none⟩ (.slice a1 (n4 + 1) c1)) (q0) = some (.cells (BoC (N : Int) bl bh rl rh (.slice aP ps.length cP) (.slice aQ qs.length cQ) (.slice (some ⟨g, off, none⟩) ls.length cL)) 27 (0, 0)) := by rw [blk_set _ _ _ _ (by show q0 ≠ q0 + 1 + 1 + 1; omega)]; exact rkB
                      have ykT : mblk (w1.setCell ⟨q0 + 1 + 1 + 1, 7, none⟩ (.slice a1 (n4 + 1) c1)) (q0 + 1) = some (.cells #[.slice none 0 0, .slice none 0 0, .slice none 0 0] 30 (0, 0)) := by rw [blk_set _ _ _ _ (by show q0 + 1 ≠ q0 + 1 + 1 + 1; omega)]; exact rkT
                      have ykC : mblk (w1.setCell ⟨q0 + 1 + 1 + 1, 7, none⟩ (.slice a1 (n4 + 1) c1)) (q0 + 1 + 1) = some (.cells #[.int .i64 0, .int .i64 0, .int .i64 0, .int .i64 0, .int .i64 0, .slice none 0 0, .slice none 0 0, .slice none 0 0] 27 (0, 0)) := by rw [blk_set _ _ _ _ (by show q0 + 1 + 1 ≠ q0 + 1 + 1 + 1; omega)]; exact rkC
                      have yk6 : mblk (w1.setCell ⟨q0 + 1 + 1 + 1, 7, none⟩ (.slice a1 (n4 + 1) c1)) (q0 + 1 + 1 + 1) = some (.cells (BoC (N : Int) bl bh rl rh (.slice aP ps.length cP) (.slice aQ qs.length cQ) (.slice a1 (n4 + 1) c1)) 27 (0, 0)) := blk_put rk6 7 _
                      have yk7 : mblk (w1.setCell ⟨q0 + 1 + 1 + 1, 7, none⟩ (.slice a1 (n4 + 1) c1)) (q0 + 1 + 1 + 1 + 1) = some (.cells #[.slice (some ⟨gL, oL, none⟩) N c, .slice a2 ps.length c2, .slice (some ⟨gW, oW, none⟩) qs.length c3] 30 (0, 0)) := by rw [blk_set _ _ _ _ (by show q0 + 1 + 1 + 1 + 1 ≠ q0 + 1 + 1 + 1; omega)]; exact rk7
                      have LHRl := Lib.hid (row_keep (row_keep (HRl.out.alloc (.cells #[.int .i64 (n : Int), .int .i64 1, .int .i64 (wh : Int), .int .i64 r', .int .i64 er] 63)) grow1 (fun g0 e0 => row_block own0 (HB1.out g0 e0).1)) (grown_set w1 (q0 + 1 + 1 + 1) 7 (.slice a1 (n4 + 1) c1)) (fun g0 e0 => by have := (HB1.out g0 e0).2; simp; omega))
                      have LHRe := Lib.hid (row_keep (row_keep (HRe.out.alloc (.cells #[.int .i64 (n : Int), .int .i64 1, .int .i64 (wh : Int), .int .i64 r', .int .i64 er] 63)) grow1 (fun g0 e0 => row_block own0 (HB2.out g0 e0).1)) (grown_set w1 (q0 + 1 + 1 + 1) 7 (.slice a1 (n4 + 1) c1)) (fun g0 e0 => by have := (HB2.out g0 e0).2; simp; omega))
                      have LHRq := Lib.hid (row_keep (row_keep (HRq.out.alloc (.cells #[.int .i64 (n : Int), .int .i64 1, .int .i64 (wh : Int), .int .i64 r', .int .i64 er] 63)) grow1 (fun g0 e0 => row_block own0 (HB3.out g0 e0).1)) (grown_set w1 (q0 + 1 + 1 + 1) 7 (.slice a1 (n4 + 1) c1)) (fun g0 e0 => by have := (HB3.out g0 e0).2; simp; omega))
                      have U3 := U2.set (p := ⟨q0 + 1 + 1 + 1, 7, none⟩) (show w.heap.size ≤ q0 + 1 + 1 + 1 by omega) (.slice a1 (n4 + 1) c1)
                      have hwy : W707.heap.size ≤ (W707.alloc (.cells #[.int .i64 (n : Int), .int .i64 1, .int .i64 (wh : Int), .int .i64 r', .int .i64 er] 63)).heap.size := by simp
                      have hw3 : b4 ≤ (w1.setCell ⟨q0 + 1 + 1 + 1, 7, none⟩ (.slice a1 (n4 + 1) c1)).heap.size := by
                        have h1 := grow1.size
                        simp only [World.size_setCell]
                        omega
                      have HO4 := Lib.hid (show (w1.setCell ⟨q0 + 1 + 1 + 1, 7, none⟩ (.slice a1 (n4 + 1) c1)).ownsRow b4 63 5 (.slice a1 (n4 + 1) c1) (n4 + 1) (T.flat 5 T.encL (ls' ++ [((n : Int), 1, (wh : Int), r', er)])) from row_other own1 (grown_set w1 (q0 + 1 + 1 + 1) 7 _) (row_block own1 (by omega)))
                      clear own1 own0 grow1 IN U1 U2 zx HOx HRl HRe HRq jkB jkT jkC jk6 jk7 rkB rkT rkC rk6 rk7 kB kT kC k6 k7 U
                      go_roundw
                      case rel => exact ⟨k + 1, n4 + 1, ls' ++ [((n : Int), 1, (wh : Int), r', er)], a1, c1, by omega, by omega, by go_num, HN, LHRl, LHRe, LHRq, HO4, hw3, U3, ykB, ykT, ykC, yk6, yk7⟩
                      case measure => (simp only [intOf]; omega)
                · skip
                  have hkN : ls.length = k := by omega
                  subst hkN
                  have dk : decide ((ls.length : Int) < (ls.length : Int)) = false := decide_eq_false (by omega)
                  obtain rfl : n4 = ls'.length := (Tab.of_row (d := (0, 0, 0, 0, 0)) HO.out (by decide) (by omega)).len
                  have HFin := Lib.hid (T.ws_tru HV.out HLN.out HEN.out HQN.out HK4.out)
                  have HN4 := Lib.hid hn4
                  clear HK4 hlt hj hn4
                  go_wp2_with fail
                  refine (wpIn_wide (n := 5)).1 ?_
                  refine wpIn_nrm ?_
                  refine regionG (fun w' => Up w w' ∧ mblk w' (q0 + 1 + 1 + 1) = some (.cells (BoC (N : Int) bl bh rl rh (.slice aP ps.length cP) (.slice aQ qs.length cQ) (.slice a4 ls'.length c4)) 27 (0, 0)) ∧ mblk w' (q0 + 1 + 1 + 1 + 1) = some (.cells #[.slice a N c, .slice a2 ps.length c2, .slice a3 qs.length c3] 30 (0, 0)) ∧ mblk w' (q0 + 1 + 1) = some (.cells #[.int .i64 0, .int .i64 0, .int .i64 0, .int .i64 0, .int .i64 0, .slice none 0 0, .slice none 0 0, .slice none 0 0] 27 (0, 0))) 3 hmx ⟨U.drew, (by rw [blk_drew]; exact k6), (by rw [blk_drew]; exact k7), (by rw [blk_drew]; exact kC)⟩ (fun hHeld hCl => ?_)
                  refine takeG (i := 0) (d := (some 159)) (v := ?v44) rfl rfl (by kernel_rfl) (by kernel_rfl) (by decide) hCl (by kernel_rfl) (by kernel_rfl) (by kernel_rfl) (fun _ _ _ h => h) (by rfl) ?hy44 (fun _ _ _ => trivial) (by assumption) (fun hCl' => ?_)
                  case hy44 => ((intro w hSw; (try dsimp only at hSw); (try go_split_ands); go_simp); try with_reducible rfl)
                  simp only [Act.put, List.setIfInBounds_toArray, List.set_cons_zero, List.set_cons_succ]
                  replace hCl := hCl'; clear hCl'
                  refine takeG (i := 1) (d := (some 160)) (v := ?v45) rfl rfl (by kernel_rfl) (by kernel_rfl) (by decide) hCl (by kernel_rfl) (by kernel_rfl) (by kernel_rfl) (fun _ _ _ h => h) (by rfl) ?hy45 (fun _ _ _ => trivial) (by assumption) (fun hCl' => ?_)
                  case hy45 => ((intro w hSw; (try dsimp only at hSw); (try go_split_ands); go_simp); try with_reducible rfl)
                  simp only [Act.put, List.setIfInBounds_toArray, List.set_cons_zero, List.set_cons_succ]
                  replace hCl := hCl'; clear hCl'
                  have kT0 : mblk wr.drew (q0 + 1) = some (.cells #[.slice none 0 0, .slice none 0 0, .slice none 0 0] 30 (0, 0)) := by rw [blk_drew]; exact kT
                  have D1 := (Up.refl wr).drew
                  have dHLr := row_up HLr.out D1
                  have dHEr := row_up HEr.out D1
                  have dHQr := row_up HQr.out D1
                  have dHO := row_up HO.out D1
                  obtain ⟨X0, hX0⟩ : ∃ z, wr.drew = z := ⟨_, rfl⟩
                  rw [hX0] at hHeld kT0 dHLr dHEr dHQr dHO
                  try rw [hX0]
                  clear hX0 D1 kB kT kC k6 k7 U
                  have hU := hHeld.1
                  have h6 := hHeld.2.1
                  have h7 := hHeld.2.2.1
                  have hC := hHeld.2.2.2
                  clear hHeld
                  have zf := frozB kT0
                  have gw := hU.size
                  refine nextG (i := 2) (by kernel_rfl) rfl (by rfl) hCl (fun K hK => ?_)
                  go_simp
                  have UZ := (((hU.set (p := ⟨q0 + 1, 0, none⟩) (show w.heap.size ≤ q0 + 1 by omega) (.slice a N c)).set (p := ⟨q0 + 1, 1, none⟩) (show w.heap.size ≤ q0 + 1 by omega) (.slice a2 ps.length c2)).set (p := ⟨q0 + 1, 2, none⟩) (show w.heap.size ≤ q0 + 1 by omega) (.slice a3 qs.length c3))
                  have kZ := (blk_put (blk_put (blk_put kT0 0 (.slice a N c)) 1 (.slice a2 ps.length c2)) 2 (.slice a3 qs.length c3))
                  have z6 := h6
                  rw [← blk_set X0 ⟨q0 + 1, 0, none⟩ (.slice a N c) (q0 + 1 + 1 + 1) (by show q0 + 1 + 1 + 1 ≠ q0 + 1; omega), ← blk_set (X0.setCell ⟨q0 + 1, 0, none⟩ (.slice a N c)) ⟨q0 + 1, 1, none⟩ (.slice a2 ps.length c2) (q0 + 1 + 1 + 1) (by show q0 + 1 + 1 + 1 ≠ q0 + 1; omega), ← blk_set ((X0.setCell ⟨q0 + 1, 0, none⟩ (.slice a N c)).setCell ⟨q0 + 1, 1, none⟩ (.slice a2 ps.length c2)) ⟨q0 + 1, 2, none⟩ (.slice a3 qs.length c3) (q0 + 1 + 1 + 1) (by show q0 + 1 + 1 + 1 ≠ q0 + 1; omega)] at z6
                  have z7 := h7
                  rw [← blk_set X0 ⟨q0 + 1, 0, none⟩ (.slice a N c) (q0 + 1 + 1 + 1 + 1) (by show q0 + 1 + 1 + 1 + 1 ≠ q0 + 1; omega), ← blk_set (X0.setCell ⟨q0 + 1, 0, none⟩ (.slice a N c)) ⟨q0 + 1, 1, none⟩ (.slice a2 ps.length c2) (q0 + 1 + 1 + 1 + 1) (by show q0 + 1 + 1 + 1 + 1 ≠ q0 + 1; omega), ← blk_set ((X0.setCell ⟨q0 + 1, 0, none⟩ (.slice a N c)).setCell ⟨q0 + 1, 1, none⟩ (.slice a2 ps.length c2)) ⟨q0 + 1, 2, none⟩ (.slice a3 qs.length c3) (q0 + 1 + 1 + 1 + 1) (by show q0 + 1 + 1 + 1 + 1 ≠ q0 + 1; omega)] at z7
                  have zC := hC
                  rw [← blk_set X0 ⟨q0 + 1, 0, none⟩ (.slice a N c) (q0 + 1 + 1) (by show q0 + 1 + 1 ≠ q0 + 1; omega), ← blk_set (X0.setCell ⟨q0 + 1, 0, none⟩ (.slice a N c)) ⟨q0 + 1, 1, none⟩ (.slice a2 ps.length c2) (q0 + 1 + 1) (by show q0 + 1 + 1 ≠ q0 + 1; omega), ← blk_set ((X0.setCell ⟨q0 + 1, 0, none⟩ (.slice a N c)).setCell ⟨q0 + 1, 1, none⟩ (.slice a2 ps.length c2)) ⟨q0 + 1, 2, none⟩ (.slice a3 qs.length c3) (q0 + 1 + 1) (by show q0 + 1 + 1 ≠ q0 + 1; omega)] at zC
                  have sHLr := (row_keep (row_keep (row_keep dHLr (grown_set X0 (q0 + 1) 0 (.slice a N c)) (fun g0 e0 => by have := (HB1.out g0 e0); simp; omega)) (grown_set (X0.setCell ⟨q0 + 1, 0, none⟩ (.slice a N c)) (q0 + 1) 1 (.slice a2 ps.length c2)) (fun g0 e0 => by have := (HB1.out g0 e0); simp; omega)) (grown_set ((X0.setCell ⟨q0 + 1, 0, none⟩ (.slice a N c)).setCell ⟨q0 + 1, 1, none⟩ (.slice a2 ps.length c2)) (q0 + 1) 2 (.slice a3 qs.length c3)) (fun g0 e0 => by have := (HB1.out g0 e0); simp; omega))
                  have sHEr := (row_keep (row_keep (row_keep dHEr (grown_set X0 (q0 + 1) 0 (.slice a N c)) (fun g0 e0 => by have := (HB2.out g0 e0); simp; omega)) (grown_set (X0.setCell ⟨q0 + 1, 0, none⟩ (.slice a N c)) (q0 + 1) 1 (.slice a2 ps.length c2)) (fun g0 e0 => by have := (HB2.out g0 e0); simp; omega)) (grown_set ((X0.setCell ⟨q0 + 1, 0, none⟩ (.slice a N c)).setCell ⟨q0 + 1, 1, none⟩ (.slice a2 ps.length c2)) (q0 + 1) 2 (.slice a3 qs.length c3)) (fun g0 e0 => by have := (HB2.out g0 e0); simp; omega))
                  have sHQr := (row_keep (row_keep (row_keep dHQr (grown_set X0 (q0 + 1) 0 (.slice a N c)) (fun g0 e0 => by have := (HB3.out g0 e0); simp; omega)) (grown_set (X0.setCell ⟨q0 + 1, 0, none⟩ (.slice a N c)) (q0 + 1) 1 (.slice a2 ps.length c2)) (fun g0 e0 => by have := (HB3.out g0 e0); simp; omega)) (grown_set ((X0.setCell ⟨q0 + 1, 0, none⟩ (.slice a N c)).setCell ⟨q0 + 1, 1, none⟩ (.slice a2 ps.length c2)) (q0 + 1) 2 (.slice a3 qs.length c3)) (fun g0 e0 => by have := (HB3.out g0 e0); simp; omega))
                  have sHO := (row_keep (row_keep (row_keep dHO (grown_set X0 (q0 + 1) 0 (.slice a N c)) (fun g0 e0 => by have := row_base HO.out g0 e0; simp; omega)) (grown_set (X0.setCell ⟨q0 + 1, 0, none⟩ (.slice a N c)) (q0 + 1) 1 (.slice a2 ps.length c2)) (fun g0 e0 => by have := row_base HO.out g0 e0; simp; omega)) (grown_set ((X0.setCell ⟨q0 + 1, 0, none⟩ (.slice a N c)).setCell ⟨q0 + 1, 1, none⟩ (.slice a2 ps.length c2)) (q0 + 1) 2 (.slice a3 qs.length c3)) (fun g0 e0 => by have := row_base HO.out g0 e0; simp; omega))
                  obtain ⟨Z, hZ⟩ : ∃ z, (((X0.setCell ⟨q0 + 1, 0, none⟩ (.slice a N c)).setCell ⟨q0 + 1, 1, none⟩ (.slice a2 ps.length c2)).setCell ⟨q0 + 1, 2, none⟩ (.slice a3 qs.length c3)) = z := ⟨_, rfl⟩
                  rw [hZ] at UZ kZ z6 z7 zC sHLr sHEr sHQr sHO
                  try rw [hZ]
                  refine hK.out _ _ ⟨UZ, z6, z7, zC⟩ (fun _ hCl => ?_)
                  clear hK K hZ zf hU h6 h7 hC kT0 dHLr dHEr dHQr dHO
                  try dsimp only [List.getElem_toArray, List.getElem_cons_succ, List.getElem_cons_zero]
                  try simp only [Act.put, List.setIfInBounds_toArray, List.set_cons_zero, List.set_cons_succ]
                  clear hCl
                  have zf := frozB zC
                  refine lastG (i := 3) (by kernel_rfl) rfl (by rfl) (by decide) (fun K hK => ?_)
                  go_simp
                  have UZ2 := Lib.hid ((((((((UZ.set (p := ⟨q0 + 1 + 1, 0, none⟩) (show w.heap.size ≤ q0 + 1 + 1 by omega) (.int .i64 (N : Int))).set (p := ⟨q0 + 1 + 1, 1, none⟩) (show w.heap.size ≤ q0 + 1 + 1 by omega) (.int .i64 bl)).set (p := ⟨q0 + 1 + 1, 2, none⟩) (show w.heap.size ≤ q0 + 1 + 1 by omega) (.int .i64 bh)).set (p := ⟨q0 + 1 + 1, 3, none⟩) (show w.heap.size ≤ q0 + 1 + 1 by omega) (.int .i64 rl)).set (p := ⟨q0 + 1 + 1, 4, none⟩) (show w.heap.size ≤ q0 + 1 + 1 by omega) (.int .i64 rh)).set (p := ⟨q0 + 1 + 1, 5, none⟩) (show w.heap.size ≤ q0 + 1 + 1 by omega) (.slice aP ps.length cP)).set (p := ⟨q0 + 1 + 1, 6, none⟩) (show w.heap.size ≤ q0 + 1 + 1 by omega) (.slice aQ qs.length cQ)).set (p := ⟨q0 + 1 + 1, 7, none⟩) (show w.heap.size ≤ q0 + 1 + 1 by omega) (.slice a4 ls'.length c4))
                  have kC2 := Lib.hid (blk_put (blk_put (blk_put (blk_put (blk_put (blk_put (blk_put (blk_put zC 0 (.int .i64 (N : Int))) 1 (.int .i64 bl)) 2 (.int .i64 bh)) 3 (.int .i64 rl)) 4 (.int .i64 rh)) 5 (.slice aP ps.length cP)) 6 (.slice aQ qs.length cQ)) 7 (.slice a4 ls'.length c4))
                  have kT2 := kZ
                  rw [← blk_set Z ⟨q0 + 1 + 1, 0, none⟩ (.int .i64 (N : Int)) (q0 + 1) (by show q0 + 1 ≠ q0 + 1 + 1; omega), ← blk_set (Z.setCell ⟨q0 + 1 + 1, 0, none⟩ (.int .i64 (N : Int))) ⟨q0 + 1 + 1, 1, none⟩ (.int .i64 bl) (q0 + 1) (by show q0 + 1 ≠ q0 + 1 + 1; omega), ← blk_set ((Z.setCell ⟨q0 + 1 + 1, 0, none⟩ (.int .i64 (N : Int))).setCell ⟨q0 + 1 + 1, 1, none⟩ (.int .i64 bl)) ⟨q0 + 1 + 1, 2, none⟩ (.int .i64 bh) (q0 + 1) (by show q0 + 1 ≠ q0 + 1 + 1; omega), ← blk_set (((Z.setCell ⟨q0 + 1 + 1, 0, none⟩ (.int .i64 (N : Int))).setCell ⟨q0 + 1 + 1, 1, none⟩ (.int .i64 bl)).setCell ⟨q0 + 1 + 1, 2, none⟩ (.int .i64 bh)) ⟨q0 + 1 + 1, 3, none⟩ (.int .i64 rl) (q0 + 1) (by show q0 + 1 ≠ q0 + 1 + 1; omega), ← blk_set ((((Z.setCell ⟨q0 + 1 + 1, 0, none⟩ (.int .i64 (N : Int))).setCell ⟨q0 + 1 + 1, 1, none⟩ (.int .i64 bl)).setCell ⟨q0 + 1 + 1, 2, none⟩ (.int .i64 bh)).setCell ⟨q0 + 1 + 1, 3, none⟩ (.int .i64 rl)) ⟨q0 + 1 + 1, 4, none⟩ (.int .i64 rh) (q0 + 1) (by show q0 + 1 ≠ q0 + 1 + 1; omega), ← blk_set (((((Z.setCell ⟨q0 + 1 + 1, 0, none⟩ (.int .i64 (N : Int))).setCell ⟨q0 + 1 + 1, 1, none⟩ (.int .i64 bl)).setCell ⟨q0 + 1 + 1, 2, none⟩ (.int .i64 bh)).setCell ⟨q0 + 1 + 1, 3, none⟩ (.int .i64 rl)).setCell ⟨q0 + 1 + 1, 4, none⟩ (.int .i64 rh)) ⟨q0 + 1 + 1, 5, none⟩ (.slice aP ps.length cP) (q0 + 1) (by show q0 + 1 ≠ q0 + 1 + 1; omega), ← blk_set ((((((Z.setCell ⟨q0 + 1 + 1, 0, none⟩ (.int .i64 (N : Int))).setCell ⟨q0 + 1 + 1, 1, none⟩ (.int .i64 bl)).setCell ⟨q0 + 1 + 1, 2, none⟩ (.int .i64 bh)).setCell ⟨q0 + 1 + 1, 3, none⟩ (.int .i64 rl)).setCell ⟨q0 + 1 + 1, 4, none⟩ (.int .i64 rh)).setCell ⟨q0 + 1 + 1, 5, none⟩ (.slice aP ps.length cP)) ⟨q0 + 1 + 1, 6, none⟩ (.slice aQ qs.length cQ) (q0 + 1) (by show q0 + 1 ≠ q0 + 1 + 1; omega), ← blk_set (((((((Z.setCell ⟨q0 + 1 + 1, 0, none⟩ (.int .i64 (N : Int))).setCell ⟨q0 + 1 + 1, 1, none⟩ (.int .i64 bl)).setCell ⟨q0 + 1 + 1, 2, none⟩ (.int .i64 bh)).setCell ⟨q0 + 1 + 1, 3, none⟩ (.int .i64 rl)).setCell ⟨q0 + 1 + 1, 4, none⟩ (.int .i64 rh)).setCell ⟨q0 + 1 + 1, 5, none⟩ (.slice aP ps.length cP)).setCell ⟨q0 + 1 + 1, 6, none⟩ (.slice aQ qs.length cQ)) ⟨q0 + 1 + 1, 7, none⟩ (.slice a4 ls'.length c4) (q0 + 1) (by show q0 + 1 ≠ q0 + 1 + 1; omega)] at kT2
                  have KT2 := Lib.hid kT2
                  have tHLr := Lib.hid (row_keep (row_keep (row_keep (row_keep (row_keep (row_keep (row_keep (row_keep sHLr (grown_set Z (q0 + 1 + 1) 0 (.int .i64 (N : Int))) (fun g0 e0 => by have := (HB1.out g0 e0); simp; omega)) (grown_set (Z.setCell ⟨q0 + 1 + 1, 0, none⟩ (.int .i64 (N : Int))) (q0 + 1 + 1) 1 (.int .i64 bl)) (fun g0 e0 => by have := (HB1.out g0 e0); simp; omega)) (grown_set ((Z.setCell ⟨q0 + 1 + 1, 0, none⟩ (.int .i64 (N : Int))).setCell ⟨q0 + 1 + 1, 1, none⟩ (.int .i64 bl)) (q0 + 1 + 1) 2 (.int .i64 bh)) (fun g0 e0 => by have := (HB1.out g0 e0); simp; omega)) (grown_set (((Z.setCell ⟨q0 + 1 + 1, 0, none⟩ (.int .i64 (N : Int))).setCell ⟨q0 + 1 + 1, 1, none⟩ (.int .i64 bl)).setCell ⟨q0 + 1 + 1, 2, none⟩ (.int .i64 bh)) (q0 + 1 + 1) 3 (.int .i64 rl)) (fun g0 e0 => by have := (HB1.out g0 e0); simp; omega)) (grown_set ((((Z.setCell ⟨q0 + 1 + 1, 0, none⟩ (.int .i64 (N : Int))).setCell ⟨q0 + 1 + 1, 1, none⟩ (.int .i64 bl)).setCell ⟨q0 + 1 + 1, 2, none⟩ (.int .i64 bh)).setCell ⟨q0 + 1 + 1, 3, none⟩ (.int .i64 rl)) (q0 + 1 + 1) 4 (.int .i64 rh)) (fun g0 e0 => by have := (HB1.out g0 e0); simp; omega)) (grown_set (((((Z.setCell ⟨q0 + 1 + 1, 0, none⟩ (.int .i64 (N : Int))).setCell ⟨q0 + 1 + 1, 1, none⟩ (.int .i64 bl)).setCell ⟨q0 + 1 + 1, 2, none⟩ (.int .i64 bh)).setCell ⟨q0 + 1 + 1, 3, none⟩ (.int .i64 rl)).setCell ⟨q0 + 1 + 1, 4, none⟩ (.int .i64 rh)) (q0 + 1 + 1) 5 (.slice aP ps.length cP)) (fun g0 e0 => by have := (HB1.out g0 e0); simp; omega)) (grown_set ((((((Z.setCell ⟨q0 + 1 + 1, 0, none⟩ (.int .i64 (N : Int))).setCell ⟨q0 + 1 + 1, 1, none⟩ (.int .i64 bl)).setCell ⟨q0 + 1 + 1, 2, none⟩ (.int .i64 bh)).setCell ⟨q0 + 1 + 1, 3, none⟩ (.int .i64 rl)).setCell ⟨q0 + 1 + 1, 4, none⟩ (.int .i64 rh)).setCell ⟨q0 + 1 + 1, 5, none⟩ (.slice aP ps.length cP)) (q0 + 1 + 1) 6 (.slice aQ qs.length cQ)) (fun g0 e0 => by have := (HB1.out g0 e0); simp; omega)) (grown_set (((((((Z.setCell ⟨q0 + 1 + 1, 0, none⟩ (.int .i64 (N : Int))).setCell ⟨q0 + 1 + 1, 1, none⟩ (.int .i64 bl)).setCell ⟨q0 + 1 + 1, 2, none⟩ (.int .i64 bh)).setCell ⟨q0 + 1 + 1, 3, none⟩ (.int .i64 rl)).setCell ⟨q0 + 1 + 1, 4, none⟩ (.int .i64 rh)).setCell ⟨q0 + 1 + 1, 5, none⟩ (.slice aP ps.length cP)).setCell ⟨q0 + 1 + 1, 6, none⟩ (.slice aQ qs.length cQ)) (q0 + 1 + 1) 7 (.slice a4 ls'.length c4)) (fun g0 e0 => by have := (HB1.out g0 e0); simp; omega))
                  have tHEr := Lib.hid (row_keep (row_keep (row_keep (row_keep (row_keep (row_keep (row_keep (row_keep sHEr (grown_set Z (q0 + 1 + 1) 0 (.int .i64 (N : Int))) (fun g0 e0 => by have := (HB2.out g0 e0); simp; omega)) (grown_set (Z.setCell ⟨q0 + 1 + 1, 0, none⟩ (.int .i64 (N : Int))) (q0 + 1 + 1) 1 (.int .i64 bl)) (fun g0 e0 => by have := (HB2.out g0 e0); simp; omega)) (grown_set ((Z.setCell ⟨q0 + 1 + 1, 0, none⟩ (.int .i64 (N : Int))).setCell ⟨q0 + 1 + 1, 1, none⟩ (.int .i64 bl)) (q0 + 1 + 1) 2 (.int .i64 bh)) (fun g0 e0 => by have := (HB2.out g0 e0); simp; omega)) (grown_set (((Z.setCell ⟨q0 + 1 + 1, 0, none⟩ (.int .i64 (N : Int))).setCell ⟨q0 + 1 + 1, 1, none⟩ (.int .i64 bl)).setCell ⟨q0 + 1 + 1, 2, none⟩ (.int .i64 bh)) (q0 + 1 + 1) 3 (.int .i64 rl)) (fun g0 e0 => by have := (HB2.out g0 e0); simp; omega)) (grown_set ((((Z.setCell ⟨q0 + 1 + 1, 0, none⟩ (.int .i64 (N : Int))).setCell ⟨q0 + 1 + 1, 1, none⟩ (.int .i64 bl)).setCell ⟨q0 + 1 + 1, 2, none⟩ (.int .i64 bh)).setCell ⟨q0 + 1 + 1, 3, none⟩ (.int .i64 rl)) (q0 + 1 + 1) 4 (.int .i64 rh)) (fun g0 e0 => by have := (HB2.out g0 e0); simp; omega)) (grown_set (((((Z.setCell ⟨q0 + 1 + 1, 0, none⟩ (.int .i64 (N : Int))).setCell ⟨q0 + 1 + 1, 1, none⟩ (.int .i64 bl)).setCell ⟨q0 + 1 + 1, 2, none⟩ (.int .i64 bh)).setCell ⟨q0 + 1 + 1, 3, none⟩ (.int .i64 rl)).setCell ⟨q0 + 1 + 1, 4, none⟩ (.int .i64 rh)) (q0 + 1 + 1) 5 (.slice aP ps.length cP)) (fun g0 e0 => by have := (HB2.out g0 e0); simp; omega)) (grown_set ((((((Z.setCell ⟨q0 + 1 + 1, 0, none⟩ (.int .i64 (N : Int))).setCell ⟨q0 + 1 + 1, 1, none⟩ (.int .i64 bl)).setCell ⟨q0 + 1 + 1, 2, none⟩ (.int .i64 bh)).setCell ⟨q0 + 1 + 1, 3, none⟩ (.int .i64 rl)).setCell ⟨q0 + 1 + 1, 4, none⟩ (.int .i64 rh)).setCell ⟨q0 + 1 + 1, 5, none⟩ (.slice aP ps.length cP)) (q0 + 1 + 1) 6 (.slice aQ qs.length cQ)) (fun g0 e0 => by have := (HB2.out g0 e0); simp; omega)) (grown_set (((((((Z.setCell ⟨q0 + 1 + 1, 0, none⟩ (.int .i64 (N : Int))).setCell ⟨q0 + 1 + 1, 1, none⟩ (.int .i64 bl)).setCell ⟨q0 + 1 + 1, 2, none⟩ (.int .i64 bh)).setCell ⟨q0 + 1 + 1, 3, none⟩ (.int .i64 rl)).setCell ⟨q0 + 1 + 1, 4, none⟩ (.int .i64 rh)).setCell ⟨q0 + 1 + 1, 5, none⟩ (.slice aP ps.length cP)).setCell ⟨q0 + 1 + 1, 6, none⟩ (.slice aQ qs.length cQ)) (q0 + 1 + 1) 7 (.slice a4 ls'.length c4)) (fun g0 e0 => by have := (HB2.out g0 e0); simp; omega))
                  have tHQr := Lib.hid (row_keep (row_keep (row_keep (row_keep (row_keep (row_keep (row_keep (row_keep sHQr (grown_set Z (q0 + 1 + 1) 0 (.int .i64 (N : Int))) (fun g0 e0 => by have := (HB3.out g0 e0); simp; omega)) (grown_set (Z.setCell ⟨q0 + 1 + 1, 0, none⟩ (.int .i64 (N : Int))) (q0 + 1 + 1) 1 (.int .i64 bl)) (fun g0 e0 => by have := (HB3.out g0 e0); simp; omega)) (grown_set ((Z.setCell ⟨q0 + 1 + 1, 0, none⟩ (.int .i64 (N : Int))).setCell ⟨q0 + 1 + 1, 1, none⟩ (.int .i64 bl)) (q0 + 1 + 1) 2 (.int .i64 bh)) (fun g0 e0 => by have := (HB3.out g0 e0); simp; omega)) (grown_set (((Z.setCell ⟨q0 + 1 + 1, 0, none⟩ (.int .i64 (N : Int))).setCell ⟨q0 + 1 + 1, 1, none⟩ (.int .i64 bl)).setCell ⟨q0 + 1 + 1, 2, none⟩ (.int .i64 bh)) (q0 + 1 + 1) 3 (.int .i64 rl)) (fun g0 e0 => by have := (HB3.out g0 e0); simp; omega)) (grown_set ((((Z.setCell ⟨q0 + 1 + 1, 0, none⟩ (.int .i64 (N : Int))).setCell ⟨q0 + 1 + 1, 1, none⟩ (.int .i64 bl)).setCell ⟨q0 + 1 + 1, 2, none⟩ (.int .i64 bh)).setCell ⟨q0 + 1 + 1, 3, none⟩ (.int .i64 rl)) (q0 + 1 + 1) 4 (.int .i64 rh)) (fun g0 e0 => by have := (HB3.out g0 e0); simp; omega)) (grown_set (((((Z.setCell ⟨q0 + 1 + 1, 0, none⟩ (.int .i64 (N : Int))).setCell ⟨q0 + 1 + 1, 1, none⟩ (.int .i64 bl)).setCell ⟨q0 + 1 + 1, 2, none⟩ (.int .i64 bh)).setCell ⟨q0 + 1 + 1, 3, none⟩ (.int .i64 rl)).setCell ⟨q0 + 1 + 1, 4, none⟩ (.int .i64 rh)) (q0 + 1 + 1) 5 (.slice aP ps.length cP)) (fun g0 e0 => by have := (HB3.out g0 e0); simp; omega)) (grown_set ((((((Z.setCell ⟨q0 + 1 + 1, 0, none⟩ (.int .i64 (N : Int))).setCell ⟨q0 + 1 + 1, 1, none⟩ (.int .i64 bl)).setCell ⟨q0 + 1 + 1, 2, none⟩ (.int .i64 bh)).setCell ⟨q0 + 1 + 1, 3, none⟩ (.int .i64 rl)).setCell ⟨q0 + 1 + 1, 4, none⟩ (.int .i64 rh)).setCell ⟨q0 + 1 + 1, 5, none⟩ (.slice aP ps.length cP)) (q0 + 1 + 1) 6 (.slice aQ qs.length cQ)) (fun g0 e0 => by have := (HB3.out g0 e0); simp; omega)) (grown_set (((((((Z.setCell ⟨q0 + 1 + 1, 0, none⟩ (.int .i64 (N : Int))).setCell ⟨q0 + 1 + 1, 1, none⟩ (.int .i64 bl)).setCell ⟨q0 + 1 + 1, 2, none⟩ (.int .i64 bh)).setCell ⟨q0 + 1 + 1, 3, none⟩ (.int .i64 rl)).setCell ⟨q0 + 1 + 1, 4, none⟩ (.int .i64 rh)).setCell ⟨q0 + 1 + 1, 5, none⟩ (.slice aP ps.length cP)).setCell ⟨q0 + 1 + 1, 6, none⟩ (.slice aQ qs.length cQ)) (q0 + 1 + 1) 7 (.slice a4 ls'.length c4)) (fun g0 e0 => by have := (HB3.out g0 e0); simp; omega))
                  have tHO := Lib.hid (row_keep (row_keep (row_keep (row_keep (row_keep (row_keep (row_keep (row_keep sHO (grown_set Z (q0 + 1 + 1) 0 (.int .i64 (N : Int))) (fun g0 e0 => by have := row_base HO.out g0 e0; simp; omega)) (grown_set (Z.setCell ⟨q0 + 1 + 1, 0, none⟩ (.int .i64 (N : Int))) (q0 + 1 + 1) 1 (.int .i64 bl)) (fun g0 e0 => by have := row_base HO.out g0 e0; simp; omega)) (grown_set ((Z.setCell ⟨q0 + 1 + 1, 0, none⟩ (.int .i64 (N : Int))).setCell ⟨q0 + 1 + 1, 1, none⟩ (.int .i64 bl)) (q0 + 1 + 1) 2 (.int .i64 bh)) (fun g0 e0 => by have := row_base HO.out g0 e0; simp; omega)) (grown_set (((Z.setCell ⟨q0 + 1 + 1, 0, none⟩ (.int .i64 (N : Int))).setCell ⟨q0 + 1 + 1, 1, none⟩ (.int .i64 bl)).setCell ⟨q0 + 1 + 1, 2, none⟩ (.int .i64 bh)) (q0 + 1 + 1) 3 (.int .i64 rl)) (fun g0 e0 => by have := row_base HO.out g0 e0; simp; omega)) (grown_set ((((Z.setCell ⟨q0 + 1 + 1, 0, none⟩ (.int .i64 (N : Int))).setCell ⟨q0 + 1 + 1, 1, none⟩ (.int .i64 bl)).setCell ⟨q0 + 1 + 1, 2, none⟩ (.int .i64 bh)).setCell ⟨q0 + 1 + 1, 3, none⟩ (.int .i64 rl)) (q0 + 1 + 1) 4 (.int .i64 rh)) (fun g0 e0 => by have := row_base HO.out g0 e0; simp; omega)) (grown_set (((((Z.setCell ⟨q0 + 1 + 1, 0, none⟩ (.int .i64 (N : Int))).setCell ⟨q0 + 1 + 1, 1, none⟩ (.int .i64 bl)).setCell ⟨q0 + 1 + 1, 2, none⟩ (.int .i64 bh)).setCell ⟨q0 + 1 + 1, 3, none⟩ (.int .i64 rl)).setCell ⟨q0 + 1 + 1, 4, none⟩ (.int .i64 rh)) (q0 + 1 + 1) 5 (.slice aP ps.length cP)) (fun g0 e0 => by have := row_base HO.out g0 e0; simp; omega)) (grown_set ((((((Z.setCell ⟨q0 + 1 + 1, 0, none⟩ (.int .i64 (N : Int))).setCell ⟨q0 + 1 + 1, 1, none⟩ (.int .i64 bl)).setCell ⟨q0 + 1 + 1, 2, none⟩ (.int .i64 bh)).setCell ⟨q0 + 1 + 1, 3, none⟩ (.int .i64 rl)).setCell ⟨q0 + 1 + 1, 4, none⟩ (.int .i64 rh)).setCell ⟨q0 + 1 + 1, 5, none⟩ (.slice aP ps.length cP)) (q0 + 1 + 1) 6 (.slice aQ qs.length cQ)) (fun g0 e0 => by have := row_base HO.out g0 e0; simp; omega)) (grown_set (((((((Z.setCell ⟨q0 + 1 + 1, 0, none⟩ (.int .i64 (N : Int))).setCell ⟨q0 + 1 + 1, 1, none⟩ (.int .i64 bl)).setCell ⟨q0 + 1 + 1, 2, none⟩ (.int .i64 bh)).setCell ⟨q0 + 1 + 1, 3, none⟩ (.int .i64 rl)).setCell ⟨q0 + 1 + 1, 4, none⟩ (.int .i64 rh)).setCell ⟨q0 + 1 + 1, 5, none⟩ (.slice aP ps.length cP)).setCell ⟨q0 + 1 + 1, 6, none⟩ (.slice aQ qs.length cQ)) (q0 + 1 + 1) 7 (.slice a4 ls'.length c4)) (fun g0 e0 => by have := row_base HO.out g0 e0; simp; omega))
                  obtain ⟨Z2, hZ2⟩ : ∃ z, ((((((((Z.setCell ⟨q0 + 1 + 1, 0, none⟩ (.int .i64 (N : Int))).setCell ⟨q0 + 1 + 1, 1, none⟩ (.int .i64 bl)).setCell ⟨q0 + 1 + 1, 2, none⟩ (.int .i64 bh)).setCell ⟨q0 + 1 + 1, 3, none⟩ (.int .i64 rl)).setCell ⟨q0 + 1 + 1, 4, none⟩ (.int .i64 rh)).setCell ⟨q0 + 1 + 1, 5, none⟩ (.slice aP ps.length cP)).setCell ⟨q0 + 1 + 1, 6, none⟩ (.slice aQ qs.length cQ)).setCell ⟨q0 + 1 + 1, 7, none⟩ (.slice a4 ls'.length c4)) = z := ⟨_, rfl⟩
                  rw [hZ2] at UZ2 kC2 KT2 tHLr tHEr tHQr tHO
                  try rw [hZ2]
                  refine hK.out _ _ ?_
                  clear hK K hZ2 zf UZ kZ z6 z7 zC kT2 sHLr sHEr sHQr sHO
                  refine doneG (by kernel_rfl) ?_ _
                  refine S.nrm_intro ?_
                  go_wp2_with fail
                  have cc1 := cellB KT2.out
                  have cc2 := cellB kC2.out
                  exact bodyPost_ret (v := .tuple #[.agg #[.slice a N c, .slice a2 ps.length c2, .slice a3 qs.length c3], BoV (N : Int) bl bh rl rh (.slice aP ps.length cP) (.slice aQ qs.length cQ) (.slice a4 ls'.length c4)]) (by simp [results, Try.results39, go_sem, cc1, cc2]) rfl ⟨⟨T.wsY L E Q, ls', a, a2, a3, a4, c, c2, c3, c4, rfl, Tab.of_row tHO.out (by decide) (by have := HN4.out; omega), (congrArg (Ints _ _) HFin.out.2.2.1).mp (T.ints_row tHLr.out (by omega)), (congrArg (Ints _ _) HFin.out.2.2.2.1).mp (T.ints_row tHEr.out (by omega)), (congrArg (Ints _ _) HFin.out.2.2.2.2).mp (T.ints_row tHQr.out (by omega)), HFin.out.1, HFin.out.2.1, rfl⟩, UZ2.out⟩
end

end Go.Proofs.Ytlpkheoljbdajaa
