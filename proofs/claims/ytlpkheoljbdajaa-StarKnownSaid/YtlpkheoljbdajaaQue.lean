import Derived.Test.YtlpkheoljbdajaaBtw
import Derived.Test.YtlpkheoljbdajaaNew
/- The contract of newQuestion. -/
namespace Go.Proofs.Ytlpkheoljbdajaa
open Go.RowKit Go.Shelf

abbrev WeZ : Value := .agg #[.int .i64 0, .int .i64 0, .int .i64 0, .int .i64 0, .int .i64 0, .slice none 0 0, .slice none 0 0, .slice none 0 0, .bool false, .bool false, .bool false, .bool false, .bool false, .bool false, .bool false, .bool false, .bool false, .bool false, .slice none 0 0]
section
variable {N : Nat} {bl bh rl rh : Int} {aP aQ aL aC : Option Addr} {nP cP nQ cQ nL cL nC cC : Nat} {o : Nat → Bool} {ps qs : List (Int × Int)} {ls : List T.T5} {cl : List Int} {k : Int}
theorem T.valid_bok (h : T.valid N bl bh rl rh ps qs ls = true) : T.Bok N bl bh rl rh ps qs ls := by
  have sp : ∀ (l u a b : Int), S.spanOk l u a b = true → a ≤ l ∧ l ≤ u ∧ u ≤ b := fun l u a b h => S.spanOk_iff.1 h
  unfold T.valid T.nightsOk T.othersOk at h
  simp only [Bool.and_eq_true, decide_eq_true_eq, List.all_eq_true, inB_iff] at h
  obtain ⟨⟨⟨a1, a2⟩, a3, a4⟩, ⟨⟨b1, b2⟩, b3, b4⟩, c1, c2⟩ := h
  have e3 := sp _ _ _ _ a3
  have e4 := sp _ _ _ _ a4
  refine ⟨by omega, by omega, ⟨⟨by show _ ≤ bl; omega, by show bl ≤ _; omega⟩, by show _ ≤ bh; omega, by show bh ≤ _; omega⟩, ⟨⟨by show _ ≤ rl; omega, by show rl ≤ _; omega⟩, by show _ ≤ rh; omega, by show rh ≤ _; omega⟩, b1, b3, fun s hs => ?_, fun s hs => ?_, c1, fun x hx => ?_⟩
  · have := sp _ _ _ _ (b2 s hs)
    exact ⟨⟨by omega, by omega⟩, by omega, by omega⟩
  · have := sp _ _ _ _ (b4 s hs)
    exact ⟨⟨by omega, by omega⟩, by omega, by omega⟩
  · have q := c2 x hx
    unfold T.lookOk at q
    simp only [Bool.and_eq_true, inB_iff] at q
    obtain ⟨d1, d2, d3, d4, d5⟩ := q
    have hk : x.2.1 = 0 ∨ x.2.1 = 1 := by omega
    refine ⟨⟨d1.1, by omega⟩, hk, ⟨d3.1, ?_⟩, d4, by omega⟩
    rcases hk with e | e <;> rw [e] at d3
    · have : x.2.2.1 ≤ (ps.length : Int) - 1 := d3.2
      omega
    · have : x.2.2.1 ≤ (qs.length : Int) - 1 := d3.2
      omega
theorem Tis.keep {w0 W Z : World} {q : Nat} {v : Value} {ts : List T.T4} (h : Tis W v ts) (hn : T.New w0 v) (hq : q < w0.heap.size) (hg : W.grownBy Z (some q)) : Tis Z v ts := by
  obtain ⟨a, c, rfl, hc, hl, hm⟩ := h.is
  refine ⟨_, _, rfl, hc, hl, fun h0 => ?_⟩
  obtain ⟨g, off, rfl, gl, hx⟩ := hm h0
  have hgq : w0.heap.size ≤ g := hn g rfl
  exact ⟨g, off, rfl, Nat.lt_of_lt_of_le gl hg.size, fun j hj i hi => (by
    have e := hg.block g gl (fun e => by have := Option.some.inj e; omega)
    rw [show Z.cell? ⟨g, off + j * 4 + i, none⟩ = W.cell? ⟨g, off + j * 4 + i, none⟩ by simp only [World.cell?, e]]
    exact hx j hj i hi)⟩
theorem Ints.at {w : World} {a : Option Addr} {n c : Nat} {xs : List Int} (I : Ints w (.slice a n c) xs) (h : 0 < xs.length) : ∃ g off, a = some ⟨g, off, none⟩ ∧ g < w.heap.size ∧ ∀ j, j < xs.length → w.cell? ⟨g, off + j, none⟩ = some (.int .i64 (xs.getD j 0)) := by
  obtain ⟨a1, c1, e1, _, _, hm1⟩ := I.is
  injection e1 with e1 e2 e3
  subst e1 e3
  exact hm1 h
/-- are all that are asked about there? -/
def T.askd (nP nQ : Nat) (N : Int) (k : Int) (cl : List Int) : Bool := cl.all fun n => inB n 0 (T.many nP nQ N k - 1)
theorem T.askd_step {nP nQ : Nat} {N k : Int} {cl : List Int} {j : Nat} (h : j < cl.length) : T.askd nP nQ N k (cl.drop j) = (inB (cl.getD j 0) 0 (T.many nP nQ N k - 1) && T.askd nP nQ N k (cl.drop (j + 1))) := by
  unfold T.askd
  rw [List.drop_eq_getElem_cons h, List.all_cons, List.getD_eq_getElem?_getD, List.getElem?_eq_getElem h]
  rfl
set_option maxRecDepth 100000 in
set_option maxHeartbeats 2000000 in
theorem newQuestion_no {w : World} {M : Int} {vc : Value} (I : Sps w (.slice aP nP cP) ps) (J : Sps w (.slice aQ nQ cQ) qs) (K : Lks w (.slice aL nL cL) ls) (h : T.valid M bl bh rl rh ps qs ls = false) :
    Calls Try.prog 63 #[BoV M bl bh rl rh (.slice aP nP cP) (.slice aQ nQ cQ) (.slice aL nL cL), .int .i64 k, vc] w fun e w' => e = .returned (.tuple #[WeZ, .int .i64 30]) ∧ Up w w' := by
  have HN := Lib.hid (fun w' (u : Up w w') => newBook_no (I.up u) (J.up u) (K.up u) h)
  clear I J K h
  go_enter Try.func63, Try.ntmps63
  go_wp2_with fail
  obtain ⟨W0, hW0⟩ : ∃ x, (w.alloc (.cells (BoC M bl bh rl rh (.slice aP nP cP) (.slice aQ nQ cQ) (.slice aL nL cL)) 27)).alloc (.cells #[.int .i64 0, .int .i64 0, .int .i64 0, .int .i64 0, .int .i64 0, .slice none 0 0, .slice none 0 0, .slice none 0 0, .bool false, .bool false, .bool false, .bool false, .bool false, .bool false, .bool false, .bool false, .bool false, .bool false, .slice none 0 0] 90) = x := ⟨_, rfl⟩
  obtain ⟨q0, e0⟩ : ∃ x, w.heap.size = x := ⟨_, rfl⟩
  obtain ⟨q1, e1⟩ : ∃ x, q0 + 1 = x := ⟨_, rfl⟩
  have U0 : Up w W0 := by rw [← hW0]; exact ((Up.refl w).alloc _).alloc _
  have kR : mblk W0 q1 = some (.cells #[.int .i64 0, .int .i64 0, .int .i64 0, .int .i64 0, .int .i64 0, .slice none 0 0, .slice none 0 0, .slice none 0 0, .bool false, .bool false, .bool false, .bool false, .bool false, .bool false, .bool false, .bool false, .bool false, .bool false, .slice none 0 0] 90 (0, 0)) := by rw [← hW0]; exact blk_new _ _ _ (by simp; omega)
  rw [hW0, e0, e1]
  clear hW0
  refine (HN.out W0 U0).mono ?_
  rintro e W1 ⟨rfl, u1⟩
  replace kR := u1.blk kR
  have lR := blk_lt kR
  have UW := U0.trans u1
  clear HN U0 u1
  have kR2 := blk_keep (.cells #[.int .i64 0, .int .i64 0, .int .i64 0, .int .i64 0, .int .i64 0, .slice none 0 0, .slice none 0 0, .slice none 0 0, .bool false, .bool false, .bool false, .bool false, .bool false, .bool false, .bool false, .bool false, .bool false, .bool false] 81) kR
  have kF := Lib.hid (blk_setRow kR2 #[.int .i64 0, .int .i64 0, .int .i64 0, .int .i64 0, .int .i64 0, .slice none 0 0, .slice none 0 0, .slice none 0 0, .bool false, .bool false, .bool false, .bool false, .bool false, .bool false, .bool false, .bool false, .bool false, .bool false, .slice none 0 0])
  have UF := Lib.hid ((UW.alloc (.cells #[.int .i64 0, .int .i64 0, .int .i64 0, .int .i64 0, .int .i64 0, .slice none 0 0, .slice none 0 0, .slice none 0 0, .bool false, .bool false, .bool false, .bool false, .bool false, .bool false, .bool false, .bool false, .bool false, .bool false] 81)).grown (grown_row (W1.alloc (.cells #[.int .i64 0, .int .i64 0, .int .i64 0, .int .i64 0, .int .i64 0, .slice none 0 0, .slice none 0 0, .slice none 0 0, .bool false, .bool false, .bool false, .bool false, .bool false, .bool false, .bool false, .bool false, .bool false, .bool false] 81)) q1 #[.int .i64 0, .int .i64 0, .int .i64 0, .int .i64 0, .int .i64 0, .slice none 0 0, .slice none 0 0, .slice none 0 0, .bool false, .bool false, .bool false, .bool false, .bool false, .bool false, .bool false, .bool false, .bool false, .bool false, .slice none 0 0]) (fun k e => by have := Option.some.inj e; omega))
  have hst : (bookStore (.pointer (some ⟨W1.heap.size, 0, none⟩)) BkZ).run Try.prog (W1.alloc (.cells #[.int .i64 0, .int .i64 0, .int .i64 0, .int .i64 0, .int .i64 0, .slice none 0 0, .slice none 0 0, .slice none 0 0, .bool false, .bool false, .bool false, .bool false, .bool false, .bool false, .bool false, .bool false, .bool false, .bool false] 81)) = .ok () (W1.alloc (.cells #[.int .i64 0, .int .i64 0, .int .i64 0, .int .i64 0, .int .i64 0, .slice none 0 0, .slice none 0 0, .slice none 0 0, .bool false, .bool false, .bool false, .bool false, .bool false, .bool false, .bool false, .bool false, .bool false, .bool false] 81)) := by
    have q := run_bookStore_row (W1.alloc (.cells #[.int .i64 0, .int .i64 0, .int .i64 0, .int .i64 0, .int .i64 0, .slice none 0 0, .slice none 0 0, .slice none 0 0, .bool false, .bool false, .bool false, .bool false, .bool false, .bool false, .bool false, .bool false, .bool false, .bool false] 81)) W1.heap.size #[.int .i64 0, .int .i64 0, .int .i64 0, .int .i64 0, .int .i64 0, .slice none 0 0, .slice none 0 0, .slice none 0 0, .bool false, .bool false, .bool false, .bool false, .bool false, .bool false, .bool false, .bool false, .bool false, .bool false] #[.int .i64 0, .int .i64 0, .int .i64 0, .int .i64 0, .int .i64 0, .slice none 0 0, .slice none 0 0, .slice none 0 0, .bool false, .bool false, .bool false, .bool false, .bool false, .bool false, .bool false, .bool false, .bool false, .bool false] (blk_new _ _ _ rfl) rfl ⟨rfl, by simp [Value.oneCell']⟩
    rw [setRow_new _ _ _ _ _ rfl] at q
    exact q
  clear UW
  go_wp2_with fail
  exact bodyPost_ret (results_we rfl _ _ _ _ rfl kF.out rfl) rfl ⟨rfl, UF.out⟩
set_option maxRecDepth 100000 in
set_option maxHeartbeats 2000000 in
theorem newQuestion_in {w : World} (I : Sps w (.slice aP nP cP) ps) (J : Sps w (.slice aQ nQ cQ) qs) (K : Lks w (.slice aL nL cL) ls) (C : Ints w (.slice aC nC cC) cl) (hk : k = 0 ∨ k = 1 ∨ k = 2) (h : T.valid N bl bh rl rh ps qs ls = true) :
    Calls Try.prog 63 #[BoV (N : Int) bl bh rl rh (.slice aP nP cP) (.slice aQ nQ cQ) (.slice aL nL cL), .int .i64 k, .slice aC nC cC] w fun e w' => ((T.askd nP nQ N k cl = false ∧ e = .returned (.tuple #[WeZ, .int .i64 31])) ∨ (T.askd nP nQ N k cl = true ∧ ∃ aT nT cT, e = .returned (.tuple #[WeV (N : Int) bl bh rl rh (.slice aP nP cP) (.slice aQ nQ cQ) (.slice aL nL cL) T.o0 (.slice aT nT cT), .int .i64 0]) ∧ Tis w' (.slice aT nT cT) (T.web N bl bh rl rh ps qs ls T.o0))) ∧ Up w w' := by
  have HN := Lib.hid (fun w' (u : Up w w') => newBook_ok (I.up u) (J.up u) (K.up u) h)
  have hb := T.valid_bok h
  have HW := Lib.hid (fun w' (u : Up w w') => newWeb_any (o := T.o0) hb (I.up u) (J.up u) (K.up u))
  have hP : nP ≤ 9223372036854775807 := by have := I.len; have := I.max; omega
  have hQ : nQ ≤ 9223372036854775807 := by have := J.len; have := J.max; omega
  have n8 := hb.n8
  have HH := Lib.hid (fun n w' => has_any (o := T.o0) (N := (N : Int)) (bl := bl) (bh := bh) (rl := rl) (rh := rh) (aP := aP) (aQ := aQ) (aL := aL) (nP := nP) (cP := cP) (nQ := nQ) (cQ := cQ) (nL := nL) (cL := cL) hk n w' hP hQ ⟨by omega, by omega⟩)
  have HC := Lib.hid C
  have hn := C.len
  have lx : cl.length ≤ 9223372036854775807 := by obtain ⟨_, _, _, _, h, _⟩ := C.is; exact h
  subst hn
  clear I J K h hb hP hQ n8 hk C
  go_enter Try.func63, Try.ntmps63
  go_wp2_with fail
  obtain ⟨W0, hW0⟩ : ∃ x, (w.alloc (.cells (BoC (N : Int) bl bh rl rh (.slice aP nP cP) (.slice aQ nQ cQ) (.slice aL nL cL)) 27)).alloc (.cells #[.int .i64 0, .int .i64 0, .int .i64 0, .int .i64 0, .int .i64 0, .slice none 0 0, .slice none 0 0, .slice none 0 0, .bool false, .bool false, .bool false, .bool false, .bool false, .bool false, .bool false, .bool false, .bool false, .bool false, .slice none 0 0] 90) = x := ⟨_, rfl⟩
  obtain ⟨q0, e0⟩ : ∃ x, w.heap.size = x := ⟨_, rfl⟩
  obtain ⟨q1, e1⟩ : ∃ x, q0 + 1 = x := ⟨_, rfl⟩
  have U0 : Up w W0 := by rw [← hW0]; exact ((Up.refl w).alloc _).alloc _
  have kR : mblk W0 q1 = some (.cells #[.int .i64 0, .int .i64 0, .int .i64 0, .int .i64 0, .int .i64 0, .slice none 0 0, .slice none 0 0, .slice none 0 0, .bool false, .bool false, .bool false, .bool false, .bool false, .bool false, .bool false, .bool false, .bool false, .bool false, .slice none 0 0] 90 (0, 0)) := by rw [← hW0]; exact blk_new _ _ _ (by simp; omega)
  rw [hW0, e0, e1]
  clear hW0
  refine (HN.out W0 U0).mono ?_
  rintro e W1 ⟨rfl, u1⟩
  replace kR := u1.blk kR
  have lR := blk_lt kR
  have UW := U0.trans u1
  clear HN U0 u1
  obtain ⟨W2, hW2⟩ : ∃ z, W1.alloc (.cells (BkC (N : Int) bl bh rl rh (.slice aP nP cP) (.slice aQ nQ cQ) (.slice aL nL cL) T.o0) 81) = z := ⟨_, rfl⟩
  obtain ⟨q8, e8⟩ : ∃ z, W1.heap.size = z := ⟨_, rfl⟩
  have u2 : Up W1 W2 := by rw [← hW2]; exact (Up.refl W1).alloc _
  have kC : mblk W2 q8 = some (.cells (BkC (N : Int) bl bh rl rh (.slice aP nP cP) (.slice aQ nQ cQ) (.slice aL nL cL) T.o0) 81 (0, 0)) := by rw [← hW2]; exact blk_new _ _ _ e8.symm
  replace kR := u2.blk kR
  replace UW := UW.trans u2
  have lR2 := blk_lt kR
  have lC2 := blk_lt kC
  have HKR := Lib.hid kR
  have HKC := Lib.hid kC
  have HUW := Lib.hid UW
  clear u2 kR kC UW
  go_wp2_with fail
  try rw [hW2, e8]
  clear hW2
  go_loopw [23] (fun iv wr => ∃ j : Nat, j ≤ cl.length ∧ iv = .int .i64 j ∧ Hid (T.askd nP nQ N k cl = T.askd nP nQ N k (cl.drop j)) ∧ Up W2 wr) (fun iv _ => cl.length - (intOf iv).toNat)
  case atStart => exact ⟨0, Nat.zero_le _, rfl, Lib.hid (by rw [List.drop_zero]), Up.refl W2⟩
  case round =>
    obtain ⟨j, hj, rfl, hA, V⟩ := hrel
    have kC := V.blk HKC.out
    have kR := V.blk HKR.out
    have lR := blk_lt kR
    have lC := blk_lt kC
    by_cases hlt : j < cl.length
    · have hlt' : (j : Int) < cl.length := by omega
      obtain ⟨g, off, rfl, gl, hc⟩ := (HC.out.up (HUW.out.trans V)).at (by omega)
      have c1 := hc j hlt
      have st := T.askd_step (nP := nP) (nQ := nQ) (N := N) (k := k) hlt
      obtain ⟨p, hp⟩ : ∃ p, cl.getD j 0 = p := ⟨_, rfl⟩
      rw [hp] at c1 st
      have ST := Lib.hid st
      have HP := Lib.hid (fun w => HH.out p w)
      clear hc hp st
      go_wp2_with fail
      refine (HP.out _).mono ?_
      rintro e w9 ⟨rfl, u9⟩
      replace kR := u9.blk kR
      replace V := V.trans u9
      cases hb : inB p 0 (T.many nP nQ N k - 1) with
      | false =>
        have h3 := Lib.hid (show T.askd nP nQ N k cl = false by rw [hA.out, ST.out, hb]; rfl)
        have kF := Lib.hid (blk_setRow kR #[.int .i64 0, .int .i64 0, .int .i64 0, .int .i64 0, .int .i64 0, .slice none 0 0, .slice none 0 0, .slice none 0 0, .bool false, .bool false, .bool false, .bool false, .bool false, .bool false, .bool false, .bool false, .bool false, .bool false, .slice none 0 0])
        have UF := Lib.hid ((HUW.out.trans V).grown (grown_row w9 q1 #[.int .i64 0, .int .i64 0, .int .i64 0, .int .i64 0, .int .i64 0, .slice none 0 0, .slice none 0 0, .slice none 0 0, .bool false, .bool false, .bool false, .bool false, .bool false, .bool false, .bool false, .bool false, .bool false, .bool false, .slice none 0 0]) (fun k e => by have := Option.some.inj e; omega))
        clear hA ST hb HP kC
        go_wp2_with fail
        exact bodyPost_ret (results_we rfl _ _ _ _ rfl kF.out rfl) rfl ⟨.inl ⟨h3.out, rfl⟩, UF.out⟩
      | true =>
        have h3 := Lib.hid (show T.askd nP nQ N k cl = T.askd nP nQ N k (cl.drop (j + 1)) by rw [hA.out, ST.out, hb]; rfl)
        clear hA ST hb HP kC kR lR lC
        go_wp2
        go_roundw
        case rel => exact ⟨j + 1, by omega, by go_num, h3, V⟩
        case measure => simp [intOf]; omega
    · obtain rfl : j = cl.length := by omega
      have h3 := Lib.hid (show T.askd nP nQ N k cl = true by rw [hA.out, List.drop_length]; rfl)
      have HV := Lib.hid V
      clear hA HH
      go_wp2_with fail
      refine (HW.out wr (HUW.out.trans HV.out)).mono ?_
      rintro e W5 ⟨⟨aT, nT, cT, rfl, hT, hNew⟩, u5⟩
      replace kR := u5.blk kR
      have lR5 := blk_lt kR
      have kF := Lib.hid (blk_setRow kR (WeC (N : Int) bl bh rl rh (.slice aP nP cP) (.slice aQ nQ cQ) (.slice aL nL cL) T.o0 (.slice aT nT cT)))
      have gF := grown_row W5 q1 (WeC (N : Int) bl bh rl rh (.slice aP nP cP) (.slice aQ nQ cQ) (.slice aL nL cL) T.o0 (.slice aT nT cT))
      have UF := Lib.hid (((HUW.out.trans HV.out).trans u5).grown gF (fun k e => by have := Option.some.inj e; omega))
      have hTF := Lib.hid (Tis.keep hT hNew lR gF)
      clear hT hNew u5 V gF kC
      go_wp2_with fail
      exact bodyPost_ret (results_we rfl _ _ _ _ rfl kF.out rfl) rfl ⟨.inr ⟨h3.out, aT, nT, cT, rfl, hTF.out⟩, UF.out⟩
end

end Go.Proofs.Ytlpkheoljbdajaa
