import Derived.Test.YtlpkheoljbdajaaRfT
import Derived.Test.YtlpkheoljbdajaaRfO
import Derived.Test.YtlpkheoljbdajaaLws
import Derived.Test.YtlpkheoljbdajaaHeQ
/- The law StarCases. -/
namespace Go.Proofs.Ytlpkheoljbdajaa
open Go.RowKit Go.Shelf
attribute [local go_sem] Oper.semAt_some

section
variable {bl bh rl rh : Int} {aP aQ aL : Option Addr} {nP cP nQ cQ nL cL : Nat} {ps qs : List (Int × Int)} {ls : List T.T5}
set_option maxRecDepth 100000 in
set_option maxHeartbeats 8000000 in
set_option linter.unusedSimpArgs false in
theorem starCases_any {M n : Int} {most : Bool} {w : World} (I : Sps w (.slice aP nP cP) ps) (J : Sps w (.slice aQ nQ cQ) qs) (K : Lks w (.slice aL nL cL) ls) :
    Calls Try.prog 5 #[BoV M bl bh rl rh (.slice aP nP cP) (.slice aQ nQ cQ) (.slice aL nL cL), .int .i64 n, .bool most] w fun e w' => e = .returned (.bool true) ∧ Up w w' := by
  have U := ((Up.refl w).alloc (.cells (BoC M bl bh rl rh (.slice aP nP cP) (.slice aQ nQ cQ) (.slice aL nL cL)) 27))
  have HW := Lib.hid (fun w => l_works_any w)
  have hmx : Try.prog.follows .mixedOrders = true := by kernel_rfl
  have hcase : (∃ e : Int, e ≠ 0 ∧ ∀ w' (_ : Up w w'), (Calls Try.prog 30 #[BoV M bl bh rl rh (.slice aP nP cP) (.slice aQ nQ cQ) (.slice aL nL cL), .int .i64 n, .bool most] w' fun e' w'' => e' = .returned (.tuple #[.agg #[.slice none 0 0, .slice none 0 0, .slice none 0 0], .int .i64 e]) ∧ Up w' w'') ∧ Calls Try.prog 25 #[BoV M bl bh rl rh (.slice aP nP cP) (.slice aQ nQ cQ) (.slice aL nL cL), .int .i64 n] w' fun e' w'' => e' = .returned (.tuple #[SpV 0 0, .int .i64 e]) ∧ Up w' w'') ∨
      (T.valid M bl bh rl rh ps qs ls = true ∧ (0 ≤ n ∧ n < M) ∧ ∀ N : Nat, M = N → ∃ l h, T.Tells (T.Tr N bl bh rl rh ps qs ls) 0 (1 + n) l h 0) := by
    by_cases hq : T.qErr M bl bh rl rh ps qs ls 2 [n] = 0
    · obtain ⟨hv, ha⟩ := T.qErr_zero hq
      simp only [T.askd, T.many, List.all_cons, List.all_nil, Bool.and_true, inB_iff] at ha
      obtain ⟨N, rfl⟩ := T.valid_N hv
      have r0 : 0 ≤ n ∧ n < (N : Int) := by omega
      obtain ⟨l, h, e, t, _⟩ := T.Tells.ex (o := T.o0) (m := 0) (i := (1 + n)) hv T.al_0 (T.al_night r0)
      rcases t.err with rfl | ⟨rfl, rfl, rfl⟩
      · refine .inr ⟨hv, r0, fun N' hN => ?_⟩
        obtain rfl : N' = N := by omega
        exact ⟨l, h, t⟩
      · obtain ⟨_, _, _, hno⟩ := t.no (by decide)
        exact .inl ⟨32, by decide, fun w' u => ⟨Case_no hv r0 most hno (I.up u) (J.up u) (K.up u), r_Offset_any (I.up u) (J.up u) (K.up u) (.inr ⟨hq, fun N' hN => by
          obtain rfl : N' = N := by omega
          exact t⟩)⟩⟩
    · exact .inl ⟨_, hq, fun w' u => ⟨Case_bad (I.up u) (J.up u) (K.up u) rfl hq, r_Offset_any (I.up u) (J.up u) (K.up u) (.inl ⟨hq, rfl, rfl, rfl⟩)⟩⟩
  rcases hcase with ⟨e, he, hc⟩ | ⟨hv, hn, hc⟩
  · skip
    have C1 := Lib.hid (fun w' (u : Up w w') => (hc w' u).1)
    have R1 := Lib.hid (fun w' (u : Up w w') => (hc w' u).2)
    have hb : (e != 0) = true := by rw [bne_iff_ne]; exact he
    have hee : (e != e) = false := bne_self_eq_false e
    clear hc he I J K
    go_enter Try.func5, Try.ntmps5
    obtain ⟨q0, e0⟩ : ∃ x, w.heap.size = x := ⟨_, rfl⟩
    have kB := (blk_new w (.cells (BoC M bl bh rl rh (.slice aP nP cP) (.slice aQ nQ cQ) (.slice aL nL cL)) 27) q0 e0.symm)
    go_wp2_with fail
    refine (C1.out _ U).mono ?_
    rintro e x1 ⟨rfl, u2⟩
    replace U := U.trans u2
    replace kB := u2.blk kB
    clear u2 C1
    have dkBkt := blk_lt kB
    have gkt := U.size
    have kt := blk_new x1 (.cells #[.slice none 0 0, .slice none 0 0, .slice none 0 0] 30) _ rfl
    replace kB := blk_keep (.cells #[.slice none 0 0, .slice none 0 0, .slice none 0 0] 30) kB
    replace U := U.alloc (.cells #[.slice none 0 0, .slice none 0 0, .slice none 0 0] 30)
    go_wp2_with fail
    obtain ⟨pkt, hpkt⟩ : ∃ z, x1.heap.size = z := ⟨_, rfl⟩
    obtain ⟨W3, hW3⟩ : ∃ z, x1.alloc (.cells #[.slice none 0 0, .slice none 0 0, .slice none 0 0] 30) = z := ⟨_, rfl⟩
    rw [hpkt] at kt dkBkt gkt
    rw [hW3] at kt U kB
    rw [hW3, hpkt]
    go_wp2_with fail
    clear hpkt hW3
    refine (R1.out _ U).mono ?_
    rintro e x4 ⟨rfl, u5⟩
    replace U := U.trans u5
    replace kB := u5.blk kB
    replace kt := u5.blk kt
    clear u5 R1
    have dkBks := blk_lt kB
    have dktks := blk_lt kt
    have gks := U.size
    have ks := blk_new x4 (.cells #[.int .i64 0, .int .i64 0] 23) _ rfl
    replace kB := blk_keep (.cells #[.int .i64 0, .int .i64 0] 23) kB
    replace kt := blk_keep (.cells #[.int .i64 0, .int .i64 0] 23) kt
    replace U := U.alloc (.cells #[.int .i64 0, .int .i64 0] 23)
    go_wp2_with fail
    obtain ⟨pks, hpks⟩ : ∃ z, x4.heap.size = z := ⟨_, rfl⟩
    obtain ⟨W6, hW6⟩ : ∃ z, x4.alloc (.cells #[.int .i64 0, .int .i64 0] 23) = z := ⟨_, rfl⟩
    rw [hpks] at ks dkBks dktks gks
    rw [hW6] at ks U kB kt
    rw [hW6, hpks]
    go_wp2_with fail
    clear hpks hW6
    refine (HW.out _).mono ?_
    rintro e x7 ⟨rfl, u8⟩
    replace U := U.trans u8
    replace kB := u8.blk kB
    replace kt := u8.blk kt
    replace ks := u8.blk ks
    clear u8 
    go_wp2
    go_ret
    exact ⟨rfl, U⟩
  · skip
    obtain ⟨N, rfl⟩ := T.valid_N hv
    obtain ⟨lc, hc', tc⟩ := hc N rfl
    obtain ⟨k, rfl⟩ := Int.eq_ofNat_of_zero_le hn.1
    have hk : k < N := by omega
    have hnn := I.len
    have hno := J.len
    have hnp := K.len
    subst hnn hno hnp
    have hq := T.qErr_yes hv (T.askd1 (nP := ps.length) (nQ := qs.length) (k := 2) hn)
    have HC := Lib.hid (fun (most : Bool) w' (u : Up w w') => Case_tells hv hn most tc (I.up u) (J.up u) (K.up u))
    have HR := Lib.hid (fun w' (u : Up w w') => r_Offset_any (l := lc) (h := hc') (e := 0) (I.up u) (J.up u) (K.up u) (.inr ⟨hq, fun N' hN => by
      obtain rfl : N' = N := by omega
      exact tc⟩))
    have HT := Lib.hid (fun (y : Int → Int) (hy : T.Tr N bl bh rl rh ps qs ls y) (y0 : y 0 = 0) w0 w' (u : Up w w') (u0 : Up w0 w') aO cO aE cE aA cA IO IE IA => r_IsTruth_told hv hy y0 (I.up u) (J.up u) (K.up u) (aO := aO) (cO := cO) (aE := aE) (cE := cE) (aA := aA) (cA := cA) (Ints.up (w := w0) IO u0) (Ints.up (w := w0) IE u0) (Ints.up (w := w0) IA u0))
    have dk : decide ((N : Int) ≤ (k : Int)) = false := decide_eq_false (by omega)
    have ink : (k : Int) < (N : Int) := by omega
    have inn : ¬ (N : Int) ≤ (k : Int) := by omega
    clear tc hc hq hv hn I J K
    cases most with
    | false =>
      go_enter Try.func5, Try.ntmps5
      obtain ⟨q0, e0⟩ : ∃ x, w.heap.size = x := ⟨_, rfl⟩
      have kB := (blk_new w (.cells (BoC (N : Int) bl bh rl rh (.slice aP ps.length cP) (.slice aQ qs.length cQ) (.slice aL ls.length cL)) 27) q0 e0.symm)
      go_wp2_with fail
      refine (HC.out false _ U).mono ?_
      rintro e x ⟨⟨y, aO, cO, aE, cE, aA, cA, rfl, IO, IE, IA, hy, y0, hval⟩, u⟩
      replace U := U.trans u
      replace kB := u.blk kB
      clear u
      obtain ⟨a', c', e', c1, c2, hm⟩ := IO.is
      rw [T.out_len] at e' c1 hm
      injection e' with ea eb ec
      clear eb ec c1 c2
      obtain ⟨g1, o1, ga, gl, hx⟩ := hm (by omega)
      subst ea ga
      have ck := hx k (by omega)
      rw [T.out_at hk, if_neg (by decide), hval, if_neg (by decide)] at ck
      have HIO := Lib.hid IO
      have HIE := Lib.hid IE
      have HIA := Lib.hid IA
      have HX := Lib.hid (fun w (u : Up x w) => (u.facts.1 g1 _ gl).trans ck)
      have HIT := Lib.hid (fun w1 (u : Up w w1) (u1 : Up x w1) => HT.out y hy y0 x w1 u u1 _ _ _ _ _ _ HIO.out HIE.out HIA.out)
      clear hx hm ck IO IE IA hy y0 hval gl HC HT
      have Ux := Up.refl x
      have dkBkt := blk_lt kB
      have gkt := U.size
      have kt := blk_new x (.cells #[.slice (some ⟨g1, o1, none⟩) N cO, .slice aE ps.length cE, .slice aA qs.length cA] 30) _ rfl
      replace kB := blk_keep (.cells #[.slice (some ⟨g1, o1, none⟩) N cO, .slice aE ps.length cE, .slice aA qs.length cA] 30) kB
      replace U := U.alloc (.cells #[.slice (some ⟨g1, o1, none⟩) N cO, .slice aE ps.length cE, .slice aA qs.length cA] 30)
      replace Ux := Ux.alloc (.cells #[.slice (some ⟨g1, o1, none⟩) N cO, .slice aE ps.length cE, .slice aA qs.length cA] 30)
      obtain ⟨pkt, hpkt⟩ : ∃ z, x.heap.size = z := ⟨_, rfl⟩
      obtain ⟨W1, hW1⟩ : ∃ z, x.alloc (.cells #[.slice (some ⟨g1, o1, none⟩) N cO, .slice aE ps.length cE, .slice aA qs.length cA] 30) = z := ⟨_, rfl⟩
      rw [hpkt] at kt dkBkt gkt
      rw [hW1] at kt U kB Ux
      go_wp2_with fail
      clear hpkt hW1
      refine (HR.out _ U).mono ?_
      rintro e x2 ⟨rfl, u3⟩
      replace U := U.trans u3
      replace kB := u3.blk kB
      replace kt := u3.blk kt
      replace Ux := Ux.trans u3
      clear u3 HR
      have dkBks := blk_lt kB
      have dktks := blk_lt kt
      have gks := U.size
      have ks := blk_new x2 (.cells #[.int .i64 lc, .int .i64 hc'] 23) _ rfl
      replace kB := blk_keep (.cells #[.int .i64 lc, .int .i64 hc'] 23) kB
      replace kt := blk_keep (.cells #[.int .i64 lc, .int .i64 hc'] 23) kt
      replace U := U.alloc (.cells #[.int .i64 lc, .int .i64 hc'] 23)
      replace Ux := Ux.alloc (.cells #[.int .i64 lc, .int .i64 hc'] 23)
      obtain ⟨pks, hpks⟩ : ∃ z, x2.heap.size = z := ⟨_, rfl⟩
      obtain ⟨W4, hW4⟩ : ∃ z, x2.alloc (.cells #[.int .i64 lc, .int .i64 hc'] 23) = z := ⟨_, rfl⟩
      rw [hpks] at ks dkBks dktks gks
      rw [hW4] at ks U kB kt Ux
      go_wp2_with fail
      clear hpks hW4
      refine (HIT.out _ U Ux).mono ?_
      rintro e x5 ⟨rfl, u6⟩
      replace U := U.trans u6
      replace kB := u6.blk kB
      replace kt := u6.blk kt
      replace ks := u6.blk ks
      replace Ux := Ux.trans u6
      clear u6 HIT
      go_wp2_with fail
      have F8 := Lib.hid (fun w (u : Up x5 w) => cellB (u.blk kB))
      have F9 := Lib.hid (fun w (u : Up x5 w) => cellB (u.blk kt))
      have F10 := Lib.hid (fun w (u : Up x5 w) => cellB (u.blk ks))
      refine (wpIn_wide (n := 5)).1 ?_
      refine wpIn_nrm ?_
      refine T.regionQ (fun w' => Up x5 w') 11 1 hmx (by kernel_rfl) (by kernel_rfl) ((Up.refl x5).drew) (fun hCl => ?_)
      refine T.qT 0 (some 73) ?v1 rfl rfl hCl ?hy1 (fun hCl' => ?_)
      case hy1 => (intro w hSw; refine T.qVal ?_ hSw; (try dsimp only [List.getElem_toArray, List.getElem_cons_succ, List.getElem_cons_zero]); go_simp; try with_reducible rfl)
      simp only [Act.put, List.setIfInBounds_toArray, List.set_cons_zero, List.set_cons_succ]; replace hCl := hCl'; clear hCl'
      refine T.qT 2 (some 75) ?v2 rfl rfl hCl ?hy2 (fun hCl' => ?_)
      case hy2 => (intro w hSw; refine T.qVal ?_ hSw; (try dsimp only [List.getElem_toArray, List.getElem_cons_succ, List.getElem_cons_zero]); go_simp; try with_reducible rfl)
      simp only [Act.put, List.setIfInBounds_toArray, List.set_cons_zero, List.set_cons_succ]; replace hCl := hCl'; clear hCl'
      refine T.qT 5 (some 78) ?v3 rfl rfl hCl ?hy3 (fun hCl' => ?_)
      case hy3 => (intro w hSw; refine T.qVal ?_ hSw; (try dsimp only [List.getElem_toArray, List.getElem_cons_succ, List.getElem_cons_zero]); go_simp; try with_reducible rfl)
      simp only [Act.put, List.setIfInBounds_toArray, List.set_cons_zero, List.set_cons_succ]; replace hCl := hCl'; clear hCl'
      refine T.qT 1 (some 74) ?v4 rfl rfl hCl ?hy4 (fun hCl' => ?_)
      case hy4 => (intro w hSw; refine T.qVal ?_ hSw; (have fF8 := F8.out w hSw; have fF9 := F9.out w hSw; have fF10 := F10.out w hSw; have z1 := HX.out w (Ux.trans hSw)); (try dsimp only [List.getElem_toArray, List.getElem_cons_succ, List.getElem_cons_zero]); go_simp; try with_reducible rfl)
      simp only [Act.put, List.setIfInBounds_toArray, List.set_cons_zero, List.set_cons_succ]; replace hCl := hCl'; clear hCl'
      refine T.qT 6 (some 79) ?v5 rfl rfl hCl ?hy5 (fun hCl' => ?_)
      case hy5 => (intro w hSw; refine T.qVal ?_ hSw; (have fF8 := F8.out w hSw; have fF9 := F9.out w hSw; have fF10 := F10.out w hSw; have z1 := HX.out w (Ux.trans hSw)); (try dsimp only [List.getElem_toArray, List.getElem_cons_succ, List.getElem_cons_zero]); go_simp; try with_reducible rfl)
      simp only [Act.put, List.setIfInBounds_toArray, List.set_cons_zero, List.set_cons_succ]; replace hCl := hCl'; clear hCl'
      refine T.qT 3 (some 76) ?v6 rfl rfl hCl ?hy6 (fun hCl' => ?_)
      case hy6 => (intro w hSw; refine T.qVal ?_ hSw; (try dsimp only [List.getElem_toArray, List.getElem_cons_succ, List.getElem_cons_zero]); go_simp; try with_reducible rfl)
      simp only [Act.put, List.setIfInBounds_toArray, List.set_cons_zero, List.set_cons_succ]; replace hCl := hCl'; clear hCl'
      refine T.qT 4 (some 77) ?v7 rfl rfl hCl ?hy7 (fun hCl' => ?_)
      case hy7 => (intro w hSw; refine T.qVal ?_ hSw; (have fF8 := F8.out w hSw; have fF9 := F9.out w hSw; have fF10 := F10.out w hSw; have z1 := HX.out w (Ux.trans hSw)); (try dsimp only [List.getElem_toArray, List.getElem_cons_succ, List.getElem_cons_zero]); go_simp; try with_reducible rfl)
      simp only [Act.put, List.setIfInBounds_toArray, List.set_cons_zero, List.set_cons_succ]; replace hCl := hCl'; clear hCl'
      refine T.qT 7 (some 80) ?v8 rfl rfl hCl ?hy8 (fun hCl' => ?_)
      case hy8 => (intro w hSw; refine T.qVal ?_ hSw; (try dsimp only [List.getElem_toArray, List.getElem_cons_succ, List.getElem_cons_zero]); go_simp; try with_reducible rfl)
      simp only [Act.put, List.setIfInBounds_toArray, List.set_cons_zero, List.set_cons_succ]; replace hCl := hCl'; clear hCl'
      refine T.qT 8 (some 81) ?v9 rfl rfl hCl ?hy9 (fun hCl' => ?_)
      case hy9 => (intro w hSw; refine T.qVal ?_ hSw; (try dsimp only [List.getElem_toArray, List.getElem_cons_succ, List.getElem_cons_zero]); go_simp; try with_reducible rfl)
      simp only [Act.put, List.setIfInBounds_toArray, List.set_cons_zero, List.set_cons_succ]; replace hCl := hCl'; clear hCl'
      refine T.qT 9 (some 82) ((.bool true)) rfl rfl hCl ?hy10 (fun hCl' => ?_)
      case hy10 => (intro w hSw; (have fF8 := F8.out w hSw; have fF9 := F9.out w hSw; have fF10 := F10.out w hSw; have z1 := HX.out w (Ux.trans hSw)); (try dsimp only [List.getElem_toArray, List.getElem_cons_succ, List.getElem_cons_zero]); go_simp; (refine (callsIn_wide.2 (HW.out w)).mono ?_; rintro e w3 ⟨rfl, u3⟩; exact ⟨rfl, hSw.trans u3⟩))
      simp only [Act.put, List.setIfInBounds_toArray, List.set_cons_zero, List.set_cons_succ]
      replace hCl := hCl'; clear hCl'
      refine T.qT 10 (some 83) ?v11 rfl rfl hCl ?hy11 (fun hCl' => ?_)
      case hy11 => (intro w hSw; refine T.qVal ?_ hSw; (try dsimp only [List.getElem_toArray, List.getElem_cons_succ, List.getElem_cons_zero]); go_simp; try with_reducible rfl)
      simp only [Act.put, List.setIfInBounds_toArray, List.set_cons_zero, List.set_cons_succ]; replace hCl := hCl'; clear hCl'
      refine T.tail_intro (by kernel_rfl) (fun Y7 hY7 => ?_)
      replace U := U.trans hY7
      replace kB := hY7.blk kB
      replace kt := hY7.blk kt
      replace ks := hY7.blk ks
      replace Ux := Ux.trans hY7
      clear F8 F9 F10 hY7
      refine lastG (i := 11) (by kernel_rfl) rfl (by rfl) (by decide) (fun K hK => ?_)
      go_simp
      refine hK.out _ _ ?_
      clear hK K
      refine doneG (by kernel_rfl) ?_ _
      refine S.nrm_intro ?_
      go_wp2
      go_ret
      exact ⟨rfl, U⟩
    | true =>
      go_enter Try.func5, Try.ntmps5
      obtain ⟨q0, e0⟩ : ∃ x, w.heap.size = x := ⟨_, rfl⟩
      have kB := (blk_new w (.cells (BoC (N : Int) bl bh rl rh (.slice aP ps.length cP) (.slice aQ qs.length cQ) (.slice aL ls.length cL)) 27) q0 e0.symm)
      go_wp2_with fail
      refine (HC.out true _ U).mono ?_
      rintro e x ⟨⟨y, aO, cO, aE, cE, aA, cA, rfl, IO, IE, IA, hy, y0, hval⟩, u⟩
      replace U := U.trans u
      replace kB := u.blk kB
      clear u
      obtain ⟨a', c', e', c1, c2, hm⟩ := IO.is
      rw [T.out_len] at e' c1 hm
      injection e' with ea eb ec
      clear eb ec c1 c2
      obtain ⟨g1, o1, ga, gl, hx⟩ := hm (by omega)
      subst ea ga
      have ck := hx k (by omega)
      rw [T.out_at hk, if_neg (by decide), hval, if_pos rfl] at ck
      have HIO := Lib.hid IO
      have HIE := Lib.hid IE
      have HIA := Lib.hid IA
      have HX := Lib.hid (fun w (u : Up x w) => (u.facts.1 g1 _ gl).trans ck)
      have HIT := Lib.hid (fun w1 (u : Up w w1) (u1 : Up x w1) => HT.out y hy y0 x w1 u u1 _ _ _ _ _ _ HIO.out HIE.out HIA.out)
      clear hx hm ck IO IE IA hy y0 hval gl HC HT
      have Ux := Up.refl x
      have dkBkt := blk_lt kB
      have gkt := U.size
      have kt := blk_new x (.cells #[.slice (some ⟨g1, o1, none⟩) N cO, .slice aE ps.length cE, .slice aA qs.length cA] 30) _ rfl
      replace kB := blk_keep (.cells #[.slice (some ⟨g1, o1, none⟩) N cO, .slice aE ps.length cE, .slice aA qs.length cA] 30) kB
      replace U := U.alloc (.cells #[.slice (some ⟨g1, o1, none⟩) N cO, .slice aE ps.length cE, .slice aA qs.length cA] 30)
      replace Ux := Ux.alloc (.cells #[.slice (some ⟨g1, o1, none⟩) N cO, .slice aE ps.length cE, .slice aA qs.length cA] 30)
      obtain ⟨pkt, hpkt⟩ : ∃ z, x.heap.size = z := ⟨_, rfl⟩
      obtain ⟨W1, hW1⟩ : ∃ z, x.alloc (.cells #[.slice (some ⟨g1, o1, none⟩) N cO, .slice aE ps.length cE, .slice aA qs.length cA] 30) = z := ⟨_, rfl⟩
      rw [hpkt] at kt dkBkt gkt
      rw [hW1] at kt U kB Ux
      go_wp2_with fail
      clear hpkt hW1
      refine (HR.out _ U).mono ?_
      rintro e x2 ⟨rfl, u3⟩
      replace U := U.trans u3
      replace kB := u3.blk kB
      replace kt := u3.blk kt
      replace Ux := Ux.trans u3
      clear u3 HR
      have dkBks := blk_lt kB
      have dktks := blk_lt kt
      have gks := U.size
      have ks := blk_new x2 (.cells #[.int .i64 lc, .int .i64 hc'] 23) _ rfl
      replace kB := blk_keep (.cells #[.int .i64 lc, .int .i64 hc'] 23) kB
      replace kt := blk_keep (.cells #[.int .i64 lc, .int .i64 hc'] 23) kt
      replace U := U.alloc (.cells #[.int .i64 lc, .int .i64 hc'] 23)
      replace Ux := Ux.alloc (.cells #[.int .i64 lc, .int .i64 hc'] 23)
      obtain ⟨pks, hpks⟩ : ∃ z, x2.heap.size = z := ⟨_, rfl⟩
      obtain ⟨W4, hW4⟩ : ∃ z, x2.alloc (.cells #[.int .i64 lc, .int .i64 hc'] 23) = z := ⟨_, rfl⟩
      rw [hpks] at ks dkBks dktks gks
      rw [hW4] at ks U kB kt Ux
      go_wp2_with fail
      clear hpks hW4
      refine (HIT.out _ U Ux).mono ?_
      rintro e x5 ⟨rfl, u6⟩
      replace U := U.trans u6
      replace kB := u6.blk kB
      replace kt := u6.blk kt
      replace ks := u6.blk ks
      replace Ux := Ux.trans u6
      clear u6 HIT
      go_wp2_with fail
      have F8 := Lib.hid (fun w (u : Up x5 w) => cellB (u.blk kB))
      have F9 := Lib.hid (fun w (u : Up x5 w) => cellB (u.blk kt))
      have F10 := Lib.hid (fun w (u : Up x5 w) => cellB (u.blk ks))
      refine (wpIn_wide (n := 5)).1 ?_
      refine wpIn_nrm ?_
      refine T.regionQ (fun w' => Up x5 w') 11 1 hmx (by kernel_rfl) (by kernel_rfl) ((Up.refl x5).drew) (fun hCl => ?_)
      refine T.qT 0 (some 62) ?v12 rfl rfl hCl ?hy12 (fun hCl' => ?_)
      case hy12 => (intro w hSw; refine T.qVal ?_ hSw; (try dsimp only [List.getElem_toArray, List.getElem_cons_succ, List.getElem_cons_zero]); go_simp; try with_reducible rfl)
      simp only [Act.put, List.setIfInBounds_toArray, List.set_cons_zero, List.set_cons_succ]; replace hCl := hCl'; clear hCl'
      refine T.qT 2 (some 64) ?v13 rfl rfl hCl ?hy13 (fun hCl' => ?_)
      case hy13 => (intro w hSw; refine T.qVal ?_ hSw; (try dsimp only [List.getElem_toArray, List.getElem_cons_succ, List.getElem_cons_zero]); go_simp; try with_reducible rfl)
      simp only [Act.put, List.setIfInBounds_toArray, List.set_cons_zero, List.set_cons_succ]; replace hCl := hCl'; clear hCl'
      refine T.qT 5 (some 67) ?v14 rfl rfl hCl ?hy14 (fun hCl' => ?_)
      case hy14 => (intro w hSw; refine T.qVal ?_ hSw; (try dsimp only [List.getElem_toArray, List.getElem_cons_succ, List.getElem_cons_zero]); go_simp; try with_reducible rfl)
      simp only [Act.put, List.setIfInBounds_toArray, List.set_cons_zero, List.set_cons_succ]; replace hCl := hCl'; clear hCl'
      refine T.qT 1 (some 63) ?v15 rfl rfl hCl ?hy15 (fun hCl' => ?_)
      case hy15 => (intro w hSw; refine T.qVal ?_ hSw; (have fF8 := F8.out w hSw; have fF9 := F9.out w hSw; have fF10 := F10.out w hSw; have z1 := HX.out w (Ux.trans hSw)); (try dsimp only [List.getElem_toArray, List.getElem_cons_succ, List.getElem_cons_zero]); go_simp; try with_reducible rfl)
      simp only [Act.put, List.setIfInBounds_toArray, List.set_cons_zero, List.set_cons_succ]; replace hCl := hCl'; clear hCl'
      refine T.qT 6 (some 68) ?v16 rfl rfl hCl ?hy16 (fun hCl' => ?_)
      case hy16 => (intro w hSw; refine T.qVal ?_ hSw; (have fF8 := F8.out w hSw; have fF9 := F9.out w hSw; have fF10 := F10.out w hSw; have z1 := HX.out w (Ux.trans hSw)); (try dsimp only [List.getElem_toArray, List.getElem_cons_succ, List.getElem_cons_zero]); go_simp; try with_reducible rfl)
      simp only [Act.put, List.setIfInBounds_toArray, List.set_cons_zero, List.set_cons_succ]; replace hCl := hCl'; clear hCl'
      refine T.qT 3 (some 65) ?v17 rfl rfl hCl ?hy17 (fun hCl' => ?_)
      case hy17 => (intro w hSw; refine T.qVal ?_ hSw; (try dsimp only [List.getElem_toArray, List.getElem_cons_succ, List.getElem_cons_zero]); go_simp; try with_reducible rfl)
      simp only [Act.put, List.setIfInBounds_toArray, List.set_cons_zero, List.set_cons_succ]; replace hCl := hCl'; clear hCl'
      refine T.qT 4 (some 66) ?v18 rfl rfl hCl ?hy18 (fun hCl' => ?_)
      case hy18 => (intro w hSw; refine T.qVal ?_ hSw; (have fF8 := F8.out w hSw; have fF9 := F9.out w hSw; have fF10 := F10.out w hSw; have z1 := HX.out w (Ux.trans hSw)); (try dsimp only [List.getElem_toArray, List.getElem_cons_succ, List.getElem_cons_zero]); go_simp; try with_reducible rfl)
      simp only [Act.put, List.setIfInBounds_toArray, List.set_cons_zero, List.set_cons_succ]; replace hCl := hCl'; clear hCl'
      refine T.qT 7 (some 69) ?v19 rfl rfl hCl ?hy19 (fun hCl' => ?_)
      case hy19 => (intro w hSw; refine T.qVal ?_ hSw; (try dsimp only [List.getElem_toArray, List.getElem_cons_succ, List.getElem_cons_zero]); go_simp; try with_reducible rfl)
      simp only [Act.put, List.setIfInBounds_toArray, List.set_cons_zero, List.set_cons_succ]; replace hCl := hCl'; clear hCl'
      refine T.qT 8 (some 70) ?v20 rfl rfl hCl ?hy20 (fun hCl' => ?_)
      case hy20 => (intro w hSw; refine T.qVal ?_ hSw; (try dsimp only [List.getElem_toArray, List.getElem_cons_succ, List.getElem_cons_zero]); go_simp; try with_reducible rfl)
      simp only [Act.put, List.setIfInBounds_toArray, List.set_cons_zero, List.set_cons_succ]; replace hCl := hCl'; clear hCl'
      refine T.qT 9 (some 71) ((.bool true)) rfl rfl hCl ?hy21 (fun hCl' => ?_)
      case hy21 => (intro w hSw; (have fF8 := F8.out w hSw; have fF9 := F9.out w hSw; have fF10 := F10.out w hSw; have z1 := HX.out w (Ux.trans hSw)); (try dsimp only [List.getElem_toArray, List.getElem_cons_succ, List.getElem_cons_zero]); go_simp; (refine (callsIn_wide.2 (HW.out w)).mono ?_; rintro e w3 ⟨rfl, u3⟩; exact ⟨rfl, hSw.trans u3⟩))
      simp only [Act.put, List.setIfInBounds_toArray, List.set_cons_zero, List.set_cons_succ]
      replace hCl := hCl'; clear hCl'
      refine T.qT 10 (some 72) ?v22 rfl rfl hCl ?hy22 (fun hCl' => ?_)
      case hy22 => (intro w hSw; refine T.qVal ?_ hSw; (try dsimp only [List.getElem_toArray, List.getElem_cons_succ, List.getElem_cons_zero]); go_simp; try with_reducible rfl)
      simp only [Act.put, List.setIfInBounds_toArray, List.set_cons_zero, List.set_cons_succ]; replace hCl := hCl'; clear hCl'
      refine T.tail_intro (by kernel_rfl) (fun Y7 hY7 => ?_)
      replace U := U.trans hY7
      replace kB := hY7.blk kB
      replace kt := hY7.blk kt
      replace ks := hY7.blk ks
      replace Ux := Ux.trans hY7
      clear F8 F9 F10 hY7
      refine lastG (i := 11) (by kernel_rfl) rfl (by rfl) (by decide) (fun K hK => ?_)
      go_simp
      refine hK.out _ _ ?_
      clear hK K
      refine doneG (by kernel_rfl) ?_ _
      refine S.nrm_intro ?_
      go_wp2
      go_ret
      exact ⟨rfl, U⟩
end

end Go.Proofs.Ytlpkheoljbdajaa
