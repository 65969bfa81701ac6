import Derived.Test.YtlpkheoljbdajaaTel
import Derived.Test.YtlpkheoljbdajaaSou
import Derived.Test.YtlpkheoljbdajaaHeQ
/- The law StarApart. -/
namespace Go.Proofs.Ytlpkheoljbdajaa
open Go.RowKit Go.Shelf
attribute [local go_sem] Oper.semAt_some

section
variable {bl bh rl rh : Int} {aP aQ aL : Option Addr} {nP cP nQ cQ nL cL : Nat} {ps qs : List (Int × Int)} {ls : List T.T5}
set_option maxRecDepth 100000 in
set_option maxHeartbeats 8000000 in
theorem starApart_any {M n0 n1 n2 : Int} {w : World} (I : Sps w (.slice aP nP cP) ps) (J : Sps w (.slice aQ nQ cQ) qs) (K : Lks w (.slice aL nL cL) ls) :
    Calls Try.prog 12 #[BoV M bl bh rl rh (.slice aP nP cP) (.slice aQ nQ cQ) (.slice aL nL cL), .agg #[.int .i64 n0, .int .i64 n1, .int .i64 n2]] w fun e w' => e = .returned (.bool true) ∧ Up w w' := by
  have U := (((Up.refl w).alloc (.cells (BoC M bl bh rl rh (.slice aP nP cP) (.slice aQ nQ cQ) (.slice aL nL cL)) 27)).alloc (.cells #[.int .i64 n0, .int .i64 n1, .int .i64 n2] 40))
  have HW := Lib.hid (fun w => l_works_any w)
  cases hv : T.valid M bl bh rl rh ps qs ls with
  | false =>
    have HS := Lib.hid (fun w' (u : Up w w') => l_sound_no (I.up u) (J.up u) (K.up u) hv)
    clear hv I J K 
    go_enter Try.func12, Try.ntmps12
    go_wp2_with fail
    refine (HS.out _ U).mono ?_
    rintro e w1 ⟨rfl, u1⟩
    go_wp2_with fail
    refine (HW.out _).mono ?_
    rintro e w2 ⟨rfl, u2⟩
    go_wp2
    go_ret
    exact ⟨rfl, (U.trans u1).trans u2⟩
  | true =>
    obtain ⟨N, rfl⟩ := T.valid_N hv
    obtain ⟨⟨hN, hB, hR⟩, ⟨h4, h5, h10⟩, hP, hQ, hL⟩ := T.valid_parts hv
    have HS := Lib.hid (fun w' (u : Up w w') => l_sound_yes (I.up u) (J.up u) (K.up u) hv)
    have hn := I.len
    have hno := J.len
    have hnp := K.len
    have hmx : Try.prog.follows .mixedOrders = true := by kernel_rfl
    have HRi := Lib.hid (fun w => B_Rest_any n0 (N : Int) w (by omega) (by omega))
    have ai := Int.emod_nonneg n0 (b := (N : Int)) (by omega)
    have bi := Int.emod_lt_of_pos n0 (b := (N : Int)) (by omega)
    generalize n0 % (N : Int) = i at *
    have HRk := Lib.hid (fun w => B_Rest_any n1 (N : Int) w (by omega) (by omega))
    have ak := Int.emod_nonneg n1 (b := (N : Int)) (by omega)
    have bk := Int.emod_lt_of_pos n1 (b := (N : Int)) (by omega)
    generalize n1 % (N : Int) = k at *
    have HRm := Lib.hid (fun w => B_Rest_any n2 (N : Int) w (by omega) (by omega))
    have am := Int.emod_nonneg n2 (b := (N : Int)) (by omega)
    have bm := Int.emod_lt_of_pos n2 (b := (N : Int)) (by omega)
    generalize n2 % (N : Int) = m at *
    obtain ⟨ls, hs, es, ts, vs, ws, xs⟩ := T.Tells.ex (o := T.o0) (m := (1 + i)) (i := (1 + k)) hv (T.al_night ⟨ai, bi⟩) (T.al_night ⟨ak, bk⟩)
    have Cs := Lib.hid (fun w' (u : Up w w') => Between_tells hv ⟨ai, bi⟩ ⟨ak, bk⟩ ts (I.up u) (J.up u) (K.up u))
    obtain ⟨lt, ht, et, tt, vt, wt, xt⟩ := T.Tells.ex (o := T.o0) (m := (1 + k)) (i := (1 + m)) hv (T.al_night ⟨ak, bk⟩) (T.al_night ⟨am, bm⟩)
    have Ct := Lib.hid (fun w' (u : Up w w') => Between_tells hv ⟨ak, bk⟩ ⟨am, bm⟩ tt (I.up u) (J.up u) (K.up u))
    obtain ⟨lu, hu, eu, tu, vu, wu, xu⟩ := T.Tells.ex (o := T.o0) (m := (1 + i)) (i := (1 + m)) hv (T.al_night ⟨ai, bi⟩) (T.al_night ⟨am, bm⟩)
    have Cu := Lib.hid (fun w' (u : Up w w') => Between_tells hv ⟨ai, bi⟩ ⟨am, bm⟩ tu (I.up u) (J.up u) (K.up u))
    obtain ⟨lc, hc, ec, tc, vc, wc, xc⟩ := T.Tells.ex (o := T.o0) (m := (1 + k)) (i := (1 + i)) hv (T.al_night ⟨ak, bk⟩) (T.al_night ⟨ai, bi⟩)
    have Cc := Lib.hid (fun w' (u : Up w w') => Between_tells hv ⟨ak, bk⟩ ⟨ai, bi⟩ tc (I.up u) (J.up u) (K.up u))
    obtain ⟨ld, hd, ed, td, vd, wd, xd⟩ := T.Tells.ex (o := T.o0) (m := (1 + i)) (i := (1 + i)) hv (T.al_night ⟨ai, bi⟩) (T.al_night ⟨ai, bi⟩)
    have Cd := Lib.hid (fun w' (u : Up w w') => Between_tells hv ⟨ai, bi⟩ ⟨ai, bi⟩ td (I.up u) (J.up u) (K.up u))
    obtain ⟨lo, ho, eo, to, vo, wo, xo⟩ := T.Tells.ex (o := T.o0) (m := 0) (i := (1 + i)) hv T.al_0 (T.al_night ⟨ai, bi⟩)
    have Co := Lib.hid (fun w' (u : Up w w') => Offset_tells hv ⟨ai, bi⟩ to (I.up u) (J.up u) (K.up u))
    obtain ⟨lp, hp, ep, tp, vp, wp, xp⟩ := T.Tells.ex (o := T.o0) (m := 0) (i := (1 + k)) hv T.al_0 (T.al_night ⟨ak, bk⟩)
    have Cp := Lib.hid (fun w' (u : Up w w') => Offset_tells hv ⟨ak, bk⟩ tp (I.up u) (J.up u) (K.up u))
    obtain rfl := ts.same tt
    obtain rfl := ts.same tu
    obtain rfl := ts.same tc
    obtain rfl := ts.same td
    obtain rfl := ts.same to
    obtain rfl := ts.same tp
    have HTo := Lib.hid (fun l h w => B_To_any l h w)
    have HWi := Lib.hid (fun l h l' h' w (p : l' ≤ l ∧ h ≤ h') => show Calls Try.prog 41 #[SpV l h, SpV l' h'] w fun e w' => e = .returned (.bool true) ∧ Up w w' by rw [← decide_eq_true p]; exact B_Within_any _ _ _ _ w)
    rcases ts.err with rfl | ⟨rfl, rfl, rfl⟩
    case inr =>
      obtain ⟨_, rfl, rfl, _⟩ := tt.no (by decide)
      obtain ⟨_, rfl, rfl, _⟩ := tu.no (by decide)
      obtain ⟨_, rfl, rfl, _⟩ := tc.no (by decide)
      obtain ⟨_, rfl, rfl, _⟩ := td.no (by decide)
      obtain ⟨_, rfl, rfl, _⟩ := to.no (by decide)
      obtain ⟨_, rfl, rfl, _⟩ := tp.no (by decide)
      clear ts tt tu tc td to tp vs ws xs vt wt xt vu wu xu vc wc xc vd wd xd vo wo xo vp wp xp ai bi ak bk am bm hN hB hR h4 h5 h10 hP hQ hL hn hno hnp hv I J K
      go_enter Try.func12, Try.ntmps12
      obtain ⟨q0, e0⟩ : ∃ x, w.heap.size = x := ⟨_, rfl⟩
      have kB := (blk_keep (.cells #[.int .i64 n0, .int .i64 n1, .int .i64 n2] 40) (blk_new w (.cells (BoC (N : Int) bl bh rl rh (.slice aP nP cP) (.slice aQ nQ cQ) (.slice aL nL cL)) 27) q0 e0.symm))
      have kN := (blk_new (w.alloc (.cells (BoC (N : Int) bl bh rl rh (.slice aP nP cP) (.slice aQ nQ cQ) (.slice aL nL cL)) 27)) (.cells #[.int .i64 n0, .int .i64 n1, .int .i64 n2] 40) (q0 + 1) (by simp [e0]))
      go_wp2_with fail
      refine (HS.out _ U).mono ?_
      rintro e x1 ⟨rfl, u2⟩
      replace U := U.trans u2
      replace kB := u2.blk kB
      replace kN := u2.blk kN
      clear u2 HS
      go_wp2_with fail
      have F4 := Lib.hid (fun w (u : Up x1 w) => cellB (u.blk kB))
      have F5 := Lib.hid (fun w (u : Up x1 w) => cellB (u.blk kN))
      refine (wpIn_wide (n := 5)).1 ?_
      refine wpIn_nrm ?_
      refine T.regionQ (fun w' => Up x1 w') 15 3 hmx (by kernel_rfl) (by kernel_rfl) ((Up.refl x1).drew) (fun hCl => ?_)
      refine T.qT 0 (some 26) ?v1 rfl rfl hCl ?hy1 (fun hCl' => ?_)
      case hy1 => (intro w hSw; refine T.qVal ?_ hSw; (try dsimp only [List.getElem_toArray, List.getElem_cons_succ, List.getElem_cons_zero]); go_simp; try with_reducible rfl)
      simp only [Act.put, List.setIfInBounds_toArray, List.set_cons_zero, List.set_cons_succ]; replace hCl := hCl'; clear hCl'
      refine T.qT 2 (some 28) ?v2 rfl rfl hCl ?hy2 (fun hCl' => ?_)
      case hy2 => (intro w hSw; refine T.qVal ?_ hSw; (try dsimp only [List.getElem_toArray, List.getElem_cons_succ, List.getElem_cons_zero]); go_simp; try with_reducible rfl)
      simp only [Act.put, List.setIfInBounds_toArray, List.set_cons_zero, List.set_cons_succ]; replace hCl := hCl'; clear hCl'
      refine T.qT 5 (some 31) ?v3 rfl rfl hCl ?hy3 (fun hCl' => ?_)
      case hy3 => (intro w hSw; refine T.qVal ?_ hSw; (try dsimp only [List.getElem_toArray, List.getElem_cons_succ, List.getElem_cons_zero]); go_simp; try with_reducible rfl)
      simp only [Act.put, List.setIfInBounds_toArray, List.set_cons_zero, List.set_cons_succ]; replace hCl := hCl'; clear hCl'
      refine T.qT 7 (some 33) ?v4 rfl rfl hCl ?hy4 (fun hCl' => ?_)
      case hy4 => (intro w hSw; refine T.qVal ?_ hSw; (try dsimp only [List.getElem_toArray, List.getElem_cons_succ, List.getElem_cons_zero]); go_simp; try with_reducible rfl)
      simp only [Act.put, List.setIfInBounds_toArray, List.set_cons_zero, List.set_cons_succ]; replace hCl := hCl'; clear hCl'
      refine T.qT 10 (some 36) ?v5 rfl rfl hCl ?hy5 (fun hCl' => ?_)
      case hy5 => (intro w hSw; refine T.qVal ?_ hSw; (try dsimp only [List.getElem_toArray, List.getElem_cons_succ, List.getElem_cons_zero]); go_simp; try with_reducible rfl)
      simp only [Act.put, List.setIfInBounds_toArray, List.set_cons_zero, List.set_cons_succ]; replace hCl := hCl'; clear hCl'
      refine T.qT 12 (some 38) ?v6 rfl rfl hCl ?hy6 (fun hCl' => ?_)
      case hy6 => (intro w hSw; refine T.qVal ?_ hSw; (try dsimp only [List.getElem_toArray, List.getElem_cons_succ, List.getElem_cons_zero]); go_simp; try with_reducible rfl)
      simp only [Act.put, List.setIfInBounds_toArray, List.set_cons_zero, List.set_cons_succ]; replace hCl := hCl'; clear hCl'
      refine T.qT 1 (some 27) ?v7 rfl rfl hCl ?hy7 (fun hCl' => ?_)
      case hy7 => (intro w hSw; refine T.qVal ?_ hSw; (have fF4 := F4.out w hSw; have fF5 := F5.out w hSw); (try dsimp only [List.getElem_toArray, List.getElem_cons_succ, List.getElem_cons_zero]); go_simp; try with_reducible rfl)
      simp only [Act.put, List.setIfInBounds_toArray, List.set_cons_zero, List.set_cons_succ]; replace hCl := hCl'; clear hCl'
      refine T.qT 3 (some 29) ?v8 rfl rfl hCl ?hy8 (fun hCl' => ?_)
      case hy8 => (intro w hSw; refine T.qVal ?_ hSw; (have fF4 := F4.out w hSw; have fF5 := F5.out w hSw); (try dsimp only [List.getElem_toArray, List.getElem_cons_succ, List.getElem_cons_zero]); go_simp; try with_reducible rfl)
      simp only [Act.put, List.setIfInBounds_toArray, List.set_cons_zero, List.set_cons_succ]; replace hCl := hCl'; clear hCl'
      refine T.qT 6 (some 32) ?v9 rfl rfl hCl ?hy9 (fun hCl' => ?_)
      case hy9 => (intro w hSw; refine T.qVal ?_ hSw; (have fF4 := F4.out w hSw; have fF5 := F5.out w hSw); (try dsimp only [List.getElem_toArray, List.getElem_cons_succ, List.getElem_cons_zero]); go_simp; try with_reducible rfl)
      simp only [Act.put, List.setIfInBounds_toArray, List.set_cons_zero, List.set_cons_succ]; replace hCl := hCl'; clear hCl'
      refine T.qT 8 (some 34) ?v10 rfl rfl hCl ?hy10 (fun hCl' => ?_)
      case hy10 => (intro w hSw; refine T.qVal ?_ hSw; (have fF4 := F4.out w hSw; have fF5 := F5.out w hSw); (try dsimp only [List.getElem_toArray, List.getElem_cons_succ, List.getElem_cons_zero]); go_simp; try with_reducible rfl)
      simp only [Act.put, List.setIfInBounds_toArray, List.set_cons_zero, List.set_cons_succ]; replace hCl := hCl'; clear hCl'
      refine T.qT 11 (some 37) ?v11 rfl rfl hCl ?hy11 (fun hCl' => ?_)
      case hy11 => (intro w hSw; refine T.qVal ?_ hSw; (have fF4 := F4.out w hSw; have fF5 := F5.out w hSw); (try dsimp only [List.getElem_toArray, List.getElem_cons_succ, List.getElem_cons_zero]); go_simp; try with_reducible rfl)
      simp only [Act.put, List.setIfInBounds_toArray, List.set_cons_zero, List.set_cons_succ]; replace hCl := hCl'; clear hCl'
      refine T.qT 13 (some 39) ?v12 rfl rfl hCl ?hy12 (fun hCl' => ?_)
      case hy12 => (intro w hSw; refine T.qVal ?_ hSw; (have fF4 := F4.out w hSw; have fF5 := F5.out w hSw); (try dsimp only [List.getElem_toArray, List.getElem_cons_succ, List.getElem_cons_zero]); go_simp; try with_reducible rfl)
      simp only [Act.put, List.setIfInBounds_toArray, List.set_cons_zero, List.set_cons_succ]; replace hCl := hCl'; clear hCl'
      refine T.qT 4 (some 30) ((.int .i64 i)) rfl rfl hCl ?hy13 (fun hCl' => ?_)
      case hy13 => (intro w hSw; (have fF4 := F4.out w hSw; have fF5 := F5.out w hSw); (try dsimp only [List.getElem_toArray, List.getElem_cons_succ, List.getElem_cons_zero]); go_simp; (refine (callsIn_wide.2 (HRi.out w)).mono ?_; rintro e w3 ⟨rfl, rfl⟩; exact ⟨rfl, hSw⟩))
      simp only [Act.put, List.setIfInBounds_toArray, List.set_cons_zero, List.set_cons_succ]
      replace hCl := hCl'; clear hCl'
      refine T.qT 9 (some 35) ((.int .i64 k)) rfl rfl hCl ?hy14 (fun hCl' => ?_)
      case hy14 => (intro w hSw; (have fF4 := F4.out w hSw; have fF5 := F5.out w hSw); (try dsimp only [List.getElem_toArray, List.getElem_cons_succ, List.getElem_cons_zero]); go_simp; (refine (callsIn_wide.2 (HRk.out w)).mono ?_; rintro e w3 ⟨rfl, rfl⟩; exact ⟨rfl, hSw⟩))
      simp only [Act.put, List.setIfInBounds_toArray, List.set_cons_zero, List.set_cons_succ]
      replace hCl := hCl'; clear hCl'
      refine T.qT 14 (some 40) ((.int .i64 m)) rfl rfl hCl ?hy15 (fun hCl' => ?_)
      case hy15 => (intro w hSw; (have fF4 := F4.out w hSw; have fF5 := F5.out w hSw); (try dsimp only [List.getElem_toArray, List.getElem_cons_succ, List.getElem_cons_zero]); go_simp; (refine (callsIn_wide.2 (HRm.out w)).mono ?_; rintro e w3 ⟨rfl, rfl⟩; exact ⟨rfl, hSw⟩))
      simp only [Act.put, List.setIfInBounds_toArray, List.set_cons_zero, List.set_cons_succ]
      replace hCl := hCl'; clear hCl'
      refine T.tail_intro (by kernel_rfl) (fun Y3 hY3 => ?_)
      replace U := U.trans hY3
      replace kB := hY3.blk kB
      replace kN := hY3.blk kN
      clear F4 F5 hY3
      refine lastG (i := 15) (by kernel_rfl) rfl (by rfl) (by decide) (fun K hK => ?_)
      go_simp
      refine hK.out _ _ ?_
      clear hK K
      refine lastG (i := 16) (by kernel_rfl) rfl (by rfl) (by decide) (fun K hK => ?_)
      go_simp
      refine hK.out _ _ ?_
      clear hK K
      refine lastG (i := 17) (by kernel_rfl) rfl (by rfl) (by decide) (fun K hK => ?_)
      go_simp
      refine hK.out _ _ ?_
      clear hK K
      refine doneG (by kernel_rfl) ?_ _
      refine S.nrm_intro ?_
      clear HRi HRk HRm
      clear kN
      go_wp2_with fail
      refine (Cs.out _ U).mono ?_
      rintro e x6 ⟨rfl, u7⟩
      replace U := U.trans u7
      replace kB := u7.blk kB
      clear u7 
      have dkBks := blk_lt kB
      have gks := U.size
      have ks := blk_new x6 (.cells #[.int .i64 0, .int .i64 0] 23) _ rfl
      replace kB := blk_keep (.cells #[.int .i64 0, .int .i64 0] 23) kB
      replace U := U.alloc (.cells #[.int .i64 0, .int .i64 0] 23)
      go_wp2_with fail
      obtain ⟨pks, hpks⟩ : ∃ z, x6.heap.size = z := ⟨_, rfl⟩
      obtain ⟨W8, hW8⟩ : ∃ z, x6.alloc (.cells #[.int .i64 0, .int .i64 0] 23) = z := ⟨_, rfl⟩
      rw [hpks] at ks dkBks gks
      rw [hW8] at ks U kB
      rw [hW8, hpks]
      go_wp2_with fail
      clear hpks hW8
      refine (Ct.out _ U).mono ?_
      rintro e x9 ⟨rfl, u10⟩
      replace U := U.trans u10
      replace kB := u10.blk kB
      replace ks := u10.blk ks
      clear u10 
      have dkBkt := blk_lt kB
      have dkskt := blk_lt ks
      have gkt := U.size
      have kt := blk_new x9 (.cells #[.int .i64 0, .int .i64 0] 23) _ rfl
      replace kB := blk_keep (.cells #[.int .i64 0, .int .i64 0] 23) kB
      replace ks := blk_keep (.cells #[.int .i64 0, .int .i64 0] 23) ks
      replace U := U.alloc (.cells #[.int .i64 0, .int .i64 0] 23)
      go_wp2_with fail
      obtain ⟨pkt, hpkt⟩ : ∃ z, x9.heap.size = z := ⟨_, rfl⟩
      obtain ⟨W11, hW11⟩ : ∃ z, x9.alloc (.cells #[.int .i64 0, .int .i64 0] 23) = z := ⟨_, rfl⟩
      rw [hpkt] at kt dkBkt dkskt gkt
      rw [hW11] at kt U kB ks
      rw [hW11, hpkt]
      go_wp2_with fail
      clear hpkt hW11
      refine (Cu.out _ U).mono ?_
      rintro e x12 ⟨rfl, u13⟩
      replace U := U.trans u13
      replace kB := u13.blk kB
      replace ks := u13.blk ks
      replace kt := u13.blk kt
      clear u13 
      have dkBku := blk_lt kB
      have dksku := blk_lt ks
      have dktku := blk_lt kt
      have gku := U.size
      have ku := blk_new x12 (.cells #[.int .i64 0, .int .i64 0] 23) _ rfl
      replace kB := blk_keep (.cells #[.int .i64 0, .int .i64 0] 23) kB
      replace ks := blk_keep (.cells #[.int .i64 0, .int .i64 0] 23) ks
      replace kt := blk_keep (.cells #[.int .i64 0, .int .i64 0] 23) kt
      replace U := U.alloc (.cells #[.int .i64 0, .int .i64 0] 23)
      go_wp2_with fail
      obtain ⟨pku, hpku⟩ : ∃ z, x12.heap.size = z := ⟨_, rfl⟩
      obtain ⟨W14, hW14⟩ : ∃ z, x12.alloc (.cells #[.int .i64 0, .int .i64 0] 23) = z := ⟨_, rfl⟩
      rw [hpku] at ku dkBku dksku dktku gku
      rw [hW14] at ku U kB ks kt
      rw [hW14, hpku]
      go_wp2_with fail
      clear hpku hW14
      refine (Cc.out _ U).mono ?_
      rintro e x15 ⟨rfl, u16⟩
      replace U := U.trans u16
      replace kB := u16.blk kB
      replace ks := u16.blk ks
      replace kt := u16.blk kt
      replace ku := u16.blk ku
      clear u16 
      have dkBkc := blk_lt kB
      have dkskc := blk_lt ks
      have dktkc := blk_lt kt
      have dkukc := blk_lt ku
      have gkc := U.size
      have kc := blk_new x15 (.cells #[.int .i64 0, .int .i64 0] 23) _ rfl
      replace kB := blk_keep (.cells #[.int .i64 0, .int .i64 0] 23) kB
      replace ks := blk_keep (.cells #[.int .i64 0, .int .i64 0] 23) ks
      replace kt := blk_keep (.cells #[.int .i64 0, .int .i64 0] 23) kt
      replace ku := blk_keep (.cells #[.int .i64 0, .int .i64 0] 23) ku
      replace U := U.alloc (.cells #[.int .i64 0, .int .i64 0] 23)
      go_wp2_with fail
      obtain ⟨pkc, hpkc⟩ : ∃ z, x15.heap.size = z := ⟨_, rfl⟩
      obtain ⟨W17, hW17⟩ : ∃ z, x15.alloc (.cells #[.int .i64 0, .int .i64 0] 23) = z := ⟨_, rfl⟩
      rw [hpkc] at kc dkBkc dkskc dktkc dkukc gkc
      rw [hW17] at kc U kB ks kt ku
      rw [hW17, hpkc]
      go_wp2_with fail
      clear hpkc hW17
      refine (Cd.out _ U).mono ?_
      rintro e x18 ⟨rfl, u19⟩
      replace U := U.trans u19
      replace kB := u19.blk kB
      replace ks := u19.blk ks
      replace kt := u19.blk kt
      replace ku := u19.blk ku
      replace kc := u19.blk kc
      clear u19 
      have dkBkd := blk_lt kB
      have dkskd := blk_lt ks
      have dktkd := blk_lt kt
      have dkukd := blk_lt ku
      have dkckd := blk_lt kc
      have gkd := U.size
      have kd := blk_new x18 (.cells #[.int .i64 0, .int .i64 0] 23) _ rfl
      replace kB := blk_keep (.cells #[.int .i64 0, .int .i64 0] 23) kB
      replace ks := blk_keep (.cells #[.int .i64 0, .int .i64 0] 23) ks
      replace kt := blk_keep (.cells #[.int .i64 0, .int .i64 0] 23) kt
      replace ku := blk_keep (.cells #[.int .i64 0, .int .i64 0] 23) ku
      replace kc := blk_keep (.cells #[.int .i64 0, .int .i64 0] 23) kc
      replace U := U.alloc (.cells #[.int .i64 0, .int .i64 0] 23)
      go_wp2_with fail
      obtain ⟨pkd, hpkd⟩ : ∃ z, x18.heap.size = z := ⟨_, rfl⟩
      obtain ⟨W20, hW20⟩ : ∃ z, x18.alloc (.cells #[.int .i64 0, .int .i64 0] 23) = z := ⟨_, rfl⟩
      rw [hpkd] at kd dkBkd dkskd dktkd dkukd dkckd gkd
      rw [hW20] at kd U kB ks kt ku kc
      rw [hW20, hpkd]
      go_wp2_with fail
      clear hpkd hW20
      refine (Co.out _ U).mono ?_
      rintro e x21 ⟨rfl, u22⟩
      replace U := U.trans u22
      replace kB := u22.blk kB
      replace ks := u22.blk ks
      replace kt := u22.blk kt
      replace ku := u22.blk ku
      replace kc := u22.blk kc
      replace kd := u22.blk kd
      clear u22 
      have dkBko := blk_lt kB
      have dksko := blk_lt ks
      have dktko := blk_lt kt
      have dkuko := blk_lt ku
      have dkcko := blk_lt kc
      have dkdko := blk_lt kd
      have gko := U.size
      have ko := blk_new x21 (.cells #[.int .i64 0, .int .i64 0] 23) _ rfl
      replace kB := blk_keep (.cells #[.int .i64 0, .int .i64 0] 23) kB
      replace ks := blk_keep (.cells #[.int .i64 0, .int .i64 0] 23) ks
      replace kt := blk_keep (.cells #[.int .i64 0, .int .i64 0] 23) kt
      replace ku := blk_keep (.cells #[.int .i64 0, .int .i64 0] 23) ku
      replace kc := blk_keep (.cells #[.int .i64 0, .int .i64 0] 23) kc
      replace kd := blk_keep (.cells #[.int .i64 0, .int .i64 0] 23) kd
      replace U := U.alloc (.cells #[.int .i64 0, .int .i64 0] 23)
      go_wp2_with fail
      obtain ⟨pko, hpko⟩ : ∃ z, x21.heap.size = z := ⟨_, rfl⟩
      obtain ⟨W23, hW23⟩ : ∃ z, x21.alloc (.cells #[.int .i64 0, .int .i64 0] 23) = z := ⟨_, rfl⟩
      rw [hpko] at ko dkBko dksko dktko dkuko dkcko dkdko gko
      rw [hW23] at ko U kB ks kt ku kc kd
      rw [hW23, hpko]
      go_wp2_with fail
      clear hpko hW23
      refine (Cp.out _ U).mono ?_
      rintro e x24 ⟨rfl, u25⟩
      replace U := U.trans u25
      replace kB := u25.blk kB
      replace ks := u25.blk ks
      replace kt := u25.blk kt
      replace ku := u25.blk ku
      replace kc := u25.blk kc
      replace kd := u25.blk kd
      replace ko := u25.blk ko
      clear u25 
      have dkBkp := blk_lt kB
      have dkskp := blk_lt ks
      have dktkp := blk_lt kt
      have dkukp := blk_lt ku
      have dkckp := blk_lt kc
      have dkdkp := blk_lt kd
      have dkokp := blk_lt ko
      have gkp := U.size
      have kp := blk_new x24 (.cells #[.int .i64 0, .int .i64 0] 23) _ rfl
      replace kB := blk_keep (.cells #[.int .i64 0, .int .i64 0] 23) kB
      replace ks := blk_keep (.cells #[.int .i64 0, .int .i64 0] 23) ks
      replace kt := blk_keep (.cells #[.int .i64 0, .int .i64 0] 23) kt
      replace ku := blk_keep (.cells #[.int .i64 0, .int .i64 0] 23) ku
      replace kc := blk_keep (.cells #[.int .i64 0, .int .i64 0] 23) kc
      replace kd := blk_keep (.cells #[.int .i64 0, .int .i64 0] 23) kd
      replace ko := blk_keep (.cells #[.int .i64 0, .int .i64 0] 23) ko
      replace U := U.alloc (.cells #[.int .i64 0, .int .i64 0] 23)
      go_wp2_with fail
      obtain ⟨pkp, hpkp⟩ : ∃ z, x24.heap.size = z := ⟨_, rfl⟩
      obtain ⟨W26, hW26⟩ : ∃ z, x24.alloc (.cells #[.int .i64 0, .int .i64 0] 23) = z := ⟨_, rfl⟩
      rw [hpkp] at kp dkBkp dkskp dktkp dkukp dkckp dkdkp dkokp gkp
      rw [hW26] at kp U kB ks kt ku kc kd ko
      rw [hW26, hpkp]
      go_wp2_with fail
      clear hpkp hW26

      refine (HW.out _).mono ?_
      rintro e x27 ⟨rfl, u28⟩
      replace U := U.trans u28
      replace kB := u28.blk kB
      replace ks := u28.blk ks
      replace kt := u28.blk kt
      replace ku := u28.blk ku
      replace kc := u28.blk kc
      replace kd := u28.blk kd
      replace ko := u28.blk ko
      replace kp := u28.blk kp
      clear u28 
      go_wp2
      go_ret
      exact ⟨rfl, U⟩
    case inl =>
      obtain ⟨_, rfl, rfl⟩ := ts.flip tc
      obtain ⟨rfl, rfl⟩ := td.self
      obtain ⟨_, _, f1, f2⟩ := tu.tri ts tt
      obtain ⟨_, _, f3, f4⟩ := tp.tri to ts
      have z0 : IntKind.i64.wrap (ls + lt) = ls + lt := IntWalk.i64_in _ (by omega)
      have z1 : IntKind.i64.wrap (hs + ht) = hs + ht := IntWalk.i64_in _ (by omega)
      have z2 : IntKind.i64.wrap (-hs) = -hs := IntWalk.i64_in _ (by omega)
      have z3 : IntKind.i64.wrap (-ls) = -ls := IntWalk.i64_in _ (by omega)
      have z4 : IntKind.i64.wrap (lo + ls) = lo + ls := IntWalk.i64_in _ (by omega)
      have z5 : IntKind.i64.wrap (ho + hs) = ho + hs := IntWalk.i64_in _ (by omega)
      have HF := Lib.hid (And.intro (And.intro f1 f2) (And.intro f3 f4))
      clear f1 f2 f3 f4
      clear ts tt tu tc td to tp vs ws xs vt wt xt vu wu xu vc wc xc vd wd xd vo wo xo vp wp xp ai bi ak bk am bm hN hB hR h4 h5 h10 hP hQ hL hn hno hnp hv I J K
      go_enter Try.func12, Try.ntmps12
      obtain ⟨q0, e0⟩ : ∃ x, w.heap.size = x := ⟨_, rfl⟩
      have kB := (blk_keep (.cells #[.int .i64 n0, .int .i64 n1, .int .i64 n2] 40) (blk_new w (.cells (BoC (N : Int) bl bh rl rh (.slice aP nP cP) (.slice aQ nQ cQ) (.slice aL nL cL)) 27) q0 e0.symm))
      have kN := (blk_new (w.alloc (.cells (BoC (N : Int) bl bh rl rh (.slice aP nP cP) (.slice aQ nQ cQ) (.slice aL nL cL)) 27)) (.cells #[.int .i64 n0, .int .i64 n1, .int .i64 n2] 40) (q0 + 1) (by simp [e0]))
      go_wp2_with fail
      refine (HS.out _ U).mono ?_
      rintro e x1 ⟨rfl, u2⟩
      replace U := U.trans u2
      replace kB := u2.blk kB
      replace kN := u2.blk kN
      clear u2 HS
      go_wp2_with fail
      have F4 := Lib.hid (fun w (u : Up x1 w) => cellB (u.blk kB))
      have F5 := Lib.hid (fun w (u : Up x1 w) => cellB (u.blk kN))
      refine (wpIn_wide (n := 5)).1 ?_
      refine wpIn_nrm ?_
      refine T.regionQ (fun w' => Up x1 w') 15 3 hmx (by kernel_rfl) (by kernel_rfl) ((Up.refl x1).drew) (fun hCl => ?_)
      refine T.qT 0 (some 26) ?v16 rfl rfl hCl ?hy16 (fun hCl' => ?_)
      case hy16 => (intro w hSw; refine T.qVal ?_ hSw; (try dsimp only [List.getElem_toArray, List.getElem_cons_succ, List.getElem_cons_zero]); go_simp; try with_reducible rfl)
      simp only [Act.put, List.setIfInBounds_toArray, List.set_cons_zero, List.set_cons_succ]; replace hCl := hCl'; clear hCl'
      refine T.qT 2 (some 28) ?v17 rfl rfl hCl ?hy17 (fun hCl' => ?_)
      case hy17 => (intro w hSw; refine T.qVal ?_ hSw; (try dsimp only [List.getElem_toArray, List.getElem_cons_succ, List.getElem_cons_zero]); go_simp; try with_reducible rfl)
      simp only [Act.put, List.setIfInBounds_toArray, List.set_cons_zero, List.set_cons_succ]; replace hCl := hCl'; clear hCl'
      refine T.qT 5 (some 31) ?v18 rfl rfl hCl ?hy18 (fun hCl' => ?_)
      case hy18 => (intro w hSw; refine T.qVal ?_ hSw; (try dsimp only [List.getElem_toArray, List.getElem_cons_succ, List.getElem_cons_zero]); go_simp; try with_reducible rfl)
      simp only [Act.put, List.setIfInBounds_toArray, List.set_cons_zero, List.set_cons_succ]; replace hCl := hCl'; clear hCl'
      refine T.qT 7 (some 33) ?v19 rfl rfl hCl ?hy19 (fun hCl' => ?_)
      case hy19 => (intro w hSw; refine T.qVal ?_ hSw; (try dsimp only [List.getElem_toArray, List.getElem_cons_succ, List.getElem_cons_zero]); go_simp; try with_reducible rfl)
      simp only [Act.put, List.setIfInBounds_toArray, List.set_cons_zero, List.set_cons_succ]; replace hCl := hCl'; clear hCl'
      refine T.qT 10 (some 36) ?v20 rfl rfl hCl ?hy20 (fun hCl' => ?_)
      case hy20 => (intro w hSw; refine T.qVal ?_ hSw; (try dsimp only [List.getElem_toArray, List.getElem_cons_succ, List.getElem_cons_zero]); go_simp; try with_reducible rfl)
      simp only [Act.put, List.setIfInBounds_toArray, List.set_cons_zero, List.set_cons_succ]; replace hCl := hCl'; clear hCl'
      refine T.qT 12 (some 38) ?v21 rfl rfl hCl ?hy21 (fun hCl' => ?_)
      case hy21 => (intro w hSw; refine T.qVal ?_ hSw; (try dsimp only [List.getElem_toArray, List.getElem_cons_succ, List.getElem_cons_zero]); go_simp; try with_reducible rfl)
      simp only [Act.put, List.setIfInBounds_toArray, List.set_cons_zero, List.set_cons_succ]; replace hCl := hCl'; clear hCl'
      refine T.qT 1 (some 27) ?v22 rfl rfl hCl ?hy22 (fun hCl' => ?_)
      case hy22 => (intro w hSw; refine T.qVal ?_ hSw; (have fF4 := F4.out w hSw; have fF5 := F5.out w hSw); (try dsimp only [List.getElem_toArray, List.getElem_cons_succ, List.getElem_cons_zero]); go_simp; try with_reducible rfl)
      simp only [Act.put, List.setIfInBounds_toArray, List.set_cons_zero, List.set_cons_succ]; replace hCl := hCl'; clear hCl'
      refine T.qT 3 (some 29) ?v23 rfl rfl hCl ?hy23 (fun hCl' => ?_)
      case hy23 => (intro w hSw; refine T.qVal ?_ hSw; (have fF4 := F4.out w hSw; have fF5 := F5.out w hSw); (try dsimp only [List.getElem_toArray, List.getElem_cons_succ, List.getElem_cons_zero]); go_simp; try with_reducible rfl)
      simp only [Act.put, List.setIfInBounds_toArray, List.set_cons_zero, List.set_cons_succ]; replace hCl := hCl'; clear hCl'
      refine T.qT 6 (some 32) ?v24 rfl rfl hCl ?hy24 (fun hCl' => ?_)
      case hy24 => (intro w hSw; refine T.qVal ?_ hSw; (have fF4 := F4.out w hSw; have fF5 := F5.out w hSw); (try dsimp only [List.getElem_toArray, List.getElem_cons_succ, List.getElem_cons_zero]); go_simp; try with_reducible rfl)
      simp only [Act.put, List.setIfInBounds_toArray, List.set_cons_zero, List.set_cons_succ]; replace hCl := hCl'; clear hCl'
      refine T.qT 8 (some 34) ?v25 rfl rfl hCl ?hy25 (fun hCl' => ?_)
      case hy25 => (intro w hSw; refine T.qVal ?_ hSw; (have fF4 := F4.out w hSw; have fF5 := F5.out w hSw); (try dsimp only [List.getElem_toArray, List.getElem_cons_succ, List.getElem_cons_zero]); go_simp; try with_reducible rfl)
      simp only [Act.put, List.setIfInBounds_toArray, List.set_cons_zero, List.set_cons_succ]; replace hCl := hCl'; clear hCl'
      refine T.qT 11 (some 37) ?v26 rfl rfl hCl ?hy26 (fun hCl' => ?_)
      case hy26 => (intro w hSw; refine T.qVal ?_ hSw; (have fF4 := F4.out w hSw; have fF5 := F5.out w hSw); (try dsimp only [List.getElem_toArray, List.getElem_cons_succ, List.getElem_cons_zero]); go_simp; try with_reducible rfl)
      simp only [Act.put, List.setIfInBounds_toArray, List.set_cons_zero, List.set_cons_succ]; replace hCl := hCl'; clear hCl'
      refine T.qT 13 (some 39) ?v27 rfl rfl hCl ?hy27 (fun hCl' => ?_)
      case hy27 => (intro w hSw; refine T.qVal ?_ hSw; (have fF4 := F4.out w hSw; have fF5 := F5.out w hSw); (try dsimp only [List.getElem_toArray, List.getElem_cons_succ, List.getElem_cons_zero]); go_simp; try with_reducible rfl)
      simp only [Act.put, List.setIfInBounds_toArray, List.set_cons_zero, List.set_cons_succ]; replace hCl := hCl'; clear hCl'
      refine T.qT 4 (some 30) ((.int .i64 i)) rfl rfl hCl ?hy28 (fun hCl' => ?_)
      case hy28 => (intro w hSw; (have fF4 := F4.out w hSw; have fF5 := F5.out w hSw); (try dsimp only [List.getElem_toArray, List.getElem_cons_succ, List.getElem_cons_zero]); go_simp; (refine (callsIn_wide.2 (HRi.out w)).mono ?_; rintro e w3 ⟨rfl, rfl⟩; exact ⟨rfl, hSw⟩))
      simp only [Act.put, List.setIfInBounds_toArray, List.set_cons_zero, List.set_cons_succ]
      replace hCl := hCl'; clear hCl'
      refine T.qT 9 (some 35) ((.int .i64 k)) rfl rfl hCl ?hy29 (fun hCl' => ?_)
      case hy29 => (intro w hSw; (have fF4 := F4.out w hSw; have fF5 := F5.out w hSw); (try dsimp only [List.getElem_toArray, List.getElem_cons_succ, List.getElem_cons_zero]); go_simp; (refine (callsIn_wide.2 (HRk.out w)).mono ?_; rintro e w3 ⟨rfl, rfl⟩; exact ⟨rfl, hSw⟩))
      simp only [Act.put, List.setIfInBounds_toArray, List.set_cons_zero, List.set_cons_succ]
      replace hCl := hCl'; clear hCl'
      refine T.qT 14 (some 40) ((.int .i64 m)) rfl rfl hCl ?hy30 (fun hCl' => ?_)
      case hy30 => (intro w hSw; (have fF4 := F4.out w hSw; have fF5 := F5.out w hSw); (try dsimp only [List.getElem_toArray, List.getElem_cons_succ, List.getElem_cons_zero]); go_simp; (refine (callsIn_wide.2 (HRm.out w)).mono ?_; rintro e w3 ⟨rfl, rfl⟩; exact ⟨rfl, hSw⟩))
      simp only [Act.put, List.setIfInBounds_toArray, List.set_cons_zero, List.set_cons_succ]
      replace hCl := hCl'; clear hCl'
      refine T.tail_intro (by kernel_rfl) (fun Y3 hY3 => ?_)
      replace U := U.trans hY3
      replace kB := hY3.blk kB
      replace kN := hY3.blk kN
      clear F4 F5 hY3
      refine lastG (i := 15) (by kernel_rfl) rfl (by rfl) (by decide) (fun K hK => ?_)
      go_simp
      refine hK.out _ _ ?_
      clear hK K
      refine lastG (i := 16) (by kernel_rfl) rfl (by rfl) (by decide) (fun K hK => ?_)
      go_simp
      refine hK.out _ _ ?_
      clear hK K
      refine lastG (i := 17) (by kernel_rfl) rfl (by rfl) (by decide) (fun K hK => ?_)
      go_simp
      refine hK.out _ _ ?_
      clear hK K
      refine doneG (by kernel_rfl) ?_ _
      refine S.nrm_intro ?_
      clear HRi HRk HRm
      clear kN
      go_wp2_with fail
      refine (Cs.out _ U).mono ?_
      rintro e x6 ⟨rfl, u7⟩
      replace U := U.trans u7
      replace kB := u7.blk kB
      clear u7 
      have dkBks := blk_lt kB
      have gks := U.size
      have ks := blk_new x6 (.cells #[.int .i64 ls, .int .i64 hs] 23) _ rfl
      replace kB := blk_keep (.cells #[.int .i64 ls, .int .i64 hs] 23) kB
      replace U := U.alloc (.cells #[.int .i64 ls, .int .i64 hs] 23)
      obtain ⟨pks, hpks⟩ : ∃ z, x6.heap.size = z := ⟨_, rfl⟩
      obtain ⟨W8, hW8⟩ : ∃ z, x6.alloc (.cells #[.int .i64 ls, .int .i64 hs] 23) = z := ⟨_, rfl⟩
      rw [hpks] at ks dkBks gks
      rw [hW8] at ks U kB
      go_wp2_with fail
      clear hpks hW8
      refine (Ct.out _ U).mono ?_
      rintro e x9 ⟨rfl, u10⟩
      replace U := U.trans u10
      replace kB := u10.blk kB
      replace ks := u10.blk ks
      clear u10 
      have dkBkt := blk_lt kB
      have dkskt := blk_lt ks
      have gkt := U.size
      have kt := blk_new x9 (.cells #[.int .i64 lt, .int .i64 ht] 23) _ rfl
      replace kB := blk_keep (.cells #[.int .i64 lt, .int .i64 ht] 23) kB
      replace ks := blk_keep (.cells #[.int .i64 lt, .int .i64 ht] 23) ks
      replace U := U.alloc (.cells #[.int .i64 lt, .int .i64 ht] 23)
      obtain ⟨pkt, hpkt⟩ : ∃ z, x9.heap.size = z := ⟨_, rfl⟩
      obtain ⟨W11, hW11⟩ : ∃ z, x9.alloc (.cells #[.int .i64 lt, .int .i64 ht] 23) = z := ⟨_, rfl⟩
      rw [hpkt] at kt dkBkt dkskt gkt
      rw [hW11] at kt U kB ks
      go_wp2_with fail
      clear hpkt hW11
      refine (Cu.out _ U).mono ?_
      rintro e x12 ⟨rfl, u13⟩
      replace U := U.trans u13
      replace kB := u13.blk kB
      replace ks := u13.blk ks
      replace kt := u13.blk kt
      clear u13 
      have dkBku := blk_lt kB
      have dksku := blk_lt ks
      have dktku := blk_lt kt
      have gku := U.size
      have ku := blk_new x12 (.cells #[.int .i64 lu, .int .i64 hu] 23) _ rfl
      replace kB := blk_keep (.cells #[.int .i64 lu, .int .i64 hu] 23) kB
      replace ks := blk_keep (.cells #[.int .i64 lu, .int .i64 hu] 23) ks
      replace kt := blk_keep (.cells #[.int .i64 lu, .int .i64 hu] 23) kt
      replace U := U.alloc (.cells #[.int .i64 lu, .int .i64 hu] 23)
      obtain ⟨pku, hpku⟩ : ∃ z, x12.heap.size = z := ⟨_, rfl⟩
      obtain ⟨W14, hW14⟩ : ∃ z, x12.alloc (.cells #[.int .i64 lu, .int .i64 hu] 23) = z := ⟨_, rfl⟩
      rw [hpku] at ku dkBku dksku dktku gku
      rw [hW14] at ku U kB ks kt
      go_wp2_with fail
      clear hpku hW14
      refine (Cc.out _ U).mono ?_
      rintro e x15 ⟨rfl, u16⟩
      replace U := U.trans u16
      replace kB := u16.blk kB
      replace ks := u16.blk ks
      replace kt := u16.blk kt
      replace ku := u16.blk ku
      clear u16 
      have dkBkc := blk_lt kB
      have dkskc := blk_lt ks
      have dktkc := blk_lt kt
      have dkukc := blk_lt ku
      have gkc := U.size
      have kc := blk_new x15 (.cells #[.int .i64 (-hs), .int .i64 (-ls)] 23) _ rfl
      replace kB := blk_keep (.cells #[.int .i64 (-hs), .int .i64 (-ls)] 23) kB
      replace ks := blk_keep (.cells #[.int .i64 (-hs), .int .i64 (-ls)] 23) ks
      replace kt := blk_keep (.cells #[.int .i64 (-hs), .int .i64 (-ls)] 23) kt
      replace ku := blk_keep (.cells #[.int .i64 (-hs), .int .i64 (-ls)] 23) ku
      replace U := U.alloc (.cells #[.int .i64 (-hs), .int .i64 (-ls)] 23)
      obtain ⟨pkc, hpkc⟩ : ∃ z, x15.heap.size = z := ⟨_, rfl⟩
      obtain ⟨W17, hW17⟩ : ∃ z, x15.alloc (.cells #[.int .i64 (-hs), .int .i64 (-ls)] 23) = z := ⟨_, rfl⟩
      rw [hpkc] at kc dkBkc dkskc dktkc dkukc gkc
      rw [hW17] at kc U kB ks kt ku
      go_wp2_with fail
      clear hpkc hW17
      refine (Cd.out _ U).mono ?_
      rintro e x18 ⟨rfl, u19⟩
      replace U := U.trans u19
      replace kB := u19.blk kB
      replace ks := u19.blk ks
      replace kt := u19.blk kt
      replace ku := u19.blk ku
      replace kc := u19.blk kc
      clear u19 
      have dkBkd := blk_lt kB
      have dkskd := blk_lt ks
      have dktkd := blk_lt kt
      have dkukd := blk_lt ku
      have dkckd := blk_lt kc
      have gkd := U.size
      have kd := blk_new x18 (.cells #[.int .i64 0, .int .i64 0] 23) _ rfl
      replace kB := blk_keep (.cells #[.int .i64 0, .int .i64 0] 23) kB
      replace ks := blk_keep (.cells #[.int .i64 0, .int .i64 0] 23) ks
      replace kt := blk_keep (.cells #[.int .i64 0, .int .i64 0] 23) kt
      replace ku := blk_keep (.cells #[.int .i64 0, .int .i64 0] 23) ku
      replace kc := blk_keep (.cells #[.int .i64 0, .int .i64 0] 23) kc
      replace U := U.alloc (.cells #[.int .i64 0, .int .i64 0] 23)
      go_wp2_with fail
      obtain ⟨pkd, hpkd⟩ : ∃ z, x18.heap.size = z := ⟨_, rfl⟩
      obtain ⟨W20, hW20⟩ : ∃ z, x18.alloc (.cells #[.int .i64 0, .int .i64 0] 23) = z := ⟨_, rfl⟩
      rw [hpkd] at kd dkBkd dkskd dktkd dkukd dkckd gkd
      rw [hW20] at kd U kB ks kt ku kc
      rw [hW20, hpkd]
      go_wp2_with fail
      clear hpkd hW20
      refine (Co.out _ U).mono ?_
      rintro e x21 ⟨rfl, u22⟩
      replace U := U.trans u22
      replace kB := u22.blk kB
      replace ks := u22.blk ks
      replace kt := u22.blk kt
      replace ku := u22.blk ku
      replace kc := u22.blk kc
      replace kd := u22.blk kd
      clear u22 
      have dkBko := blk_lt kB
      have dksko := blk_lt ks
      have dktko := blk_lt kt
      have dkuko := blk_lt ku
      have dkcko := blk_lt kc
      have dkdko := blk_lt kd
      have gko := U.size
      have ko := blk_new x21 (.cells #[.int .i64 lo, .int .i64 ho] 23) _ rfl
      replace kB := blk_keep (.cells #[.int .i64 lo, .int .i64 ho] 23) kB
      replace ks := blk_keep (.cells #[.int .i64 lo, .int .i64 ho] 23) ks
      replace kt := blk_keep (.cells #[.int .i64 lo, .int .i64 ho] 23) kt
      replace ku := blk_keep (.cells #[.int .i64 lo, .int .i64 ho] 23) ku
      replace kc := blk_keep (.cells #[.int .i64 lo, .int .i64 ho] 23) kc
      replace kd := blk_keep (.cells #[.int .i64 lo, .int .i64 ho] 23) kd
      replace U := U.alloc (.cells #[.int .i64 lo, .int .i64 ho] 23)
      obtain ⟨pko, hpko⟩ : ∃ z, x21.heap.size = z := ⟨_, rfl⟩
      obtain ⟨W23, hW23⟩ : ∃ z, x21.alloc (.cells #[.int .i64 lo, .int .i64 ho] 23) = z := ⟨_, rfl⟩
      rw [hpko] at ko dkBko dksko dktko dkuko dkcko dkdko gko
      rw [hW23] at ko U kB ks kt ku kc kd
      go_wp2_with fail
      clear hpko hW23
      refine (Cp.out _ U).mono ?_
      rintro e x24 ⟨rfl, u25⟩
      replace U := U.trans u25
      replace kB := u25.blk kB
      replace ks := u25.blk ks
      replace kt := u25.blk kt
      replace ku := u25.blk ku
      replace kc := u25.blk kc
      replace kd := u25.blk kd
      replace ko := u25.blk ko
      clear u25 
      have dkBkp := blk_lt kB
      have dkskp := blk_lt ks
      have dktkp := blk_lt kt
      have dkukp := blk_lt ku
      have dkckp := blk_lt kc
      have dkdkp := blk_lt kd
      have dkokp := blk_lt ko
      have gkp := U.size
      have kp := blk_new x24 (.cells #[.int .i64 lp, .int .i64 hp] 23) _ rfl
      replace kB := blk_keep (.cells #[.int .i64 lp, .int .i64 hp] 23) kB
      replace ks := blk_keep (.cells #[.int .i64 lp, .int .i64 hp] 23) ks
      replace kt := blk_keep (.cells #[.int .i64 lp, .int .i64 hp] 23) kt
      replace ku := blk_keep (.cells #[.int .i64 lp, .int .i64 hp] 23) ku
      replace kc := blk_keep (.cells #[.int .i64 lp, .int .i64 hp] 23) kc
      replace kd := blk_keep (.cells #[.int .i64 lp, .int .i64 hp] 23) kd
      replace ko := blk_keep (.cells #[.int .i64 lp, .int .i64 hp] 23) ko
      replace U := U.alloc (.cells #[.int .i64 lp, .int .i64 hp] 23)
      obtain ⟨pkp, hpkp⟩ : ∃ z, x24.heap.size = z := ⟨_, rfl⟩
      obtain ⟨W26, hW26⟩ : ∃ z, x24.alloc (.cells #[.int .i64 lp, .int .i64 hp] 23) = z := ⟨_, rfl⟩
      rw [hpkp] at kp dkBkp dkskp dktkp dkukp dkckp dkdkp dkokp gkp
      rw [hW26] at kp U kB ks kt ku kc kd ko
      go_wp2_with fail
      clear hpkp hW26
      have F28 := Lib.hid (fun w (u : Up W26 w) => cellB (u.blk kB))
      have F29 := Lib.hid (fun w (u : Up W26 w) => cellB (u.blk ks))
      have F30 := Lib.hid (fun w (u : Up W26 w) => cellB (u.blk kt))
      have F31 := Lib.hid (fun w (u : Up W26 w) => cellB (u.blk ku))
      have F32 := Lib.hid (fun w (u : Up W26 w) => cellB (u.blk kc))
      have F33 := Lib.hid (fun w (u : Up W26 w) => cellB (u.blk kd))
      have F34 := Lib.hid (fun w (u : Up W26 w) => cellB (u.blk ko))
      have F35 := Lib.hid (fun w (u : Up W26 w) => cellB (u.blk kp))
      refine (wpIn_wide (n := 5)).1 ?_
      refine wpIn_nrm ?_
      refine T.regionQ (fun w' => Up W26 w') 47 1 hmx (by kernel_rfl) (by kernel_rfl) ((Up.refl W26).drew) (fun hCl => ?_)
      refine T.qT 0 (some 123) ?v31 rfl rfl hCl ?hy31 (fun hCl' => ?_)
      case hy31 => (intro w hSw; refine T.qVal ?_ hSw; (have fF28 := F28.out w hSw; have fF29 := F29.out w hSw; have fF30 := F30.out w hSw; have fF31 := F31.out w hSw; have fF32 := F32.out w hSw; have fF33 := F33.out w hSw; have fF34 := F34.out w hSw; have fF35 := F35.out w hSw); (try dsimp only [List.getElem_toArray, List.getElem_cons_succ, List.getElem_cons_zero]); go_simp; try with_reducible rfl)
      simp only [Act.put, List.setIfInBounds_toArray, List.set_cons_zero, List.set_cons_succ]; replace hCl := hCl'; clear hCl'
      refine T.qT 1 (some 124) ?v32 rfl rfl hCl ?hy32 (fun hCl' => ?_)
      case hy32 => (intro w hSw; refine T.qVal ?_ hSw; (try dsimp only [List.getElem_toArray, List.getElem_cons_succ, List.getElem_cons_zero]); go_simp; try with_reducible rfl)
      simp only [Act.put, List.setIfInBounds_toArray, List.set_cons_zero, List.set_cons_succ]; replace hCl := hCl'; clear hCl'
      refine T.qT 3 (some 126) ?v33 rfl rfl hCl ?hy33 (fun hCl' => ?_)
      case hy33 => (intro w hSw; refine T.qVal ?_ hSw; (try dsimp only [List.getElem_toArray, List.getElem_cons_succ, List.getElem_cons_zero]); go_simp; try with_reducible rfl)
      simp only [Act.put, List.setIfInBounds_toArray, List.set_cons_zero, List.set_cons_succ]; replace hCl := hCl'; clear hCl'
      refine T.qT 6 (some 129) ?v34 rfl rfl hCl ?hy34 (fun hCl' => ?_)
      case hy34 => (intro w hSw; refine T.qVal ?_ hSw; (try dsimp only [List.getElem_toArray, List.getElem_cons_succ, List.getElem_cons_zero]); go_simp; try with_reducible rfl)
      simp only [Act.put, List.setIfInBounds_toArray, List.set_cons_zero, List.set_cons_succ]; replace hCl := hCl'; clear hCl'
      refine T.qT 8 (some 131) ?v35 rfl rfl hCl ?hy35 (fun hCl' => ?_)
      case hy35 => (intro w hSw; refine T.qVal ?_ hSw; (try dsimp only [List.getElem_toArray, List.getElem_cons_succ, List.getElem_cons_zero]); go_simp; try with_reducible rfl)
      simp only [Act.put, List.setIfInBounds_toArray, List.set_cons_zero, List.set_cons_succ]; replace hCl := hCl'; clear hCl'
      refine T.qT 2 (some 125) ?v36 rfl rfl hCl ?hy36 (fun hCl' => ?_)
      case hy36 => (intro w hSw; refine T.qVal ?_ hSw; (have fF28 := F28.out w hSw; have fF29 := F29.out w hSw; have fF30 := F30.out w hSw; have fF31 := F31.out w hSw; have fF32 := F32.out w hSw; have fF33 := F33.out w hSw; have fF34 := F34.out w hSw; have fF35 := F35.out w hSw); (try dsimp only [List.getElem_toArray, List.getElem_cons_succ, List.getElem_cons_zero]); go_simp; try with_reducible rfl)
      simp only [Act.put, List.setIfInBounds_toArray, List.set_cons_zero, List.set_cons_succ]; replace hCl := hCl'; clear hCl'
      refine T.qT 4 (some 127) ?v37 rfl rfl hCl ?hy37 (fun hCl' => ?_)
      case hy37 => (intro w hSw; refine T.qVal ?_ hSw; (have fF28 := F28.out w hSw; have fF29 := F29.out w hSw; have fF30 := F30.out w hSw; have fF31 := F31.out w hSw; have fF32 := F32.out w hSw; have fF33 := F33.out w hSw; have fF34 := F34.out w hSw; have fF35 := F35.out w hSw); (try dsimp only [List.getElem_toArray, List.getElem_cons_succ, List.getElem_cons_zero]); go_simp; try with_reducible rfl)
      simp only [Act.put, List.setIfInBounds_toArray, List.set_cons_zero, List.set_cons_succ]; replace hCl := hCl'; clear hCl'
      refine T.qT 7 (some 130) ?v38 rfl rfl hCl ?hy38 (fun hCl' => ?_)
      case hy38 => (intro w hSw; refine T.qVal ?_ hSw; (have fF28 := F28.out w hSw; have fF29 := F29.out w hSw; have fF30 := F30.out w hSw; have fF31 := F31.out w hSw; have fF32 := F32.out w hSw; have fF33 := F33.out w hSw; have fF34 := F34.out w hSw; have fF35 := F35.out w hSw); (try dsimp only [List.getElem_toArray, List.getElem_cons_succ, List.getElem_cons_zero]); go_simp; try with_reducible rfl)
      simp only [Act.put, List.setIfInBounds_toArray, List.set_cons_zero, List.set_cons_succ]; replace hCl := hCl'; clear hCl'
      refine T.qT 9 (some 132) ?v39 rfl rfl hCl ?hy39 (fun hCl' => ?_)
      case hy39 => (intro w hSw; refine T.qVal ?_ hSw; (have fF28 := F28.out w hSw; have fF29 := F29.out w hSw; have fF30 := F30.out w hSw; have fF31 := F31.out w hSw; have fF32 := F32.out w hSw; have fF33 := F33.out w hSw; have fF34 := F34.out w hSw; have fF35 := F35.out w hSw); (try dsimp only [List.getElem_toArray, List.getElem_cons_succ, List.getElem_cons_zero]); go_simp; try with_reducible rfl)
      simp only [Act.put, List.setIfInBounds_toArray, List.set_cons_zero, List.set_cons_succ]; replace hCl := hCl'; clear hCl'
      refine T.qT 5 (some 128) ?v40 rfl rfl hCl ?hy40 (fun hCl' => ?_)
      case hy40 => (intro w hSw; refine T.qVal ?_ hSw; (try dsimp only [List.getElem_toArray, List.getElem_cons_succ, List.getElem_cons_zero]); go_simp; try with_reducible rfl)
      simp only [Act.put, List.setIfInBounds_toArray, List.set_cons_zero, List.set_cons_succ]; replace hCl := hCl'; clear hCl'
      refine T.qT 10 (some 133) ?v41 rfl rfl hCl ?hy41 (fun hCl' => ?_)
      case hy41 => (intro w hSw; refine T.qVal ?_ hSw; (try dsimp only [List.getElem_toArray, List.getElem_cons_succ, List.getElem_cons_zero]); go_simp; try with_reducible rfl)
      simp only [Act.put, List.setIfInBounds_toArray, List.set_cons_zero, List.set_cons_succ]; replace hCl := hCl'; clear hCl'
      refine T.qT 11 (some 134) ((SpV (ls + lt) (hs + ht))) rfl rfl hCl ?hy42 (fun hCl' => ?_)
      case hy42 => (intro w hSw; (have fF28 := F28.out w hSw; have fF29 := F29.out w hSw; have fF30 := F30.out w hSw; have fF31 := F31.out w hSw; have fF32 := F32.out w hSw; have fF33 := F33.out w hSw; have fF34 := F34.out w hSw; have fF35 := F35.out w hSw); (try dsimp only [List.getElem_toArray, List.getElem_cons_succ, List.getElem_cons_zero]); go_simp; (refine (callsIn_wide.2 (HTo.out _ _ w)).mono ?_; rintro e w3 ⟨rfl, u3⟩; exact ⟨rfl, hSw.trans u3⟩))
      simp only [Act.put, List.setIfInBounds_toArray, List.set_cons_zero, List.set_cons_succ]
      replace hCl := hCl'; clear hCl'
      refine T.qT 12 (some 135) ((.bool true)) rfl rfl hCl ?hy43 (fun hCl' => ?_)
      case hy43 => (intro w hSw; (have fF28 := F28.out w hSw; have fF29 := F29.out w hSw; have fF30 := F30.out w hSw; have fF31 := F31.out w hSw; have fF32 := F32.out w hSw; have fF33 := F33.out w hSw; have fF34 := F34.out w hSw; have fF35 := F35.out w hSw); (try dsimp only [List.getElem_toArray, List.getElem_cons_succ, List.getElem_cons_zero]); go_simp; (refine (callsIn_wide.2 (HWi.out _ _ _ _ w HF.out.1)).mono ?_; rintro e w3 ⟨rfl, u3⟩; exact ⟨rfl, hSw.trans u3⟩))
      simp only [Act.put, List.setIfInBounds_toArray, List.set_cons_zero, List.set_cons_succ]
      replace hCl := hCl'; clear hCl'
      refine T.qT 13 (some 136) ?v44 rfl rfl hCl ?hy44 (fun hCl' => ?_)
      case hy44 => (intro w hSw; refine T.qVal ?_ hSw; (try dsimp only [List.getElem_toArray, List.getElem_cons_succ, List.getElem_cons_zero]); go_simp; try with_reducible rfl)
      simp only [Act.put, List.setIfInBounds_toArray, List.set_cons_zero, List.set_cons_succ]; replace hCl := hCl'; clear hCl'
      refine T.qT 14 (some 137) ?v45 rfl rfl hCl ?hy45 (fun hCl' => ?_)
      case hy45 => (intro w hSw; refine T.qVal ?_ hSw; (have fF28 := F28.out w hSw; have fF29 := F29.out w hSw; have fF30 := F30.out w hSw; have fF31 := F31.out w hSw; have fF32 := F32.out w hSw; have fF33 := F33.out w hSw; have fF34 := F34.out w hSw; have fF35 := F35.out w hSw); (try dsimp only [List.getElem_toArray, List.getElem_cons_succ, List.getElem_cons_zero]); go_simp; try with_reducible rfl)
      simp only [Act.put, List.setIfInBounds_toArray, List.set_cons_zero, List.set_cons_succ]; replace hCl := hCl'; clear hCl'
      refine T.qT 15 (some 138) ?v46 rfl rfl hCl ?hy46 (fun hCl' => ?_)
      case hy46 => (intro w hSw; refine T.qVal ?_ hSw; (try dsimp only [List.getElem_toArray, List.getElem_cons_succ, List.getElem_cons_zero]); go_simp; try with_reducible rfl)
      simp only [Act.put, List.setIfInBounds_toArray, List.set_cons_zero, List.set_cons_succ]; replace hCl := hCl'; clear hCl'
      refine T.qT 18 (some 141) ?v47 rfl rfl hCl ?hy47 (fun hCl' => ?_)
      case hy47 => (intro w hSw; refine T.qVal ?_ hSw; (try dsimp only [List.getElem_toArray, List.getElem_cons_succ, List.getElem_cons_zero]); go_simp; try with_reducible rfl)
      simp only [Act.put, List.setIfInBounds_toArray, List.set_cons_zero, List.set_cons_succ]; replace hCl := hCl'; clear hCl'
      refine T.qT 16 (some 139) ?v48 rfl rfl hCl ?hy48 (fun hCl' => ?_)
      case hy48 => (intro w hSw; refine T.qVal ?_ hSw; (have fF28 := F28.out w hSw; have fF29 := F29.out w hSw; have fF30 := F30.out w hSw; have fF31 := F31.out w hSw; have fF32 := F32.out w hSw; have fF33 := F33.out w hSw; have fF34 := F34.out w hSw; have fF35 := F35.out w hSw); (try dsimp only [List.getElem_toArray, List.getElem_cons_succ, List.getElem_cons_zero]); go_simp; try with_reducible rfl)
      simp only [Act.put, List.setIfInBounds_toArray, List.set_cons_zero, List.set_cons_succ]; replace hCl := hCl'; clear hCl'
      refine T.qT 19 (some 142) ?v49 rfl rfl hCl ?hy49 (fun hCl' => ?_)
      case hy49 => (intro w hSw; refine T.qVal ?_ hSw; (have fF28 := F28.out w hSw; have fF29 := F29.out w hSw; have fF30 := F30.out w hSw; have fF31 := F31.out w hSw; have fF32 := F32.out w hSw; have fF33 := F33.out w hSw; have fF34 := F34.out w hSw; have fF35 := F35.out w hSw); (try dsimp only [List.getElem_toArray, List.getElem_cons_succ, List.getElem_cons_zero]); go_simp; try with_reducible rfl)
      simp only [Act.put, List.setIfInBounds_toArray, List.set_cons_zero, List.set_cons_succ]; replace hCl := hCl'; clear hCl'
      refine T.qT 17 (some 140) ?v50 rfl rfl hCl ?hy50 (fun hCl' => ?_)
      case hy50 => (intro w hSw; refine T.qVal ?_ hSw; (try dsimp only [List.getElem_toArray, List.getElem_cons_succ, List.getElem_cons_zero]); go_simp; try with_reducible rfl)
      simp only [Act.put, List.setIfInBounds_toArray, List.set_cons_zero, List.set_cons_succ]; replace hCl := hCl'; clear hCl'
      refine T.qT 20 (some 143) ?v51 rfl rfl hCl ?hy51 (fun hCl' => ?_)
      case hy51 => (intro w hSw; refine T.qVal ?_ hSw; (try dsimp only [List.getElem_toArray, List.getElem_cons_succ, List.getElem_cons_zero]); go_simp; try with_reducible rfl)
      simp only [Act.put, List.setIfInBounds_toArray, List.set_cons_zero, List.set_cons_succ]; replace hCl := hCl'; clear hCl'
      refine T.qT 21 (some 144) ((SpV (-hs) (-ls))) rfl rfl hCl ?hy52 (fun hCl' => ?_)
      case hy52 => (intro w hSw; (have fF28 := F28.out w hSw; have fF29 := F29.out w hSw; have fF30 := F30.out w hSw; have fF31 := F31.out w hSw; have fF32 := F32.out w hSw; have fF33 := F33.out w hSw; have fF34 := F34.out w hSw; have fF35 := F35.out w hSw); (try dsimp only [List.getElem_toArray, List.getElem_cons_succ, List.getElem_cons_zero]); go_simp; (refine (callsIn_wide.2 (HTo.out _ _ w)).mono ?_; rintro e w3 ⟨rfl, u3⟩; exact ⟨rfl, hSw.trans u3⟩))
      simp only [Act.put, List.setIfInBounds_toArray, List.set_cons_zero, List.set_cons_succ]
      replace hCl := hCl'; clear hCl'
      refine T.qT 22 (some 145) ?v53 rfl rfl hCl ?hy53 (fun hCl' => ?_)
      case hy53 => (intro w hSw; refine T.qVal ?_ hSw; (try dsimp only [List.getElem_toArray, List.getElem_cons_succ, List.getElem_cons_zero]); go_simp; try with_reducible rfl)
      simp only [Act.put, List.setIfInBounds_toArray, List.set_cons_zero, List.set_cons_succ]; replace hCl := hCl'; clear hCl'
      refine T.qT 23 (some 146) ?v54 rfl rfl hCl ?hy54 (fun hCl' => ?_)
      case hy54 => (intro w hSw; refine T.qVal ?_ hSw; (try dsimp only [List.getElem_toArray, List.getElem_cons_succ, List.getElem_cons_zero]); go_simp; try with_reducible rfl)
      simp only [Act.put, List.setIfInBounds_toArray, List.set_cons_zero, List.set_cons_succ]; replace hCl := hCl'; clear hCl'
      refine T.qT 24 (some 147) ?v55 rfl rfl hCl ?hy55 (fun hCl' => ?_)
      case hy55 => (intro w hSw; refine T.qVal ?_ hSw; (try dsimp only [List.getElem_toArray, List.getElem_cons_succ, List.getElem_cons_zero]); go_simp; try with_reducible rfl)
      simp only [Act.put, List.setIfInBounds_toArray, List.set_cons_zero, List.set_cons_succ]; replace hCl := hCl'; clear hCl'
      refine T.qT 25 (some 148) ?v56 rfl rfl hCl ?hy56 (fun hCl' => ?_)
      case hy56 => (intro w hSw; refine T.qVal ?_ hSw; (have fF28 := F28.out w hSw; have fF29 := F29.out w hSw; have fF30 := F30.out w hSw; have fF31 := F31.out w hSw; have fF32 := F32.out w hSw; have fF33 := F33.out w hSw; have fF34 := F34.out w hSw; have fF35 := F35.out w hSw); (try dsimp only [List.getElem_toArray, List.getElem_cons_succ, List.getElem_cons_zero]); go_simp; try with_reducible rfl)
      simp only [Act.put, List.setIfInBounds_toArray, List.set_cons_zero, List.set_cons_succ]; replace hCl := hCl'; clear hCl'
      refine T.qT 26 (some 149) ((SpV 0 0)) rfl rfl hCl ?hy57 (fun hCl' => ?_)
      case hy57 => (intro w hSw; (have fF28 := F28.out w hSw; have fF29 := F29.out w hSw; have fF30 := F30.out w hSw; have fF31 := F31.out w hSw; have fF32 := F32.out w hSw; have fF33 := F33.out w hSw; have fF34 := F34.out w hSw; have fF35 := F35.out w hSw); (try dsimp only [List.getElem_toArray, List.getElem_cons_succ, List.getElem_cons_zero]); go_simp; (refine (callsIn_wide.2 (HTo.out 0 0 w)).mono ?_; rintro e w3 ⟨rfl, u3⟩; exact ⟨rfl, hSw.trans u3⟩))
      simp only [Act.put, List.setIfInBounds_toArray, List.set_cons_zero, List.set_cons_succ]
      replace hCl := hCl'; clear hCl'
      refine T.qT 27 (some 150) ?v58 rfl rfl hCl ?hy58 (fun hCl' => ?_)
      case hy58 => (intro w hSw; refine T.qVal ?_ hSw; (try dsimp only [List.getElem_toArray, List.getElem_cons_succ, List.getElem_cons_zero]); go_simp; try with_reducible rfl)
      simp only [Act.put, List.setIfInBounds_toArray, List.set_cons_zero, List.set_cons_succ]; replace hCl := hCl'; clear hCl'
      refine T.qT 28 (some 151) ?v59 rfl rfl hCl ?hy59 (fun hCl' => ?_)
      case hy59 => (intro w hSw; refine T.qVal ?_ hSw; (try dsimp only [List.getElem_toArray, List.getElem_cons_succ, List.getElem_cons_zero]); go_simp; try with_reducible rfl)
      simp only [Act.put, List.setIfInBounds_toArray, List.set_cons_zero, List.set_cons_succ]; replace hCl := hCl'; clear hCl'
      refine T.qT 29 (some 152) ?v60 rfl rfl hCl ?hy60 (fun hCl' => ?_)
      case hy60 => (intro w hSw; refine T.qVal ?_ hSw; (try dsimp only [List.getElem_toArray, List.getElem_cons_succ, List.getElem_cons_zero]); go_simp; try with_reducible rfl)
      simp only [Act.put, List.setIfInBounds_toArray, List.set_cons_zero, List.set_cons_succ]; replace hCl := hCl'; clear hCl'
      refine T.qT 30 (some 153) ?v61 rfl rfl hCl ?hy61 (fun hCl' => ?_)
      case hy61 => (intro w hSw; refine T.qVal ?_ hSw; (have fF28 := F28.out w hSw; have fF29 := F29.out w hSw; have fF30 := F30.out w hSw; have fF31 := F31.out w hSw; have fF32 := F32.out w hSw; have fF33 := F33.out w hSw; have fF34 := F34.out w hSw; have fF35 := F35.out w hSw); (try dsimp only [List.getElem_toArray, List.getElem_cons_succ, List.getElem_cons_zero]); go_simp; try with_reducible rfl)
      simp only [Act.put, List.setIfInBounds_toArray, List.set_cons_zero, List.set_cons_succ]; replace hCl := hCl'; clear hCl'
      refine T.qT 31 (some 154) ?v62 rfl rfl hCl ?hy62 (fun hCl' => ?_)
      case hy62 => (intro w hSw; refine T.qVal ?_ hSw; (try dsimp only [List.getElem_toArray, List.getElem_cons_succ, List.getElem_cons_zero]); go_simp; try with_reducible rfl)
      simp only [Act.put, List.setIfInBounds_toArray, List.set_cons_zero, List.set_cons_succ]; replace hCl := hCl'; clear hCl'
      refine T.qT 33 (some 156) ?v63 rfl rfl hCl ?hy63 (fun hCl' => ?_)
      case hy63 => (intro w hSw; refine T.qVal ?_ hSw; (try dsimp only [List.getElem_toArray, List.getElem_cons_succ, List.getElem_cons_zero]); go_simp; try with_reducible rfl)
      simp only [Act.put, List.setIfInBounds_toArray, List.set_cons_zero, List.set_cons_succ]; replace hCl := hCl'; clear hCl'
      refine T.qT 36 (some 159) ?v64 rfl rfl hCl ?hy64 (fun hCl' => ?_)
      case hy64 => (intro w hSw; refine T.qVal ?_ hSw; (try dsimp only [List.getElem_toArray, List.getElem_cons_succ, List.getElem_cons_zero]); go_simp; try with_reducible rfl)
      simp only [Act.put, List.setIfInBounds_toArray, List.set_cons_zero, List.set_cons_succ]; replace hCl := hCl'; clear hCl'
      refine T.qT 38 (some 161) ?v65 rfl rfl hCl ?hy65 (fun hCl' => ?_)
      case hy65 => (intro w hSw; refine T.qVal ?_ hSw; (try dsimp only [List.getElem_toArray, List.getElem_cons_succ, List.getElem_cons_zero]); go_simp; try with_reducible rfl)
      simp only [Act.put, List.setIfInBounds_toArray, List.set_cons_zero, List.set_cons_succ]; replace hCl := hCl'; clear hCl'
      refine T.qT 32 (some 155) ?v66 rfl rfl hCl ?hy66 (fun hCl' => ?_)
      case hy66 => (intro w hSw; refine T.qVal ?_ hSw; (have fF28 := F28.out w hSw; have fF29 := F29.out w hSw; have fF30 := F30.out w hSw; have fF31 := F31.out w hSw; have fF32 := F32.out w hSw; have fF33 := F33.out w hSw; have fF34 := F34.out w hSw; have fF35 := F35.out w hSw); (try dsimp only [List.getElem_toArray, List.getElem_cons_succ, List.getElem_cons_zero]); go_simp; try with_reducible rfl)
      simp only [Act.put, List.setIfInBounds_toArray, List.set_cons_zero, List.set_cons_succ]; replace hCl := hCl'; clear hCl'
      refine T.qT 34 (some 157) ?v67 rfl rfl hCl ?hy67 (fun hCl' => ?_)
      case hy67 => (intro w hSw; refine T.qVal ?_ hSw; (have fF28 := F28.out w hSw; have fF29 := F29.out w hSw; have fF30 := F30.out w hSw; have fF31 := F31.out w hSw; have fF32 := F32.out w hSw; have fF33 := F33.out w hSw; have fF34 := F34.out w hSw; have fF35 := F35.out w hSw); (try dsimp only [List.getElem_toArray, List.getElem_cons_succ, List.getElem_cons_zero]); go_simp; try with_reducible rfl)
      simp only [Act.put, List.setIfInBounds_toArray, List.set_cons_zero, List.set_cons_succ]; replace hCl := hCl'; clear hCl'
      refine T.qT 37 (some 160) ?v68 rfl rfl hCl ?hy68 (fun hCl' => ?_)
      case hy68 => (intro w hSw; refine T.qVal ?_ hSw; (have fF28 := F28.out w hSw; have fF29 := F29.out w hSw; have fF30 := F30.out w hSw; have fF31 := F31.out w hSw; have fF32 := F32.out w hSw; have fF33 := F33.out w hSw; have fF34 := F34.out w hSw; have fF35 := F35.out w hSw); (try dsimp only [List.getElem_toArray, List.getElem_cons_succ, List.getElem_cons_zero]); go_simp; try with_reducible rfl)
      simp only [Act.put, List.setIfInBounds_toArray, List.set_cons_zero, List.set_cons_succ]; replace hCl := hCl'; clear hCl'
      refine T.qT 39 (some 162) ?v69 rfl rfl hCl ?hy69 (fun hCl' => ?_)
      case hy69 => (intro w hSw; refine T.qVal ?_ hSw; (have fF28 := F28.out w hSw; have fF29 := F29.out w hSw; have fF30 := F30.out w hSw; have fF31 := F31.out w hSw; have fF32 := F32.out w hSw; have fF33 := F33.out w hSw; have fF34 := F34.out w hSw; have fF35 := F35.out w hSw); (try dsimp only [List.getElem_toArray, List.getElem_cons_succ, List.getElem_cons_zero]); go_simp; try with_reducible rfl)
      simp only [Act.put, List.setIfInBounds_toArray, List.set_cons_zero, List.set_cons_succ]; replace hCl := hCl'; clear hCl'
      refine T.qT 35 (some 158) ?v70 rfl rfl hCl ?hy70 (fun hCl' => ?_)
      case hy70 => (intro w hSw; refine T.qVal ?_ hSw; (try dsimp only [List.getElem_toArray, List.getElem_cons_succ, List.getElem_cons_zero]); go_simp; try with_reducible rfl)
      simp only [Act.put, List.setIfInBounds_toArray, List.set_cons_zero, List.set_cons_succ]; replace hCl := hCl'; clear hCl'
      refine T.qT 40 (some 163) ?v71 rfl rfl hCl ?hy71 (fun hCl' => ?_)
      case hy71 => (intro w hSw; refine T.qVal ?_ hSw; (try dsimp only [List.getElem_toArray, List.getElem_cons_succ, List.getElem_cons_zero]); go_simp; try with_reducible rfl)
      simp only [Act.put, List.setIfInBounds_toArray, List.set_cons_zero, List.set_cons_succ]; replace hCl := hCl'; clear hCl'
      refine T.qT 41 (some 164) ((SpV (lo + ls) (ho + hs))) rfl rfl hCl ?hy72 (fun hCl' => ?_)
      case hy72 => (intro w hSw; (have fF28 := F28.out w hSw; have fF29 := F29.out w hSw; have fF30 := F30.out w hSw; have fF31 := F31.out w hSw; have fF32 := F32.out w hSw; have fF33 := F33.out w hSw; have fF34 := F34.out w hSw; have fF35 := F35.out w hSw); (try dsimp only [List.getElem_toArray, List.getElem_cons_succ, List.getElem_cons_zero]); go_simp; (refine (callsIn_wide.2 (HTo.out _ _ w)).mono ?_; rintro e w3 ⟨rfl, u3⟩; exact ⟨rfl, hSw.trans u3⟩))
      simp only [Act.put, List.setIfInBounds_toArray, List.set_cons_zero, List.set_cons_succ]
      replace hCl := hCl'; clear hCl'
      refine T.qT 42 (some 165) ((.bool true)) rfl rfl hCl ?hy73 (fun hCl' => ?_)
      case hy73 => (intro w hSw; (have fF28 := F28.out w hSw; have fF29 := F29.out w hSw; have fF30 := F30.out w hSw; have fF31 := F31.out w hSw; have fF32 := F32.out w hSw; have fF33 := F33.out w hSw; have fF34 := F34.out w hSw; have fF35 := F35.out w hSw); (try dsimp only [List.getElem_toArray, List.getElem_cons_succ, List.getElem_cons_zero]); go_simp; (refine (callsIn_wide.2 (HWi.out _ _ _ _ w HF.out.2)).mono ?_; rintro e w3 ⟨rfl, u3⟩; exact ⟨rfl, hSw.trans u3⟩))
      simp only [Act.put, List.setIfInBounds_toArray, List.set_cons_zero, List.set_cons_succ]
      replace hCl := hCl'; clear hCl'
      refine T.qT 43 (some 166) ?v74 rfl rfl hCl ?hy74 (fun hCl' => ?_)
      case hy74 => (intro w hSw; refine T.qVal ?_ hSw; (try dsimp only [List.getElem_toArray, List.getElem_cons_succ, List.getElem_cons_zero]); go_simp; try with_reducible rfl)
      simp only [Act.put, List.setIfInBounds_toArray, List.set_cons_zero, List.set_cons_succ]; replace hCl := hCl'; clear hCl'
      refine T.qT 44 (some 167) ?v75 rfl rfl hCl ?hy75 (fun hCl' => ?_)
      case hy75 => (intro w hSw; refine T.qVal ?_ hSw; (try dsimp only [List.getElem_toArray, List.getElem_cons_succ, List.getElem_cons_zero]); go_simp; try with_reducible rfl)
      simp only [Act.put, List.setIfInBounds_toArray, List.set_cons_zero, List.set_cons_succ]; replace hCl := hCl'; clear hCl'
      refine T.qT 45 (some 168) ((.bool true)) rfl rfl hCl ?hy76 (fun hCl' => ?_)
      case hy76 => (intro w hSw; (have fF28 := F28.out w hSw; have fF29 := F29.out w hSw; have fF30 := F30.out w hSw; have fF31 := F31.out w hSw; have fF32 := F32.out w hSw; have fF33 := F33.out w hSw; have fF34 := F34.out w hSw; have fF35 := F35.out w hSw); (try dsimp only [List.getElem_toArray, List.getElem_cons_succ, List.getElem_cons_zero]); go_simp; (refine (callsIn_wide.2 (HW.out w)).mono ?_; rintro e w3 ⟨rfl, u3⟩; exact ⟨rfl, hSw.trans u3⟩))
      simp only [Act.put, List.setIfInBounds_toArray, List.set_cons_zero, List.set_cons_succ]
      replace hCl := hCl'; clear hCl'
      refine T.qT 46 (some 169) ?v77 rfl rfl hCl ?hy77 (fun hCl' => ?_)
      case hy77 => (intro w hSw; refine T.qVal ?_ hSw; (try dsimp only [List.getElem_toArray, List.getElem_cons_succ, List.getElem_cons_zero]); go_simp; try with_reducible rfl)
      simp only [Act.put, List.setIfInBounds_toArray, List.set_cons_zero, List.set_cons_succ]; replace hCl := hCl'; clear hCl'
      refine T.tail_intro (by kernel_rfl) (fun Y27 hY27 => ?_)
      replace U := U.trans hY27
      replace kB := hY27.blk kB
      replace ks := hY27.blk ks
      replace kt := hY27.blk kt
      replace ku := hY27.blk ku
      replace kc := hY27.blk kc
      replace kd := hY27.blk kd
      replace ko := hY27.blk ko
      replace kp := hY27.blk kp
      clear F28 F29 F30 F31 F32 F33 F34 F35 hY27
      refine lastG (i := 47) (by kernel_rfl) rfl (by rfl) (by decide) (fun K hK => ?_)
      go_simp
      refine hK.out _ _ ?_
      clear hK K
      refine doneG (by kernel_rfl) ?_ _
      refine S.nrm_intro ?_
      go_wp2
      go_ret
      exact ⟨rfl, U⟩
end

end Go.Proofs.Ytlpkheoljbdajaa
