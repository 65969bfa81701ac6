import Derived.Test.YtlpkheoljbdajaaCst
import Derived.Test.YtlpkheoljbdajaaSou
import Derived.Test.YtlpkheoljbdajaaHeQ
/- The law StarEnds. -/
namespace Go.Proofs.Ytlpkheoljbdajaa
open Go.RowKit Go.Shelf
attribute [local go_sem] Oper.semAt_some

section
variable {bl bh rl rh : Int} {aP aQ aL : Option Addr} {nP cP nQ cQ nL cL : Nat} {ps qs : List (Int × Int)} {ls : List T.T5}
set_option maxRecDepth 100000 in
set_option maxHeartbeats 8000000 in
theorem starEnds_any {M n0 : Int} {w : World} (I : Sps w (.slice aP nP cP) ps) (J : Sps w (.slice aQ nQ cQ) qs) (K : Lks w (.slice aL nL cL) ls) :
    Calls Try.prog 8 #[BoV M bl bh rl rh (.slice aP nP cP) (.slice aQ nQ cQ) (.slice aL nL cL), .int .i64 n0] w fun e w' => e = .returned (.bool true) ∧ Up w w' := by
  have U := ((Up.refl w).alloc (.cells (BoC M bl bh rl rh (.slice aP nP cP) (.slice aQ nQ cQ) (.slice aL nL cL)) 27))
  have HW := Lib.hid (fun w => l_works_any w)
  cases hv : T.valid M bl bh rl rh ps qs ls with
  | false =>
    have HS := Lib.hid (fun w' (u : Up w w') => l_sound_no (I.up u) (J.up u) (K.up u) hv)
    clear hv I J K 
    go_enter Try.func8, Try.ntmps8
    go_wp2_with fail
    refine (HS.out _ U).mono ?_
    rintro e w1 ⟨rfl, u1⟩
    go_wp2_with fail
    refine (HW.out _).mono ?_
    rintro e w2 ⟨rfl, u2⟩
    go_wp2
    go_ret
    exact ⟨rfl, (U.trans u1).trans u2⟩
  | true =>
    obtain ⟨N, rfl⟩ := T.valid_N hv
    obtain ⟨⟨hN, hB, hR⟩, ⟨h4, h5, h10⟩, hP, hQ, hL⟩ := T.valid_parts hv
    have HS := Lib.hid (fun w' (u : Up w w') => l_sound_yes (I.up u) (J.up u) (K.up u) hv)
    have hn := I.len
    have hno := J.len
    have hnp := K.len
    have hmx : Try.prog.follows .mixedOrders = true := by kernel_rfl
    have HRk := Lib.hid (fun w => B_Rest_any n0 (N : Int) w (by omega) (by omega))
    have ak := Int.emod_nonneg n0 (b := (N : Int)) (by omega)
    have bk := Int.emod_lt_of_pos n0 (b := (N : Int)) (by omega)
    generalize n0 % (N : Int) = k at *
    obtain ⟨k, rfl⟩ := Int.eq_ofNat_of_zero_le ak
    have HRi := Lib.hid (fun w => B_Rest_any (wrap64 (n0 + 1)) (N : Int) w (by omega) (by omega))
    have ai := Int.emod_nonneg (wrap64 (n0 + 1)) (b := (N : Int)) (by omega)
    have bi := Int.emod_lt_of_pos (wrap64 (n0 + 1)) (b := (N : Int)) (by omega)
    generalize (wrap64 (n0 + 1)) % (N : Int) = i at *
    obtain ⟨i, rfl⟩ := Int.eq_ofNat_of_zero_le ai
    obtain ⟨lc, hc, ec, tc, vc, wc, xc⟩ := T.Tells.ex (o := T.o0) (m := 0) (i := (1 + k)) hv T.al_0 (T.al_night ⟨ak, bk⟩)
    have Cc := Lib.hid (fun w' (u : Up w w') => Offset_tells hv ⟨ak, bk⟩ tc (I.up u) (J.up u) (K.up u))
    obtain ⟨lt, ht, et, tt, vt, wt, xt⟩ := T.Tells.ex (o := T.o0) (m := 0) (i := (1 + i)) hv T.al_0 (T.al_night ⟨ai, bi⟩)
    have Ct := Lib.hid (fun w' (u : Up w w') => Offset_tells hv ⟨ai, bi⟩ tt (I.up u) (J.up u) (K.up u))
    obtain rfl := tc.same tt
    have HTo := Lib.hid (fun l h w => B_To_any l h w)
    have HWi := Lib.hid (fun l h l' h' w (p : l' ≤ l ∧ h ≤ h') => show Calls Try.prog 41 #[SpV l h, SpV l' h'] w fun e w' => e = .returned (.bool true) ∧ Up w w' by rw [← decide_eq_true p]; exact B_Within_any _ _ _ _ w)
    have HHas := Lib.hid (fun n w (p : lt ≤ n ∧ n ≤ ht) => show Calls Try.prog 40 #[SpV lt ht, .int .i64 n] w fun e w' => e = .returned (.bool true) ∧ Up w w' by rw [← inB_yes p.1 p.2]; exact B_Has_any _ _ _ w)
    rcases tc.err with rfl | ⟨rfl, rfl, rfl⟩
    case inr =>
      obtain ⟨_, rfl, rfl, hno'⟩ := tt.no (by decide)
      have HC := Lib.hid (fun (most : Bool) w' (u : Up w w') => Case_no hv ⟨ak, bk⟩ most hno' (I.up u) (J.up u) (K.up u))
      clear tc tt hno'
      clear vc wc xc vt wt xt hN hB hR h4 h5 h10 hP hQ hL hn hno hnp hv I J K
      go_enter Try.func8, Try.ntmps8
      obtain ⟨q0, e0⟩ : ∃ x, w.heap.size = x := ⟨_, rfl⟩
      have kB := (blk_new w (.cells (BoC (N : Int) bl bh rl rh (.slice aP nP cP) (.slice aQ nQ cQ) (.slice aL nL cL)) 27) q0 e0.symm)
      go_wp2_with fail
      refine (HS.out _ U).mono ?_
      rintro e x1 ⟨rfl, u2⟩
      replace U := U.trans u2
      replace kB := u2.blk kB
      clear u2 HS
      go_wp2_with fail
      refine (HRk.out _).mono ?_
      rintro e x3 ⟨rfl, rfl⟩
      clear HRk
      go_wp2_with fail
      refine (Cc.out _ U).mono ?_
      rintro e x4 ⟨rfl, u5⟩
      replace U := U.trans u5
      replace kB := u5.blk kB
      clear u5 Cc
      have dkBks := blk_lt kB
      have gks := U.size
      have ks := blk_new x4 (.cells #[.int .i64 0, .int .i64 0] 23) _ rfl
      replace kB := blk_keep (.cells #[.int .i64 0, .int .i64 0] 23) kB
      replace U := U.alloc (.cells #[.int .i64 0, .int .i64 0] 23)
      go_wp2_with fail
      obtain ⟨pks, hpks⟩ : ∃ z, x4.heap.size = z := ⟨_, rfl⟩
      obtain ⟨W6, hW6⟩ : ∃ z, x4.alloc (.cells #[.int .i64 0, .int .i64 0] 23) = z := ⟨_, rfl⟩
      rw [hpks] at ks dkBks gks
      rw [hW6] at ks U kB
      rw [hW6, hpks]
      go_wp2_with fail
      clear hpks hW6
      go_loopw [8] (fun m wr => ∃ z : Int, (z = 0 ∨ z = 1 ∨ z = 2) ∧ m = .int .i64 z ∧ Up w wr ∧ mblk wr q0 = some (.cells (BoC (N : Int) bl bh rl rh (.slice aP nP cP) (.slice aQ nQ cQ) (.slice aL nL cL)) 27 (0, 0)) ∧ mblk wr pks = some (.cells #[.int .i64 0, .int .i64 0] 23 (0, 0))) (fun m _ => 2 - (intOf m).toNat)
      case atStart => exact ⟨0, .inl rfl, rfl, U, kB, ks⟩
      case round =>
        clear U kB ks
        obtain ⟨z, hz, rfl, U, kB, ks⟩ := hrel
        rcases hz with rfl | rfl | rfl
        · skip
          go_wp2_with fail
          refine (HC.out false _ U).mono ?_
          rintro e x101 ⟨rfl, u102⟩
          replace U := U.trans u102
          replace kB := u102.blk kB
          replace ks := u102.blk ks
          clear u102 
          have dkBkt := blk_lt kB
          have dkskt := blk_lt ks
          have gkt := U.size
          have kt := blk_new x101 (.cells #[.slice none 0 0, .slice none 0 0, .slice none 0 0] 30) _ rfl
          replace kB := blk_keep (.cells #[.slice none 0 0, .slice none 0 0, .slice none 0 0] 30) kB
          replace ks := blk_keep (.cells #[.slice none 0 0, .slice none 0 0, .slice none 0 0] 30) ks
          replace U := U.alloc (.cells #[.slice none 0 0, .slice none 0 0, .slice none 0 0] 30)
          go_wp2_with fail
          obtain ⟨pkt, hpkt⟩ : ∃ z, x101.heap.size = z := ⟨_, rfl⟩
          obtain ⟨W103, hW103⟩ : ∃ z, x101.alloc (.cells #[.slice none 0 0, .slice none 0 0, .slice none 0 0] 30) = z := ⟨_, rfl⟩
          rw [hpkt] at kt dkBkt dkskt gkt
          rw [hW103] at kt U kB ks
          rw [hW103, hpkt]
          go_wp2_with fail
          clear hpkt hW103
          have F105 := Lib.hid (fun w (u : Up W103 w) => cellB (u.blk kB))
          have F106 := Lib.hid (fun w (u : Up W103 w) => cellB (u.blk ks))
          have F107 := Lib.hid (fun w (u : Up W103 w) => cellB (u.blk kt))
          refine (wpIn_wide (n := 5)).1 ?_
          refine wpIn_nrm ?_
          refine T.regionQ (fun w' => Up W103 w') 20 1 hmx (by kernel_rfl) (by kernel_rfl) ((Up.refl W103).drew) (fun hCl => ?_)
          refine T.qT 0 (some 46) ?v1 rfl rfl hCl ?hy1 (fun hCl' => ?_)
          case hy1 => (intro w hSw; refine T.qVal ?_ hSw; (try dsimp only [List.getElem_toArray, List.getElem_cons_succ, List.getElem_cons_zero]); go_simp; try with_reducible rfl)
          simp only [Act.put, List.setIfInBounds_toArray, List.set_cons_zero, List.set_cons_succ]; replace hCl := hCl'; clear hCl'
          refine T.qT 1 (some 47) ?v2 rfl rfl hCl ?hy2 (fun hCl' => ?_)
          case hy2 => (intro w hSw; refine T.qVal ?_ hSw; (try dsimp only [List.getElem_toArray, List.getElem_cons_succ, List.getElem_cons_zero]); go_simp; try with_reducible rfl)
          simp only [Act.put, List.setIfInBounds_toArray, List.set_cons_zero, List.set_cons_succ]; replace hCl := hCl'; clear hCl'
          refine T.qT 2 (some 48) ?v3 rfl rfl hCl ?hy3 (fun hCl' => ?_)
          case hy3 => (intro w hSw; refine T.qVal ?_ hSw; (try dsimp only [List.getElem_toArray, List.getElem_cons_succ, List.getElem_cons_zero]); go_simp; try with_reducible rfl)
          simp only [Act.put, List.setIfInBounds_toArray, List.set_cons_zero, List.set_cons_succ]; replace hCl := hCl'; clear hCl'
          refine T.qT 3 (some 49) ?v4 rfl rfl hCl ?hy4 (fun hCl' => ?_)
          case hy4 => (intro w hSw; refine T.qVal ?_ hSw; (have fF105 := F105.out w hSw; have fF106 := F106.out w hSw; have fF107 := F107.out w hSw); (try dsimp only [List.getElem_toArray, List.getElem_cons_succ, List.getElem_cons_zero]); go_simp; try with_reducible rfl)
          simp only [Act.put, List.setIfInBounds_toArray, List.set_cons_zero, List.set_cons_succ]; replace hCl := hCl'; clear hCl'
          refine T.qT 4 (some 50) ((SpV 0 0)) rfl rfl hCl ?hy5 (fun hCl' => ?_)
          case hy5 => (intro w hSw; (have fF105 := F105.out w hSw; have fF106 := F106.out w hSw; have fF107 := F107.out w hSw); (try dsimp only [List.getElem_toArray, List.getElem_cons_succ, List.getElem_cons_zero]); go_simp; (refine (callsIn_wide.2 (HTo.out 0 0 w)).mono ?_; rintro e w3 ⟨rfl, u3⟩; exact ⟨rfl, hSw.trans u3⟩))
          simp only [Act.put, List.setIfInBounds_toArray, List.set_cons_zero, List.set_cons_succ]
          replace hCl := hCl'; clear hCl'
          refine T.qT 5 (some 51) ?v6 rfl rfl hCl ?hy6 (fun hCl' => ?_)
          case hy6 => (intro w hSw; refine T.qVal ?_ hSw; (try dsimp only [List.getElem_toArray, List.getElem_cons_succ, List.getElem_cons_zero]); go_simp; try with_reducible rfl)
          simp only [Act.put, List.setIfInBounds_toArray, List.set_cons_zero, List.set_cons_succ]; replace hCl := hCl'; clear hCl'
          refine T.qT 6 (some 52) ?v7 rfl rfl hCl ?hy7 (fun hCl' => ?_)
          case hy7 => (intro w hSw; refine T.qVal ?_ hSw; (try dsimp only [List.getElem_toArray, List.getElem_cons_succ, List.getElem_cons_zero]); go_simp; try with_reducible rfl)
          simp only [Act.put, List.setIfInBounds_toArray, List.set_cons_zero, List.set_cons_succ]; replace hCl := hCl'; clear hCl'
          refine T.qT 7 (some 53) ?v8 rfl rfl hCl ?hy8 (fun hCl' => ?_)
          case hy8 => (intro w hSw; refine T.qVal ?_ hSw; (try dsimp only [List.getElem_toArray, List.getElem_cons_succ, List.getElem_cons_zero]); go_simp; try with_reducible rfl)
          simp only [Act.put, List.setIfInBounds_toArray, List.set_cons_zero, List.set_cons_succ]; replace hCl := hCl'; clear hCl'
          refine T.qT 8 (some 54) ?v9 rfl rfl hCl ?hy9 (fun hCl' => ?_)
          case hy9 => (intro w hSw; refine T.qVal ?_ hSw; (try dsimp only [List.getElem_toArray, List.getElem_cons_succ, List.getElem_cons_zero]); go_simp; try with_reducible rfl)
          simp only [Act.put, List.setIfInBounds_toArray, List.set_cons_zero, List.set_cons_succ]; replace hCl := hCl'; clear hCl'
          refine T.qT 11 (some 57) ?v10 rfl rfl hCl ?hy10 (fun hCl' => ?_)
          case hy10 => (intro w hSw; refine T.qVal ?_ hSw; (try dsimp only [List.getElem_toArray, List.getElem_cons_succ, List.getElem_cons_zero]); go_simp; try with_reducible rfl)
          simp only [Act.put, List.setIfInBounds_toArray, List.set_cons_zero, List.set_cons_succ]; replace hCl := hCl'; clear hCl'
          refine T.qT 15 (some 61) ?v11 rfl rfl hCl ?hy11 (fun hCl' => ?_)
          case hy11 => (intro w hSw; refine T.qVal ?_ hSw; (try dsimp only [List.getElem_toArray, List.getElem_cons_succ, List.getElem_cons_zero]); go_simp; try with_reducible rfl)
          simp only [Act.put, List.setIfInBounds_toArray, List.set_cons_zero, List.set_cons_succ]; replace hCl := hCl'; clear hCl'
          refine T.qT 9 (some 55) ?v12 rfl rfl hCl ?hy12 (fun hCl' => ?_)
          case hy12 => (intro w hSw; refine T.qVal ?_ hSw; (have fF105 := F105.out w hSw; have fF106 := F106.out w hSw; have fF107 := F107.out w hSw); (try dsimp only [List.getElem_toArray, List.getElem_cons_succ, List.getElem_cons_zero]); go_simp; try with_reducible rfl)
          simp only [Act.put, List.setIfInBounds_toArray, List.set_cons_zero, List.set_cons_succ]; replace hCl := hCl'; clear hCl'
          refine T.qT 12 (some 58) ?v13 rfl rfl hCl ?hy13 (fun hCl' => ?_)
          case hy13 => (intro w hSw; refine T.qVal ?_ hSw; (have fF105 := F105.out w hSw; have fF106 := F106.out w hSw; have fF107 := F107.out w hSw); (try dsimp only [List.getElem_toArray, List.getElem_cons_succ, List.getElem_cons_zero]); go_simp; try with_reducible rfl)
          simp only [Act.put, List.setIfInBounds_toArray, List.set_cons_zero, List.set_cons_succ]; replace hCl := hCl'; clear hCl'
          refine T.qT 16 (some 62) ?v14 rfl rfl hCl ?hy14 (fun hCl' => ?_)
          case hy14 => (intro w hSw; refine T.qVal ?_ hSw; (have fF105 := F105.out w hSw; have fF106 := F106.out w hSw; have fF107 := F107.out w hSw); (try dsimp only [List.getElem_toArray, List.getElem_cons_succ, List.getElem_cons_zero]); go_simp; try with_reducible rfl)
          simp only [Act.put, List.setIfInBounds_toArray, List.set_cons_zero, List.set_cons_succ]; replace hCl := hCl'; clear hCl'
          refine T.qT 10 (some 56) ?v15 rfl rfl hCl ?hy15 (fun hCl' => ?_)
          case hy15 => (intro w hSw; refine T.qVal ?_ hSw; (have fF105 := F105.out w hSw; have fF106 := F106.out w hSw; have fF107 := F107.out w hSw); (try dsimp only [List.getElem_toArray, List.getElem_cons_succ, List.getElem_cons_zero]); go_simp; try with_reducible rfl)
          simp only [Act.put, List.setIfInBounds_toArray, List.set_cons_zero, List.set_cons_succ]; replace hCl := hCl'; clear hCl'
          refine T.qT 13 (some 59) ?v16 rfl rfl hCl ?hy16 (fun hCl' => ?_)
          case hy16 => (intro w hSw; refine T.qVal ?_ hSw; (have fF105 := F105.out w hSw; have fF106 := F106.out w hSw; have fF107 := F107.out w hSw); (try dsimp only [List.getElem_toArray, List.getElem_cons_succ, List.getElem_cons_zero]); go_simp; try with_reducible rfl)
          simp only [Act.put, List.setIfInBounds_toArray, List.set_cons_zero, List.set_cons_succ]; replace hCl := hCl'; clear hCl'
          refine T.qT 17 (some 63) ?v17 rfl rfl hCl ?hy17 (fun hCl' => ?_)
          case hy17 => (intro w hSw; refine T.qVal ?_ hSw; (have fF105 := F105.out w hSw; have fF106 := F106.out w hSw; have fF107 := F107.out w hSw); (try dsimp only [List.getElem_toArray, List.getElem_cons_succ, List.getElem_cons_zero]); go_simp; try with_reducible rfl)
          simp only [Act.put, List.setIfInBounds_toArray, List.set_cons_zero, List.set_cons_succ]; replace hCl := hCl'; clear hCl'
          refine T.qT 14 (some 60) ?v18 rfl rfl hCl ?hy18 (fun hCl' => ?_)
          case hy18 => (intro w hSw; refine T.qVal ?_ hSw; (try dsimp only [List.getElem_toArray, List.getElem_cons_succ, List.getElem_cons_zero]); go_simp; try with_reducible rfl)
          simp only [Act.put, List.setIfInBounds_toArray, List.set_cons_zero, List.set_cons_succ]; replace hCl := hCl'; clear hCl'
          refine T.qT 18 (some 64) ?v19 rfl rfl hCl ?hy19 (fun hCl' => ?_)
          case hy19 => (intro w hSw; refine T.qVal ?_ hSw; (try dsimp only [List.getElem_toArray, List.getElem_cons_succ, List.getElem_cons_zero]); go_simp; try with_reducible rfl)
          simp only [Act.put, List.setIfInBounds_toArray, List.set_cons_zero, List.set_cons_succ]; replace hCl := hCl'; clear hCl'
          refine T.qT 19 (some 65) ?v20 rfl rfl hCl ?hy20 (fun hCl' => ?_)
          case hy20 => (intro w hSw; refine T.qVal ?_ hSw; (try dsimp only [List.getElem_toArray, List.getElem_cons_succ, List.getElem_cons_zero]); go_simp; try with_reducible rfl)
          simp only [Act.put, List.setIfInBounds_toArray, List.set_cons_zero, List.set_cons_succ]; replace hCl := hCl'; clear hCl'
          refine T.tail_intro (by kernel_rfl) (fun Y104 hY104 => ?_)
          replace U := U.trans hY104
          replace kB := hY104.blk kB
          replace ks := hY104.blk ks
          replace kt := hY104.blk kt
          clear F105 F106 F107 hY104
          refine lastG (i := 20) (by kernel_rfl) rfl (by rfl) (by decide) (fun K hK => ?_)
          go_simp
          refine hK.out _ _ ?_
          clear hK K
          refine doneG (by kernel_rfl) ?_ _
          refine S.nrm_intro ?_
          go_wp2_with fail
          go_roundw
          case rel => exact ⟨1, .inr (.inl rfl), by go_num, U, kB, ks⟩
          case measure => (simp [intOf])
        · skip
          go_wp2_with fail
          refine (HC.out true _ U).mono ?_
          rintro e x201 ⟨rfl, u202⟩
          replace U := U.trans u202
          replace kB := u202.blk kB
          replace ks := u202.blk ks
          clear u202 
          have dkBkt := blk_lt kB
          have dkskt := blk_lt ks
          have gkt := U.size
          have kt := blk_new x201 (.cells #[.slice none 0 0, .slice none 0 0, .slice none 0 0] 30) _ rfl
          replace kB := blk_keep (.cells #[.slice none 0 0, .slice none 0 0, .slice none 0 0] 30) kB
          replace ks := blk_keep (.cells #[.slice none 0 0, .slice none 0 0, .slice none 0 0] 30) ks
          replace U := U.alloc (.cells #[.slice none 0 0, .slice none 0 0, .slice none 0 0] 30)
          go_wp2_with fail
          obtain ⟨pkt, hpkt⟩ : ∃ z, x201.heap.size = z := ⟨_, rfl⟩
          obtain ⟨W203, hW203⟩ : ∃ z, x201.alloc (.cells #[.slice none 0 0, .slice none 0 0, .slice none 0 0] 30) = z := ⟨_, rfl⟩
          rw [hpkt] at kt dkBkt dkskt gkt
          rw [hW203] at kt U kB ks
          rw [hW203, hpkt]
          go_wp2_with fail
          clear hpkt hW203
          have F205 := Lib.hid (fun w (u : Up W203 w) => cellB (u.blk kB))
          have F206 := Lib.hid (fun w (u : Up W203 w) => cellB (u.blk ks))
          have F207 := Lib.hid (fun w (u : Up W203 w) => cellB (u.blk kt))
          refine (wpIn_wide (n := 5)).1 ?_
          refine wpIn_nrm ?_
          refine T.regionQ (fun w' => Up W203 w') 20 1 hmx (by kernel_rfl) (by kernel_rfl) ((Up.refl W203).drew) (fun hCl => ?_)
          refine T.qT 0 (some 46) ?v21 rfl rfl hCl ?hy21 (fun hCl' => ?_)
          case hy21 => (intro w hSw; refine T.qVal ?_ hSw; (try dsimp only [List.getElem_toArray, List.getElem_cons_succ, List.getElem_cons_zero]); go_simp; try with_reducible rfl)
          simp only [Act.put, List.setIfInBounds_toArray, List.set_cons_zero, List.set_cons_succ]; replace hCl := hCl'; clear hCl'
          refine T.qT 1 (some 47) ?v22 rfl rfl hCl ?hy22 (fun hCl' => ?_)
          case hy22 => (intro w hSw; refine T.qVal ?_ hSw; (try dsimp only [List.getElem_toArray, List.getElem_cons_succ, List.getElem_cons_zero]); go_simp; try with_reducible rfl)
          simp only [Act.put, List.setIfInBounds_toArray, List.set_cons_zero, List.set_cons_succ]; replace hCl := hCl'; clear hCl'
          refine T.qT 2 (some 48) ?v23 rfl rfl hCl ?hy23 (fun hCl' => ?_)
          case hy23 => (intro w hSw; refine T.qVal ?_ hSw; (try dsimp only [List.getElem_toArray, List.getElem_cons_succ, List.getElem_cons_zero]); go_simp; try with_reducible rfl)
          simp only [Act.put, List.setIfInBounds_toArray, List.set_cons_zero, List.set_cons_succ]; replace hCl := hCl'; clear hCl'
          refine T.qT 3 (some 49) ?v24 rfl rfl hCl ?hy24 (fun hCl' => ?_)
          case hy24 => (intro w hSw; refine T.qVal ?_ hSw; (have fF205 := F205.out w hSw; have fF206 := F206.out w hSw; have fF207 := F207.out w hSw); (try dsimp only [List.getElem_toArray, List.getElem_cons_succ, List.getElem_cons_zero]); go_simp; try with_reducible rfl)
          simp only [Act.put, List.setIfInBounds_toArray, List.set_cons_zero, List.set_cons_succ]; replace hCl := hCl'; clear hCl'
          refine T.qT 4 (some 50) ((SpV 0 0)) rfl rfl hCl ?hy25 (fun hCl' => ?_)
          case hy25 => (intro w hSw; (have fF205 := F205.out w hSw; have fF206 := F206.out w hSw; have fF207 := F207.out w hSw); (try dsimp only [List.getElem_toArray, List.getElem_cons_succ, List.getElem_cons_zero]); go_simp; (refine (callsIn_wide.2 (HTo.out 0 0 w)).mono ?_; rintro e w3 ⟨rfl, u3⟩; exact ⟨rfl, hSw.trans u3⟩))
          simp only [Act.put, List.setIfInBounds_toArray, List.set_cons_zero, List.set_cons_succ]
          replace hCl := hCl'; clear hCl'
          refine T.qT 5 (some 51) ?v26 rfl rfl hCl ?hy26 (fun hCl' => ?_)
          case hy26 => (intro w hSw; refine T.qVal ?_ hSw; (try dsimp only [List.getElem_toArray, List.getElem_cons_succ, List.getElem_cons_zero]); go_simp; try with_reducible rfl)
          simp only [Act.put, List.setIfInBounds_toArray, List.set_cons_zero, List.set_cons_succ]; replace hCl := hCl'; clear hCl'
          refine T.qT 6 (some 52) ?v27 rfl rfl hCl ?hy27 (fun hCl' => ?_)
          case hy27 => (intro w hSw; refine T.qVal ?_ hSw; (try dsimp only [List.getElem_toArray, List.getElem_cons_succ, List.getElem_cons_zero]); go_simp; try with_reducible rfl)
          simp only [Act.put, List.setIfInBounds_toArray, List.set_cons_zero, List.set_cons_succ]; replace hCl := hCl'; clear hCl'
          refine T.qT 7 (some 53) ?v28 rfl rfl hCl ?hy28 (fun hCl' => ?_)
          case hy28 => (intro w hSw; refine T.qVal ?_ hSw; (try dsimp only [List.getElem_toArray, List.getElem_cons_succ, List.getElem_cons_zero]); go_simp; try with_reducible rfl)
          simp only [Act.put, List.setIfInBounds_toArray, List.set_cons_zero, List.set_cons_succ]; replace hCl := hCl'; clear hCl'
          refine T.qT 8 (some 54) ?v29 rfl rfl hCl ?hy29 (fun hCl' => ?_)
          case hy29 => (intro w hSw; refine T.qVal ?_ hSw; (try dsimp only [List.getElem_toArray, List.getElem_cons_succ, List.getElem_cons_zero]); go_simp; try with_reducible rfl)
          simp only [Act.put, List.setIfInBounds_toArray, List.set_cons_zero, List.set_cons_succ]; replace hCl := hCl'; clear hCl'
          refine T.qT 11 (some 57) ?v30 rfl rfl hCl ?hy30 (fun hCl' => ?_)
          case hy30 => (intro w hSw; refine T.qVal ?_ hSw; (try dsimp only [List.getElem_toArray, List.getElem_cons_succ, List.getElem_cons_zero]); go_simp; try with_reducible rfl)
          simp only [Act.put, List.setIfInBounds_toArray, List.set_cons_zero, List.set_cons_succ]; replace hCl := hCl'; clear hCl'
          refine T.qT 15 (some 61) ?v31 rfl rfl hCl ?hy31 (fun hCl' => ?_)
          case hy31 => (intro w hSw; refine T.qVal ?_ hSw; (try dsimp only [List.getElem_toArray, List.getElem_cons_succ, List.getElem_cons_zero]); go_simp; try with_reducible rfl)
          simp only [Act.put, List.setIfInBounds_toArray, List.set_cons_zero, List.set_cons_succ]; replace hCl := hCl'; clear hCl'
          refine T.qT 9 (some 55) ?v32 rfl rfl hCl ?hy32 (fun hCl' => ?_)
          case hy32 => (intro w hSw; refine T.qVal ?_ hSw; (have fF205 := F205.out w hSw; have fF206 := F206.out w hSw; have fF207 := F207.out w hSw); (try dsimp only [List.getElem_toArray, List.getElem_cons_succ, List.getElem_cons_zero]); go_simp; try with_reducible rfl)
          simp only [Act.put, List.setIfInBounds_toArray, List.set_cons_zero, List.set_cons_succ]; replace hCl := hCl'; clear hCl'
          refine T.qT 12 (some 58) ?v33 rfl rfl hCl ?hy33 (fun hCl' => ?_)
          case hy33 => (intro w hSw; refine T.qVal ?_ hSw; (have fF205 := F205.out w hSw; have fF206 := F206.out w hSw; have fF207 := F207.out w hSw); (try dsimp only [List.getElem_toArray, List.getElem_cons_succ, List.getElem_cons_zero]); go_simp; try with_reducible rfl)
          simp only [Act.put, List.setIfInBounds_toArray, List.set_cons_zero, List.set_cons_succ]; replace hCl := hCl'; clear hCl'
          refine T.qT 16 (some 62) ?v34 rfl rfl hCl ?hy34 (fun hCl' => ?_)
          case hy34 => (intro w hSw; refine T.qVal ?_ hSw; (have fF205 := F205.out w hSw; have fF206 := F206.out w hSw; have fF207 := F207.out w hSw); (try dsimp only [List.getElem_toArray, List.getElem_cons_succ, List.getElem_cons_zero]); go_simp; try with_reducible rfl)
          simp only [Act.put, List.setIfInBounds_toArray, List.set_cons_zero, List.set_cons_succ]; replace hCl := hCl'; clear hCl'
          refine T.qT 10 (some 56) ?v35 rfl rfl hCl ?hy35 (fun hCl' => ?_)
          case hy35 => (intro w hSw; refine T.qVal ?_ hSw; (have fF205 := F205.out w hSw; have fF206 := F206.out w hSw; have fF207 := F207.out w hSw); (try dsimp only [List.getElem_toArray, List.getElem_cons_succ, List.getElem_cons_zero]); go_simp; try with_reducible rfl)
          simp only [Act.put, List.setIfInBounds_toArray, List.set_cons_zero, List.set_cons_succ]; replace hCl := hCl'; clear hCl'
          refine T.qT 13 (some 59) ?v36 rfl rfl hCl ?hy36 (fun hCl' => ?_)
          case hy36 => (intro w hSw; refine T.qVal ?_ hSw; (have fF205 := F205.out w hSw; have fF206 := F206.out w hSw; have fF207 := F207.out w hSw); (try dsimp only [List.getElem_toArray, List.getElem_cons_succ, List.getElem_cons_zero]); go_simp; try with_reducible rfl)
          simp only [Act.put, List.setIfInBounds_toArray, List.set_cons_zero, List.set_cons_succ]; replace hCl := hCl'; clear hCl'
          refine T.qT 17 (some 63) ?v37 rfl rfl hCl ?hy37 (fun hCl' => ?_)
          case hy37 => (intro w hSw; refine T.qVal ?_ hSw; (have fF205 := F205.out w hSw; have fF206 := F206.out w hSw; have fF207 := F207.out w hSw); (try dsimp only [List.getElem_toArray, List.getElem_cons_succ, List.getElem_cons_zero]); go_simp; try with_reducible rfl)
          simp only [Act.put, List.setIfInBounds_toArray, List.set_cons_zero, List.set_cons_succ]; replace hCl := hCl'; clear hCl'
          refine T.qT 14 (some 60) ?v38 rfl rfl hCl ?hy38 (fun hCl' => ?_)
          case hy38 => (intro w hSw; refine T.qVal ?_ hSw; (try dsimp only [List.getElem_toArray, List.getElem_cons_succ, List.getElem_cons_zero]); go_simp; try with_reducible rfl)
          simp only [Act.put, List.setIfInBounds_toArray, List.set_cons_zero, List.set_cons_succ]; replace hCl := hCl'; clear hCl'
          refine T.qT 18 (some 64) ?v39 rfl rfl hCl ?hy39 (fun hCl' => ?_)
          case hy39 => (intro w hSw; refine T.qVal ?_ hSw; (try dsimp only [List.getElem_toArray, List.getElem_cons_succ, List.getElem_cons_zero]); go_simp; try with_reducible rfl)
          simp only [Act.put, List.setIfInBounds_toArray, List.set_cons_zero, List.set_cons_succ]; replace hCl := hCl'; clear hCl'
          refine T.qT 19 (some 65) ?v40 rfl rfl hCl ?hy40 (fun hCl' => ?_)
          case hy40 => (intro w hSw; refine T.qVal ?_ hSw; (try dsimp only [List.getElem_toArray, List.getElem_cons_succ, List.getElem_cons_zero]); go_simp; try with_reducible rfl)
          simp only [Act.put, List.setIfInBounds_toArray, List.set_cons_zero, List.set_cons_succ]; replace hCl := hCl'; clear hCl'
          refine T.tail_intro (by kernel_rfl) (fun Y204 hY204 => ?_)
          replace U := U.trans hY204
          replace kB := hY204.blk kB
          replace ks := hY204.blk ks
          replace kt := hY204.blk kt
          clear F205 F206 F207 hY204
          refine lastG (i := 20) (by kernel_rfl) rfl (by rfl) (by decide) (fun K hK => ?_)
          go_simp
          refine hK.out _ _ ?_
          clear hK K
          refine doneG (by kernel_rfl) ?_ _
          refine S.nrm_intro ?_
          go_wp2_with fail
          go_roundw
          case rel => exact ⟨2, .inr (.inr rfl), by go_num, U, kB, ks⟩
          case measure => (simp [intOf])
        · go_wp2_with fail
          refine (HW.out _).mono ?_
          rintro e x ⟨rfl, u⟩
          go_wp2
          go_ret
          exact ⟨rfl, U.trans u⟩
    case inl =>
      have HC := Lib.hid (fun (most : Bool) w' (u : Up w w') => Case_tells hv ⟨ak, bk⟩ most tc (I.up u) (J.up u) (K.up u))
      have HT := Lib.hid (fun (y : Int → Int) (hy : T.Tr N bl bh rl rh ps qs ls y) (y0 : y 0 = 0) w0 w' (u : Up w w') (u0 : Up w0 w') aO cO aE cE aA cA IO IE IA => IsTruth_told hv hy y0 (I.up u) (J.up u) (K.up u) (aO := aO) (cO := cO) (aE := aE) (cE := cE) (aA := aA) (cA := cA) (Ints.up (w := w0) IO u0) (Ints.up (w := w0) IE u0) (Ints.up (w := w0) IA u0))
      have HB := Lib.hid (fun (y : Int → Int) (hy : T.Tr N bl bh rl rh ps qs ls y) (y0 : y 0 = 0) => show lt ≤ y (1 + i) ∧ y (1 + i) ≤ ht by have q := tt.yes.1 y hy; omega)
      have bk' : k < N := by omega
      have bi' : i < N := by omega
      clear tc tt
      clear vc wc xc vt wt xt hN hB hR h4 h5 h10 hP hQ hL hn hno hnp hv I J K
      go_enter Try.func8, Try.ntmps8
      obtain ⟨q0, e0⟩ : ∃ x, w.heap.size = x := ⟨_, rfl⟩
      have kB := (blk_new w (.cells (BoC (N : Int) bl bh rl rh (.slice aP nP cP) (.slice aQ nQ cQ) (.slice aL nL cL)) 27) q0 e0.symm)
      go_wp2_with fail
      refine (HS.out _ U).mono ?_
      rintro e x1 ⟨rfl, u2⟩
      replace U := U.trans u2
      replace kB := u2.blk kB
      clear u2 HS
      go_wp2_with fail
      refine (HRk.out _).mono ?_
      rintro e x3 ⟨rfl, rfl⟩
      clear HRk
      go_wp2_with fail
      refine (Cc.out _ U).mono ?_
      rintro e x4 ⟨rfl, u5⟩
      replace U := U.trans u5
      replace kB := u5.blk kB
      clear u5 Cc
      have dkBks := blk_lt kB
      have gks := U.size
      have ks := blk_new x4 (.cells #[.int .i64 lc, .int .i64 hc] 23) _ rfl
      replace kB := blk_keep (.cells #[.int .i64 lc, .int .i64 hc] 23) kB
      replace U := U.alloc (.cells #[.int .i64 lc, .int .i64 hc] 23)
      obtain ⟨pks, hpks⟩ : ∃ z, x4.heap.size = z := ⟨_, rfl⟩
      obtain ⟨W6, hW6⟩ : ∃ z, x4.alloc (.cells #[.int .i64 lc, .int .i64 hc] 23) = z := ⟨_, rfl⟩
      rw [hpks] at ks dkBks gks
      rw [hW6] at ks U kB
      go_wp2_with fail
      clear hpks hW6
      go_loopw [8] (fun m wr => ∃ z : Int, (z = 0 ∨ z = 1 ∨ z = 2) ∧ m = .int .i64 z ∧ Up w wr ∧ mblk wr q0 = some (.cells (BoC (N : Int) bl bh rl rh (.slice aP nP cP) (.slice aQ nQ cQ) (.slice aL nL cL)) 27 (0, 0)) ∧ mblk wr pks = some (.cells #[.int .i64 lc, .int .i64 hc] 23 (0, 0))) (fun m _ => 2 - (intOf m).toNat)
      case atStart => exact ⟨0, .inl rfl, rfl, U, kB, ks⟩
      case round =>
        clear U kB ks
        obtain ⟨z, hz, rfl, U, kB, ks⟩ := hrel
        rcases hz with rfl | rfl | rfl
        · skip
          go_wp2_with fail
          refine (HC.out false _ U).mono ?_
          rintro e x ⟨⟨y, aO, cO, aE, cE, aA, cA, rfl, IO, IE, IA, hy, y0, hval⟩, u⟩
          replace U := U.trans u
          replace kB := u.blk kB
          replace ks := u.blk ks
          clear u
          obtain ⟨a', c', e', c1, c2, hm⟩ := IO.is
          rw [T.out_len] at e' c1 hm
          injection e' with ea eb ec
          clear eb ec c1 c2
          obtain ⟨g1, o1, ga, gl, hx⟩ := hm (by omega)
          subst ea ga
          have ck := hx k (by omega)
          have ci := hx i (by omega)
          rw [T.out_at bk', if_neg (by decide), hval] at ck
          rw [T.out_at bi', if_neg (by decide)] at ci
          have HIO := Lib.hid IO
          have HIE := Lib.hid IE
          have HIA := Lib.hid IA
          have HX := Lib.hid (fun w (u : Up x w) => And.intro ((u.facts.1 g1 _ gl).trans ck) ((u.facts.1 g1 _ gl).trans ci))
          have HIT := Lib.hid (fun w1 (u : Up w w1) (u1 : Up x w1) => HT.out y hy y0 x w1 u u1 _ _ _ _ _ _ HIO.out HIE.out HIA.out)
          have HP2 := Lib.hid (HB.out y hy y0)
          simp only [Bool.false_eq_true, if_false] at HX
          generalize y (1 + (i : Int)) = dv at *
          clear hx hm ck ci IO IE IA hy y0 hval
          have Ux := Up.refl x
          have dkBkt := blk_lt kB
          have dkskt := blk_lt ks
          have gkt := U.size
          have kt := blk_new x (.cells #[.slice (some ⟨g1, o1, none⟩) N cO, .slice aE ps.length cE, .slice aA qs.length cA] 30) _ rfl
          replace kB := blk_keep (.cells #[.slice (some ⟨g1, o1, none⟩) N cO, .slice aE ps.length cE, .slice aA qs.length cA] 30) kB
          replace ks := blk_keep (.cells #[.slice (some ⟨g1, o1, none⟩) N cO, .slice aE ps.length cE, .slice aA qs.length cA] 30) ks
          replace U := U.alloc (.cells #[.slice (some ⟨g1, o1, none⟩) N cO, .slice aE ps.length cE, .slice aA qs.length cA] 30)
          replace Ux := Ux.alloc (.cells #[.slice (some ⟨g1, o1, none⟩) N cO, .slice aE ps.length cE, .slice aA qs.length cA] 30)
          obtain ⟨pkt, hpkt⟩ : ∃ z, x.heap.size = z := ⟨_, rfl⟩
          obtain ⟨W101, hW101⟩ : ∃ z, x.alloc (.cells #[.slice (some ⟨g1, o1, none⟩) N cO, .slice aE ps.length cE, .slice aA qs.length cA] 30) = z := ⟨_, rfl⟩
          rw [hpkt] at kt dkBkt dkskt gkt
          rw [hW101] at kt U kB ks Ux
          go_wp2_with fail
          clear hpkt hW101
          refine (HIT.out _ U Ux).mono ?_
          rintro e x102 ⟨rfl, u103⟩
          replace U := U.trans u103
          replace kB := u103.blk kB
          replace ks := u103.blk ks
          replace kt := u103.blk kt
          replace Ux := Ux.trans u103
          clear u103 HIT
          go_wp2_with fail
          have F105 := Lib.hid (fun w (u : Up x102 w) => cellB (u.blk kB))
          have F106 := Lib.hid (fun w (u : Up x102 w) => cellB (u.blk ks))
          have F107 := Lib.hid (fun w (u : Up x102 w) => cellB (u.blk kt))
          refine (wpIn_wide (n := 5)).1 ?_
          refine wpIn_nrm ?_
          refine T.regionQ (fun w' => Up x102 w') 41 1 hmx (by kernel_rfl) (by kernel_rfl) ((Up.refl x102).drew) (fun hCl => ?_)
          refine T.qT 0 (some 73) ?v41 rfl rfl hCl ?hy41 (fun hCl' => ?_)
          case hy41 => (intro w hSw; refine T.qVal ?_ hSw; (try dsimp only [List.getElem_toArray, List.getElem_cons_succ, List.getElem_cons_zero]); go_simp; try with_reducible rfl)
          simp only [Act.put, List.setIfInBounds_toArray, List.set_cons_zero, List.set_cons_succ]; replace hCl := hCl'; clear hCl'
          refine T.qT 1 (some 74) ?v42 rfl rfl hCl ?hy42 (fun hCl' => ?_)
          case hy42 => (intro w hSw; refine T.qVal ?_ hSw; (try dsimp only [List.getElem_toArray, List.getElem_cons_succ, List.getElem_cons_zero]); go_simp; try with_reducible rfl)
          simp only [Act.put, List.setIfInBounds_toArray, List.set_cons_zero, List.set_cons_succ]; replace hCl := hCl'; clear hCl'
          refine T.qT 2 (some 75) ?v43 rfl rfl hCl ?hy43 (fun hCl' => ?_)
          case hy43 => (intro w hSw; refine T.qVal ?_ hSw; (try dsimp only [List.getElem_toArray, List.getElem_cons_succ, List.getElem_cons_zero]); go_simp; try with_reducible rfl)
          simp only [Act.put, List.setIfInBounds_toArray, List.set_cons_zero, List.set_cons_succ]; replace hCl := hCl'; clear hCl'
          refine T.qT 3 (some 76) ?v44 rfl rfl hCl ?hy44 (fun hCl' => ?_)
          case hy44 => (intro w hSw; refine T.qVal ?_ hSw; (try dsimp only [List.getElem_toArray, List.getElem_cons_succ, List.getElem_cons_zero]); go_simp; try with_reducible rfl)
          simp only [Act.put, List.setIfInBounds_toArray, List.set_cons_zero, List.set_cons_succ]; replace hCl := hCl'; clear hCl'
          refine T.qT 4 (some 77) ?v45 rfl rfl hCl ?hy45 (fun hCl' => ?_)
          case hy45 => (intro w hSw; refine T.qVal ?_ hSw; (try dsimp only [List.getElem_toArray, List.getElem_cons_succ, List.getElem_cons_zero]); go_simp; try with_reducible rfl)
          simp only [Act.put, List.setIfInBounds_toArray, List.set_cons_zero, List.set_cons_succ]; replace hCl := hCl'; clear hCl'
          refine T.qT 5 (some 78) ?v46 rfl rfl hCl ?hy46 (fun hCl' => ?_)
          case hy46 => (intro w hSw; refine T.qVal ?_ hSw; (try dsimp only [List.getElem_toArray, List.getElem_cons_succ, List.getElem_cons_zero]); go_simp; try with_reducible rfl)
          simp only [Act.put, List.setIfInBounds_toArray, List.set_cons_zero, List.set_cons_succ]; replace hCl := hCl'; clear hCl'
          refine T.qT 6 (some 79) ?v47 rfl rfl hCl ?hy47 (fun hCl' => ?_)
          case hy47 => (intro w hSw; refine T.qVal ?_ hSw; (try dsimp only [List.getElem_toArray, List.getElem_cons_succ, List.getElem_cons_zero]); go_simp; try with_reducible rfl)
          simp only [Act.put, List.setIfInBounds_toArray, List.set_cons_zero, List.set_cons_succ]; replace hCl := hCl'; clear hCl'
          refine T.qT 7 (some 80) ?v48 rfl rfl hCl ?hy48 (fun hCl' => ?_)
          case hy48 => (intro w hSw; refine T.qVal ?_ hSw; (try dsimp only [List.getElem_toArray, List.getElem_cons_succ, List.getElem_cons_zero]); go_simp; try with_reducible rfl)
          simp only [Act.put, List.setIfInBounds_toArray, List.set_cons_zero, List.set_cons_succ]; replace hCl := hCl'; clear hCl'
          refine T.qT 10 (some 83) ?v49 rfl rfl hCl ?hy49 (fun hCl' => ?_)
          case hy49 => (intro w hSw; refine T.qVal ?_ hSw; (try dsimp only [List.getElem_toArray, List.getElem_cons_succ, List.getElem_cons_zero]); go_simp; try with_reducible rfl)
          simp only [Act.put, List.setIfInBounds_toArray, List.set_cons_zero, List.set_cons_succ]; replace hCl := hCl'; clear hCl'
          refine T.qT 8 (some 81) ?v50 rfl rfl hCl ?hy50 (fun hCl' => ?_)
          case hy50 => (intro w hSw; refine T.qVal ?_ hSw; (have fF105 := F105.out w hSw; have fF106 := F106.out w hSw; have fF107 := F107.out w hSw; obtain ⟨z1, z2⟩ := HX.out w (Ux.trans hSw)); (try dsimp only [List.getElem_toArray, List.getElem_cons_succ, List.getElem_cons_zero]); go_simp; try with_reducible rfl)
          simp only [Act.put, List.setIfInBounds_toArray, List.set_cons_zero, List.set_cons_succ]; replace hCl := hCl'; clear hCl'
          refine T.qT 11 (some 84) ?v51 rfl rfl hCl ?hy51 (fun hCl' => ?_)
          case hy51 => (intro w hSw; refine T.qVal ?_ hSw; (have fF105 := F105.out w hSw; have fF106 := F106.out w hSw; have fF107 := F107.out w hSw; obtain ⟨z1, z2⟩ := HX.out w (Ux.trans hSw)); (try dsimp only [List.getElem_toArray, List.getElem_cons_succ, List.getElem_cons_zero]); go_simp; try with_reducible rfl)
          simp only [Act.put, List.setIfInBounds_toArray, List.set_cons_zero, List.set_cons_succ]; replace hCl := hCl'; clear hCl'
          refine T.qT 9 (some 82) ?v52 rfl rfl hCl ?hy52 (fun hCl' => ?_)
          case hy52 => (intro w hSw; refine T.qVal ?_ hSw; (have fF105 := F105.out w hSw; have fF106 := F106.out w hSw; have fF107 := F107.out w hSw; obtain ⟨z1, z2⟩ := HX.out w (Ux.trans hSw)); (try dsimp only [List.getElem_toArray, List.getElem_cons_succ, List.getElem_cons_zero]); go_simp; try with_reducible rfl)
          simp only [Act.put, List.setIfInBounds_toArray, List.set_cons_zero, List.set_cons_succ]; replace hCl := hCl'; clear hCl'
          refine T.qT 12 (some 85) ?v53 rfl rfl hCl ?hy53 (fun hCl' => ?_)
          case hy53 => (intro w hSw; refine T.qVal ?_ hSw; (try dsimp only [List.getElem_toArray, List.getElem_cons_succ, List.getElem_cons_zero]); go_simp; try with_reducible rfl)
          simp only [Act.put, List.setIfInBounds_toArray, List.set_cons_zero, List.set_cons_succ]; replace hCl := hCl'; clear hCl'
          refine T.qT 13 (some 86) ?v54 rfl rfl hCl ?hy54 (fun hCl' => ?_)
          case hy54 => (intro w hSw; refine T.qVal ?_ hSw; (try dsimp only [List.getElem_toArray, List.getElem_cons_succ, List.getElem_cons_zero]); go_simp; try with_reducible rfl)
          simp only [Act.put, List.setIfInBounds_toArray, List.set_cons_zero, List.set_cons_succ]; replace hCl := hCl'; clear hCl'
          refine T.qT 14 (some 87) ?v55 rfl rfl hCl ?hy55 (fun hCl' => ?_)
          case hy55 => (intro w hSw; refine T.qVal ?_ hSw; (try dsimp only [List.getElem_toArray, List.getElem_cons_succ, List.getElem_cons_zero]); go_simp; try with_reducible rfl)
          simp only [Act.put, List.setIfInBounds_toArray, List.set_cons_zero, List.set_cons_succ]; replace hCl := hCl'; clear hCl'
          refine T.qT 15 (some 88) ?v56 rfl rfl hCl ?hy56 (fun hCl' => ?_)
          case hy56 => (intro w hSw; refine T.qVal ?_ hSw; (try dsimp only [List.getElem_toArray, List.getElem_cons_succ, List.getElem_cons_zero]); go_simp; try with_reducible rfl)
          simp only [Act.put, List.setIfInBounds_toArray, List.set_cons_zero, List.set_cons_succ]; replace hCl := hCl'; clear hCl'
          refine T.qT 16 (some 89) ?v57 rfl rfl hCl ?hy57 (fun hCl' => ?_)
          case hy57 => (intro w hSw; refine T.qVal ?_ hSw; (try dsimp only [List.getElem_toArray, List.getElem_cons_succ, List.getElem_cons_zero]); go_simp; try with_reducible rfl)
          simp only [Act.put, List.setIfInBounds_toArray, List.set_cons_zero, List.set_cons_succ]; replace hCl := hCl'; clear hCl'
          refine T.qT 17 (some 90) ?v58 rfl rfl hCl ?hy58 (fun hCl' => ?_)
          case hy58 => (intro w hSw; refine T.qVal ?_ hSw; (try dsimp only [List.getElem_toArray, List.getElem_cons_succ, List.getElem_cons_zero]); go_simp; try with_reducible rfl)
          simp only [Act.put, List.setIfInBounds_toArray, List.set_cons_zero, List.set_cons_succ]; replace hCl := hCl'; clear hCl'
          refine T.qT 18 (some 91) ?v59 rfl rfl hCl ?hy59 (fun hCl' => ?_)
          case hy59 => (intro w hSw; refine T.qVal ?_ hSw; (try dsimp only [List.getElem_toArray, List.getElem_cons_succ, List.getElem_cons_zero]); go_simp; try with_reducible rfl)
          simp only [Act.put, List.setIfInBounds_toArray, List.set_cons_zero, List.set_cons_succ]; replace hCl := hCl'; clear hCl'
          refine T.qT 20 (some 93) ?v60 rfl rfl hCl ?hy60 (fun hCl' => ?_)
          case hy60 => (intro w hSw; refine T.qVal ?_ hSw; (try dsimp only [List.getElem_toArray, List.getElem_cons_succ, List.getElem_cons_zero]); go_simp; try with_reducible rfl)
          simp only [Act.put, List.setIfInBounds_toArray, List.set_cons_zero, List.set_cons_succ]; replace hCl := hCl'; clear hCl'
          refine T.qT 23 (some 96) ?v61 rfl rfl hCl ?hy61 (fun hCl' => ?_)
          case hy61 => (intro w hSw; refine T.qVal ?_ hSw; (try dsimp only [List.getElem_toArray, List.getElem_cons_succ, List.getElem_cons_zero]); go_simp; try with_reducible rfl)
          simp only [Act.put, List.setIfInBounds_toArray, List.set_cons_zero, List.set_cons_succ]; replace hCl := hCl'; clear hCl'
          refine T.qT 19 (some 92) ?v62 rfl rfl hCl ?hy62 (fun hCl' => ?_)
          case hy62 => (intro w hSw; refine T.qVal ?_ hSw; (have fF105 := F105.out w hSw; have fF106 := F106.out w hSw; have fF107 := F107.out w hSw; obtain ⟨z1, z2⟩ := HX.out w (Ux.trans hSw)); (try dsimp only [List.getElem_toArray, List.getElem_cons_succ, List.getElem_cons_zero]); go_simp; try with_reducible rfl)
          simp only [Act.put, List.setIfInBounds_toArray, List.set_cons_zero, List.set_cons_succ]; replace hCl := hCl'; clear hCl'
          refine T.qT 24 (some 97) ?v63 rfl rfl hCl ?hy63 (fun hCl' => ?_)
          case hy63 => (intro w hSw; refine T.qVal ?_ hSw; (have fF105 := F105.out w hSw; have fF106 := F106.out w hSw; have fF107 := F107.out w hSw; obtain ⟨z1, z2⟩ := HX.out w (Ux.trans hSw)); (try dsimp only [List.getElem_toArray, List.getElem_cons_succ, List.getElem_cons_zero]); go_simp; try with_reducible rfl)
          simp only [Act.put, List.setIfInBounds_toArray, List.set_cons_zero, List.set_cons_succ]; replace hCl := hCl'; clear hCl'
          refine T.qT 21 (some 94) ?v64 rfl rfl hCl ?hy64 (fun hCl' => ?_)
          case hy64 => (intro w hSw; refine T.qVal ?_ hSw; (try dsimp only [List.getElem_toArray, List.getElem_cons_succ, List.getElem_cons_zero]); go_simp; try with_reducible rfl)
          simp only [Act.put, List.setIfInBounds_toArray, List.set_cons_zero, List.set_cons_succ]; replace hCl := hCl'; clear hCl'
          refine T.qT 22 (some 95) ?v65 rfl rfl hCl ?hy65 (fun hCl' => ?_)
          case hy65 => (intro w hSw; refine T.qVal ?_ hSw; (have fF105 := F105.out w hSw; have fF106 := F106.out w hSw; have fF107 := F107.out w hSw; obtain ⟨z1, z2⟩ := HX.out w (Ux.trans hSw)); (try dsimp only [List.getElem_toArray, List.getElem_cons_succ, List.getElem_cons_zero]); go_simp; try with_reducible rfl)
          simp only [Act.put, List.setIfInBounds_toArray, List.set_cons_zero, List.set_cons_succ]; replace hCl := hCl'; clear hCl'
          refine T.qT 25 (some 98) ?v66 rfl rfl hCl ?hy66 (fun hCl' => ?_)
          case hy66 => (intro w hSw; refine T.qVal ?_ hSw; (try dsimp only [List.getElem_toArray, List.getElem_cons_succ, List.getElem_cons_zero]); go_simp; try with_reducible rfl)
          simp only [Act.put, List.setIfInBounds_toArray, List.set_cons_zero, List.set_cons_succ]; replace hCl := hCl'; clear hCl'
          refine T.qT 26 (some 99) ?v67 rfl rfl hCl ?hy67 (fun hCl' => ?_)
          case hy67 => (intro w hSw; refine T.qVal ?_ hSw; (try dsimp only [List.getElem_toArray, List.getElem_cons_succ, List.getElem_cons_zero]); go_simp; try with_reducible rfl)
          simp only [Act.put, List.setIfInBounds_toArray, List.set_cons_zero, List.set_cons_succ]; replace hCl := hCl'; clear hCl'
          refine T.qT 27 (some 100) ?v68 rfl rfl hCl ?hy68 (fun hCl' => ?_)
          case hy68 => (intro w hSw; refine T.qVal ?_ hSw; (try dsimp only [List.getElem_toArray, List.getElem_cons_succ, List.getElem_cons_zero]); go_simp; try with_reducible rfl)
          simp only [Act.put, List.setIfInBounds_toArray, List.set_cons_zero, List.set_cons_succ]; replace hCl := hCl'; clear hCl'
          refine T.qT 28 (some 101) ?v69 rfl rfl hCl ?hy69 (fun hCl' => ?_)
          case hy69 => (intro w hSw; refine T.qVal ?_ hSw; (try dsimp only [List.getElem_toArray, List.getElem_cons_succ, List.getElem_cons_zero]); go_simp; try with_reducible rfl)
          simp only [Act.put, List.setIfInBounds_toArray, List.set_cons_zero, List.set_cons_succ]; replace hCl := hCl'; clear hCl'
          refine T.qT 29 (some 102) ?v70 rfl rfl hCl ?hy70 (fun hCl' => ?_)
          case hy70 => (intro w hSw; refine T.qVal ?_ hSw; (try dsimp only [List.getElem_toArray, List.getElem_cons_succ, List.getElem_cons_zero]); go_simp; try with_reducible rfl)
          simp only [Act.put, List.setIfInBounds_toArray, List.set_cons_zero, List.set_cons_succ]; replace hCl := hCl'; clear hCl'
          refine T.qT 30 (some 103) ?v71 rfl rfl hCl ?hy71 (fun hCl' => ?_)
          case hy71 => (intro w hSw; refine T.qVal ?_ hSw; (try dsimp only [List.getElem_toArray, List.getElem_cons_succ, List.getElem_cons_zero]); go_simp; try with_reducible rfl)
          simp only [Act.put, List.setIfInBounds_toArray, List.set_cons_zero, List.set_cons_succ]; replace hCl := hCl'; clear hCl'
          refine T.qT 31 (some 104) ?v72 rfl rfl hCl ?hy72 (fun hCl' => ?_)
          case hy72 => (intro w hSw; refine T.qVal ?_ hSw; (try dsimp only [List.getElem_toArray, List.getElem_cons_succ, List.getElem_cons_zero]); go_simp; try with_reducible rfl)
          simp only [Act.put, List.setIfInBounds_toArray, List.set_cons_zero, List.set_cons_succ]; replace hCl := hCl'; clear hCl'
          refine T.qS 32 (some 105) rfl rfl hCl (fun hCl' => ?_)
          simp only [Act.put, List.setIfInBounds_toArray, List.set_cons_zero, List.set_cons_succ]; replace hCl := hCl'; clear hCl'
          refine T.qS 34 (some 107) rfl rfl hCl (fun hCl' => ?_)
          simp only [Act.put, List.setIfInBounds_toArray, List.set_cons_zero, List.set_cons_succ]; replace hCl := hCl'; clear hCl'
          refine T.qS 37 (some 110) rfl rfl hCl (fun hCl' => ?_)
          simp only [Act.put, List.setIfInBounds_toArray, List.set_cons_zero, List.set_cons_succ]; replace hCl := hCl'; clear hCl'
          refine T.qS 33 (some 106) rfl rfl hCl (fun hCl' => ?_)
          simp only [Act.put, List.setIfInBounds_toArray, List.set_cons_zero, List.set_cons_succ]; replace hCl := hCl'; clear hCl'
          refine T.qS 38 (some 111) rfl rfl hCl (fun hCl' => ?_)
          simp only [Act.put, List.setIfInBounds_toArray, List.set_cons_zero, List.set_cons_succ]; replace hCl := hCl'; clear hCl'
          refine T.qS 35 (some 108) rfl rfl hCl (fun hCl' => ?_)
          simp only [Act.put, List.setIfInBounds_toArray, List.set_cons_zero, List.set_cons_succ]; replace hCl := hCl'; clear hCl'
          refine T.qS 36 (some 109) rfl rfl hCl (fun hCl' => ?_)
          simp only [Act.put, List.setIfInBounds_toArray, List.set_cons_zero, List.set_cons_succ]; replace hCl := hCl'; clear hCl'
          refine T.qS 39 (some 112) rfl rfl hCl (fun hCl' => ?_)
          simp only [Act.put, List.setIfInBounds_toArray, List.set_cons_zero, List.set_cons_succ]; replace hCl := hCl'; clear hCl'
          refine T.qT 40 (some 113) ?v81 rfl rfl hCl ?hy81 (fun hCl' => ?_)
          case hy81 => (intro w hSw; refine T.qVal ?_ hSw; (try dsimp only [List.getElem_toArray, List.getElem_cons_succ, List.getElem_cons_zero]); go_simp; try with_reducible rfl)
          simp only [Act.put, List.setIfInBounds_toArray, List.set_cons_zero, List.set_cons_succ]; replace hCl := hCl'; clear hCl'
          refine T.tail_intro (by kernel_rfl) (fun Y104 hY104 => ?_)
          replace U := U.trans hY104
          replace kB := hY104.blk kB
          replace ks := hY104.blk ks
          replace kt := hY104.blk kt
          replace Ux := Ux.trans hY104
          clear F105 F106 F107 hY104
          refine lastG (i := 41) (by kernel_rfl) rfl (by rfl) (by decide) (fun K hK => ?_)
          go_simp
          refine hK.out _ _ ?_
          clear hK K
          refine doneG (by kernel_rfl) ?_ _
          refine S.nrm_intro ?_
          go_wp2_with fail
          refine (HRi.out _).mono ?_
          rintro e x108 ⟨rfl, rfl⟩
          go_wp2_with fail
          refine (Ct.out _ U).mono ?_
          rintro e x109 ⟨rfl, u110⟩
          replace U := U.trans u110
          replace kB := u110.blk kB
          replace ks := u110.blk ks
          replace kt := u110.blk kt
          replace Ux := Ux.trans u110
          clear u110 
          have dkBku := blk_lt kB
          have dksku := blk_lt ks
          have dktku := blk_lt kt
          have gku := U.size
          have ku := blk_new x109 (.cells #[.int .i64 lt, .int .i64 ht] 23) _ rfl
          replace kB := blk_keep (.cells #[.int .i64 lt, .int .i64 ht] 23) kB
          replace ks := blk_keep (.cells #[.int .i64 lt, .int .i64 ht] 23) ks
          replace kt := blk_keep (.cells #[.int .i64 lt, .int .i64 ht] 23) kt
          replace U := U.alloc (.cells #[.int .i64 lt, .int .i64 ht] 23)
          replace Ux := Ux.alloc (.cells #[.int .i64 lt, .int .i64 ht] 23)
          obtain ⟨pku, hpku⟩ : ∃ z, x109.heap.size = z := ⟨_, rfl⟩
          obtain ⟨W111, hW111⟩ : ∃ z, x109.alloc (.cells #[.int .i64 lt, .int .i64 ht] 23) = z := ⟨_, rfl⟩
          rw [hpku] at ku dkBku dksku dktku gku
          rw [hW111] at ku U kB ks kt Ux
          skip
          go_wp2_with fail
          have F113 := Lib.hid (fun w (u : Up W111 w) => cellB (u.blk kB))
          have F114 := Lib.hid (fun w (u : Up W111 w) => cellB (u.blk ks))
          have F115 := Lib.hid (fun w (u : Up W111 w) => cellB (u.blk kt))
          have F116 := Lib.hid (fun w (u : Up W111 w) => cellB (u.blk ku))
          refine (wpIn_wide (n := 5)).1 ?_
          refine wpIn_nrm ?_
          refine T.regionQ (fun w' => Up W111 w') 11 1 hmx (by kernel_rfl) (by kernel_rfl) ((Up.refl W111).drew) (fun hCl => ?_)
          refine T.qT 0 (some 126) ?v82 rfl rfl hCl ?hy82 (fun hCl' => ?_)
          case hy82 => (intro w hSw; refine T.qVal ?_ hSw; (try dsimp only [List.getElem_toArray, List.getElem_cons_succ, List.getElem_cons_zero]); go_simp; try with_reducible rfl)
          simp only [Act.put, List.setIfInBounds_toArray, List.set_cons_zero, List.set_cons_succ]; replace hCl := hCl'; clear hCl'
          refine T.qT 1 (some 127) ?v83 rfl rfl hCl ?hy83 (fun hCl' => ?_)
          case hy83 => (intro w hSw; refine T.qVal ?_ hSw; (try dsimp only [List.getElem_toArray, List.getElem_cons_succ, List.getElem_cons_zero]); go_simp; try with_reducible rfl)
          simp only [Act.put, List.setIfInBounds_toArray, List.set_cons_zero, List.set_cons_succ]; replace hCl := hCl'; clear hCl'
          refine T.qT 2 (some 128) ?v84 rfl rfl hCl ?hy84 (fun hCl' => ?_)
          case hy84 => (intro w hSw; refine T.qVal ?_ hSw; (try dsimp only [List.getElem_toArray, List.getElem_cons_succ, List.getElem_cons_zero]); go_simp; try with_reducible rfl)
          simp only [Act.put, List.setIfInBounds_toArray, List.set_cons_zero, List.set_cons_succ]; replace hCl := hCl'; clear hCl'
          refine T.qT 3 (some 129) ?v85 rfl rfl hCl ?hy85 (fun hCl' => ?_)
          case hy85 => (intro w hSw; refine T.qVal ?_ hSw; (have fF113 := F113.out w hSw; have fF114 := F114.out w hSw; have fF115 := F115.out w hSw; have fF116 := F116.out w hSw; obtain ⟨z1, z2⟩ := HX.out w (Ux.trans hSw)); (try dsimp only [List.getElem_toArray, List.getElem_cons_succ, List.getElem_cons_zero]); go_simp; try with_reducible rfl)
          simp only [Act.put, List.setIfInBounds_toArray, List.set_cons_zero, List.set_cons_succ]; replace hCl := hCl'; clear hCl'
          refine T.qT 4 (some 130) ?v86 rfl rfl hCl ?hy86 (fun hCl' => ?_)
          case hy86 => (intro w hSw; refine T.qVal ?_ hSw; (try dsimp only [List.getElem_toArray, List.getElem_cons_succ, List.getElem_cons_zero]); go_simp; try with_reducible rfl)
          simp only [Act.put, List.setIfInBounds_toArray, List.set_cons_zero, List.set_cons_succ]; replace hCl := hCl'; clear hCl'
          refine T.qT 6 (some 132) ?v87 rfl rfl hCl ?hy87 (fun hCl' => ?_)
          case hy87 => (intro w hSw; refine T.qVal ?_ hSw; (try dsimp only [List.getElem_toArray, List.getElem_cons_succ, List.getElem_cons_zero]); go_simp; try with_reducible rfl)
          simp only [Act.put, List.setIfInBounds_toArray, List.set_cons_zero, List.set_cons_succ]; replace hCl := hCl'; clear hCl'
          refine T.qT 5 (some 131) ?v88 rfl rfl hCl ?hy88 (fun hCl' => ?_)
          case hy88 => (intro w hSw; refine T.qVal ?_ hSw; (have fF113 := F113.out w hSw; have fF114 := F114.out w hSw; have fF115 := F115.out w hSw; have fF116 := F116.out w hSw; obtain ⟨z1, z2⟩ := HX.out w (Ux.trans hSw)); (try dsimp only [List.getElem_toArray, List.getElem_cons_succ, List.getElem_cons_zero]); go_simp; try with_reducible rfl)
          simp only [Act.put, List.setIfInBounds_toArray, List.set_cons_zero, List.set_cons_succ]; replace hCl := hCl'; clear hCl'
          refine T.qT 7 (some 133) ?v89 rfl rfl hCl ?hy89 (fun hCl' => ?_)
          case hy89 => (intro w hSw; refine T.qVal ?_ hSw; (try dsimp only [List.getElem_toArray, List.getElem_cons_succ, List.getElem_cons_zero]); go_simp; try with_reducible rfl)
          simp only [Act.put, List.setIfInBounds_toArray, List.set_cons_zero, List.set_cons_succ]; replace hCl := hCl'; clear hCl'
          refine T.qT 8 (some 134) ?v90 rfl rfl hCl ?hy90 (fun hCl' => ?_)
          case hy90 => (intro w hSw; refine T.qVal ?_ hSw; (have fF113 := F113.out w hSw; have fF114 := F114.out w hSw; have fF115 := F115.out w hSw; have fF116 := F116.out w hSw; obtain ⟨z1, z2⟩ := HX.out w (Ux.trans hSw)); (try dsimp only [List.getElem_toArray, List.getElem_cons_succ, List.getElem_cons_zero]); go_simp; try with_reducible rfl)
          simp only [Act.put, List.setIfInBounds_toArray, List.set_cons_zero, List.set_cons_succ]; replace hCl := hCl'; clear hCl'
          refine T.qT 9 (some 135) ((.bool true)) rfl rfl hCl ?hy91 (fun hCl' => ?_)
          case hy91 => (intro w hSw; (have fF113 := F113.out w hSw; have fF114 := F114.out w hSw; have fF115 := F115.out w hSw; have fF116 := F116.out w hSw; obtain ⟨z1, z2⟩ := HX.out w (Ux.trans hSw)); (try dsimp only [List.getElem_toArray, List.getElem_cons_succ, List.getElem_cons_zero]); go_simp; (refine (callsIn_wide.2 (HHas.out _ w HP2.out)).mono ?_; rintro e w3 ⟨rfl, u3⟩; exact ⟨rfl, hSw.trans u3⟩))
          simp only [Act.put, List.setIfInBounds_toArray, List.set_cons_zero, List.set_cons_succ]
          replace hCl := hCl'; clear hCl'
          refine T.qT 10 (some 136) ?v92 rfl rfl hCl ?hy92 (fun hCl' => ?_)
          case hy92 => (intro w hSw; refine T.qVal ?_ hSw; (try dsimp only [List.getElem_toArray, List.getElem_cons_succ, List.getElem_cons_zero]); go_simp; try with_reducible rfl)
          simp only [Act.put, List.setIfInBounds_toArray, List.set_cons_zero, List.set_cons_succ]; replace hCl := hCl'; clear hCl'
          refine T.tail_intro (by kernel_rfl) (fun Y112 hY112 => ?_)
          replace U := U.trans hY112
          replace kB := hY112.blk kB
          replace ks := hY112.blk ks
          replace kt := hY112.blk kt
          replace ku := hY112.blk ku
          replace Ux := Ux.trans hY112
          clear F113 F114 F115 F116 hY112
          refine lastG (i := 11) (by kernel_rfl) rfl (by rfl) (by decide) (fun K hK => ?_)
          go_simp
          refine hK.out _ _ ?_
          clear hK K
          refine doneG (by kernel_rfl) ?_ _
          refine S.nrm_intro ?_
          go_wp2_with fail
          go_roundw
          case rel => exact ⟨1, .inr (.inl rfl), by go_num, U, kB, ks⟩
          case measure => (simp [intOf])
        · skip
          go_wp2_with fail
          refine (HC.out true _ U).mono ?_
          rintro e x ⟨⟨y, aO, cO, aE, cE, aA, cA, rfl, IO, IE, IA, hy, y0, hval⟩, u⟩
          replace U := U.trans u
          replace kB := u.blk kB
          replace ks := u.blk ks
          clear u
          obtain ⟨a', c', e', c1, c2, hm⟩ := IO.is
          rw [T.out_len] at e' c1 hm
          injection e' with ea eb ec
          clear eb ec c1 c2
          obtain ⟨g1, o1, ga, gl, hx⟩ := hm (by omega)
          subst ea ga
          have ck := hx k (by omega)
          have ci := hx i (by omega)
          rw [T.out_at bk', if_neg (by decide), hval] at ck
          rw [T.out_at bi', if_neg (by decide)] at ci
          have HIO := Lib.hid IO
          have HIE := Lib.hid IE
          have HIA := Lib.hid IA
          have HX := Lib.hid (fun w (u : Up x w) => And.intro ((u.facts.1 g1 _ gl).trans ck) ((u.facts.1 g1 _ gl).trans ci))
          have HIT := Lib.hid (fun w1 (u : Up w w1) (u1 : Up x w1) => HT.out y hy y0 x w1 u u1 _ _ _ _ _ _ HIO.out HIE.out HIA.out)
          have HP2 := Lib.hid (HB.out y hy y0)
          simp only [if_true] at HX
          generalize y (1 + (i : Int)) = dv at *
          clear hx hm ck ci IO IE IA hy y0 hval
          have Ux := Up.refl x
          have dkBkt := blk_lt kB
          have dkskt := blk_lt ks
          have gkt := U.size
          have kt := blk_new x (.cells #[.slice (some ⟨g1, o1, none⟩) N cO, .slice aE ps.length cE, .slice aA qs.length cA] 30) _ rfl
          replace kB := blk_keep (.cells #[.slice (some ⟨g1, o1, none⟩) N cO, .slice aE ps.length cE, .slice aA qs.length cA] 30) kB
          replace ks := blk_keep (.cells #[.slice (some ⟨g1, o1, none⟩) N cO, .slice aE ps.length cE, .slice aA qs.length cA] 30) ks
          replace U := U.alloc (.cells #[.slice (some ⟨g1, o1, none⟩) N cO, .slice aE ps.length cE, .slice aA qs.length cA] 30)
          replace Ux := Ux.alloc (.cells #[.slice (some ⟨g1, o1, none⟩) N cO, .slice aE ps.length cE, .slice aA qs.length cA] 30)
          obtain ⟨pkt, hpkt⟩ : ∃ z, x.heap.size = z := ⟨_, rfl⟩
          obtain ⟨W201, hW201⟩ : ∃ z, x.alloc (.cells #[.slice (some ⟨g1, o1, none⟩) N cO, .slice aE ps.length cE, .slice aA qs.length cA] 30) = z := ⟨_, rfl⟩
          rw [hpkt] at kt dkBkt dkskt gkt
          rw [hW201] at kt U kB ks Ux
          go_wp2_with fail
          clear hpkt hW201
          refine (HIT.out _ U Ux).mono ?_
          rintro e x202 ⟨rfl, u203⟩
          replace U := U.trans u203
          replace kB := u203.blk kB
          replace ks := u203.blk ks
          replace kt := u203.blk kt
          replace Ux := Ux.trans u203
          clear u203 HIT
          go_wp2_with fail
          have F205 := Lib.hid (fun w (u : Up x202 w) => cellB (u.blk kB))
          have F206 := Lib.hid (fun w (u : Up x202 w) => cellB (u.blk ks))
          have F207 := Lib.hid (fun w (u : Up x202 w) => cellB (u.blk kt))
          refine (wpIn_wide (n := 5)).1 ?_
          refine wpIn_nrm ?_
          refine T.regionQ (fun w' => Up x202 w') 41 1 hmx (by kernel_rfl) (by kernel_rfl) ((Up.refl x202).drew) (fun hCl => ?_)
          refine T.qT 0 (some 73) ?v93 rfl rfl hCl ?hy93 (fun hCl' => ?_)
          case hy93 => (intro w hSw; refine T.qVal ?_ hSw; (try dsimp only [List.getElem_toArray, List.getElem_cons_succ, List.getElem_cons_zero]); go_simp; try with_reducible rfl)
          simp only [Act.put, List.setIfInBounds_toArray, List.set_cons_zero, List.set_cons_succ]; replace hCl := hCl'; clear hCl'
          refine T.qT 1 (some 74) ?v94 rfl rfl hCl ?hy94 (fun hCl' => ?_)
          case hy94 => (intro w hSw; refine T.qVal ?_ hSw; (try dsimp only [List.getElem_toArray, List.getElem_cons_succ, List.getElem_cons_zero]); go_simp; try with_reducible rfl)
          simp only [Act.put, List.setIfInBounds_toArray, List.set_cons_zero, List.set_cons_succ]; replace hCl := hCl'; clear hCl'
          refine T.qT 2 (some 75) ?v95 rfl rfl hCl ?hy95 (fun hCl' => ?_)
          case hy95 => (intro w hSw; refine T.qVal ?_ hSw; (try dsimp only [List.getElem_toArray, List.getElem_cons_succ, List.getElem_cons_zero]); go_simp; try with_reducible rfl)
          simp only [Act.put, List.setIfInBounds_toArray, List.set_cons_zero, List.set_cons_succ]; replace hCl := hCl'; clear hCl'
          refine T.qT 3 (some 76) ?v96 rfl rfl hCl ?hy96 (fun hCl' => ?_)
          case hy96 => (intro w hSw; refine T.qVal ?_ hSw; (try dsimp only [List.getElem_toArray, List.getElem_cons_succ, List.getElem_cons_zero]); go_simp; try with_reducible rfl)
          simp only [Act.put, List.setIfInBounds_toArray, List.set_cons_zero, List.set_cons_succ]; replace hCl := hCl'; clear hCl'
          refine T.qT 4 (some 77) ?v97 rfl rfl hCl ?hy97 (fun hCl' => ?_)
          case hy97 => (intro w hSw; refine T.qVal ?_ hSw; (try dsimp only [List.getElem_toArray, List.getElem_cons_succ, List.getElem_cons_zero]); go_simp; try with_reducible rfl)
          simp only [Act.put, List.setIfInBounds_toArray, List.set_cons_zero, List.set_cons_succ]; replace hCl := hCl'; clear hCl'
          refine T.qT 5 (some 78) ?v98 rfl rfl hCl ?hy98 (fun hCl' => ?_)
          case hy98 => (intro w hSw; refine T.qVal ?_ hSw; (try dsimp only [List.getElem_toArray, List.getElem_cons_succ, List.getElem_cons_zero]); go_simp; try with_reducible rfl)
          simp only [Act.put, List.setIfInBounds_toArray, List.set_cons_zero, List.set_cons_succ]; replace hCl := hCl'; clear hCl'
          refine T.qT 6 (some 79) ?v99 rfl rfl hCl ?hy99 (fun hCl' => ?_)
          case hy99 => (intro w hSw; refine T.qVal ?_ hSw; (try dsimp only [List.getElem_toArray, List.getElem_cons_succ, List.getElem_cons_zero]); go_simp; try with_reducible rfl)
          simp only [Act.put, List.setIfInBounds_toArray, List.set_cons_zero, List.set_cons_succ]; replace hCl := hCl'; clear hCl'
          refine T.qT 7 (some 80) ?v100 rfl rfl hCl ?hy100 (fun hCl' => ?_)
          case hy100 => (intro w hSw; refine T.qVal ?_ hSw; (try dsimp only [List.getElem_toArray, List.getElem_cons_succ, List.getElem_cons_zero]); go_simp; try with_reducible rfl)
          simp only [Act.put, List.setIfInBounds_toArray, List.set_cons_zero, List.set_cons_succ]; replace hCl := hCl'; clear hCl'
          refine T.qT 10 (some 83) ?v101 rfl rfl hCl ?hy101 (fun hCl' => ?_)
          case hy101 => (intro w hSw; refine T.qVal ?_ hSw; (try dsimp only [List.getElem_toArray, List.getElem_cons_succ, List.getElem_cons_zero]); go_simp; try with_reducible rfl)
          simp only [Act.put, List.setIfInBounds_toArray, List.set_cons_zero, List.set_cons_succ]; replace hCl := hCl'; clear hCl'
          refine T.qT 8 (some 81) ?v102 rfl rfl hCl ?hy102 (fun hCl' => ?_)
          case hy102 => (intro w hSw; refine T.qVal ?_ hSw; (have fF205 := F205.out w hSw; have fF206 := F206.out w hSw; have fF207 := F207.out w hSw; obtain ⟨z1, z2⟩ := HX.out w (Ux.trans hSw)); (try dsimp only [List.getElem_toArray, List.getElem_cons_succ, List.getElem_cons_zero]); go_simp; try with_reducible rfl)
          simp only [Act.put, List.setIfInBounds_toArray, List.set_cons_zero, List.set_cons_succ]; replace hCl := hCl'; clear hCl'
          refine T.qT 11 (some 84) ?v103 rfl rfl hCl ?hy103 (fun hCl' => ?_)
          case hy103 => (intro w hSw; refine T.qVal ?_ hSw; (have fF205 := F205.out w hSw; have fF206 := F206.out w hSw; have fF207 := F207.out w hSw; obtain ⟨z1, z2⟩ := HX.out w (Ux.trans hSw)); (try dsimp only [List.getElem_toArray, List.getElem_cons_succ, List.getElem_cons_zero]); go_simp; try with_reducible rfl)
          simp only [Act.put, List.setIfInBounds_toArray, List.set_cons_zero, List.set_cons_succ]; replace hCl := hCl'; clear hCl'
          refine T.qT 9 (some 82) ?v104 rfl rfl hCl ?hy104 (fun hCl' => ?_)
          case hy104 => (intro w hSw; refine T.qVal ?_ hSw; (have fF205 := F205.out w hSw; have fF206 := F206.out w hSw; have fF207 := F207.out w hSw; obtain ⟨z1, z2⟩ := HX.out w (Ux.trans hSw)); (try dsimp only [List.getElem_toArray, List.getElem_cons_succ, List.getElem_cons_zero]); go_simp; try with_reducible rfl)
          simp only [Act.put, List.setIfInBounds_toArray, List.set_cons_zero, List.set_cons_succ]; replace hCl := hCl'; clear hCl'
          refine T.qT 12 (some 85) ?v105 rfl rfl hCl ?hy105 (fun hCl' => ?_)
          case hy105 => (intro w hSw; refine T.qVal ?_ hSw; (try dsimp only [List.getElem_toArray, List.getElem_cons_succ, List.getElem_cons_zero]); go_simp; try with_reducible rfl)
          simp only [Act.put, List.setIfInBounds_toArray, List.set_cons_zero, List.set_cons_succ]; replace hCl := hCl'; clear hCl'
          refine T.qT 13 (some 86) ?v106 rfl rfl hCl ?hy106 (fun hCl' => ?_)
          case hy106 => (intro w hSw; refine T.qVal ?_ hSw; (try dsimp only [List.getElem_toArray, List.getElem_cons_succ, List.getElem_cons_zero]); go_simp; try with_reducible rfl)
          simp only [Act.put, List.setIfInBounds_toArray, List.set_cons_zero, List.set_cons_succ]; replace hCl := hCl'; clear hCl'
          refine T.qT 14 (some 87) ?v107 rfl rfl hCl ?hy107 (fun hCl' => ?_)
          case hy107 => (intro w hSw; refine T.qVal ?_ hSw; (try dsimp only [List.getElem_toArray, List.getElem_cons_succ, List.getElem_cons_zero]); go_simp; try with_reducible rfl)
          simp only [Act.put, List.setIfInBounds_toArray, List.set_cons_zero, List.set_cons_succ]; replace hCl := hCl'; clear hCl'
          refine T.qT 15 (some 88) ?v108 rfl rfl hCl ?hy108 (fun hCl' => ?_)
          case hy108 => (intro w hSw; refine T.qVal ?_ hSw; (try dsimp only [List.getElem_toArray, List.getElem_cons_succ, List.getElem_cons_zero]); go_simp; try with_reducible rfl)
          simp only [Act.put, List.setIfInBounds_toArray, List.set_cons_zero, List.set_cons_succ]; replace hCl := hCl'; clear hCl'
          refine T.qT 16 (some 89) ?v109 rfl rfl hCl ?hy109 (fun hCl' => ?_)
          case hy109 => (intro w hSw; refine T.qVal ?_ hSw; (try dsimp only [List.getElem_toArray, List.getElem_cons_succ, List.getElem_cons_zero]); go_simp; try with_reducible rfl)
          simp only [Act.put, List.setIfInBounds_toArray, List.set_cons_zero, List.set_cons_succ]; replace hCl := hCl'; clear hCl'
          refine T.qT 17 (some 90) ?v110 rfl rfl hCl ?hy110 (fun hCl' => ?_)
          case hy110 => (intro w hSw; refine T.qVal ?_ hSw; (try dsimp only [List.getElem_toArray, List.getElem_cons_succ, List.getElem_cons_zero]); go_simp; try with_reducible rfl)
          simp only [Act.put, List.setIfInBounds_toArray, List.set_cons_zero, List.set_cons_succ]; replace hCl := hCl'; clear hCl'
          refine T.qS 18 (some 91) rfl rfl hCl (fun hCl' => ?_)
          simp only [Act.put, List.setIfInBounds_toArray, List.set_cons_zero, List.set_cons_succ]; replace hCl := hCl'; clear hCl'
          refine T.qS 20 (some 93) rfl rfl hCl (fun hCl' => ?_)
          simp only [Act.put, List.setIfInBounds_toArray, List.set_cons_zero, List.set_cons_succ]; replace hCl := hCl'; clear hCl'
          refine T.qS 23 (some 96) rfl rfl hCl (fun hCl' => ?_)
          simp only [Act.put, List.setIfInBounds_toArray, List.set_cons_zero, List.set_cons_succ]; replace hCl := hCl'; clear hCl'
          refine T.qS 19 (some 92) rfl rfl hCl (fun hCl' => ?_)
          simp only [Act.put, List.setIfInBounds_toArray, List.set_cons_zero, List.set_cons_succ]; replace hCl := hCl'; clear hCl'
          refine T.qS 24 (some 97) rfl rfl hCl (fun hCl' => ?_)
          simp only [Act.put, List.setIfInBounds_toArray, List.set_cons_zero, List.set_cons_succ]; replace hCl := hCl'; clear hCl'
          refine T.qS 21 (some 94) rfl rfl hCl (fun hCl' => ?_)
          simp only [Act.put, List.setIfInBounds_toArray, List.set_cons_zero, List.set_cons_succ]; replace hCl := hCl'; clear hCl'
          refine T.qS 22 (some 95) rfl rfl hCl (fun hCl' => ?_)
          simp only [Act.put, List.setIfInBounds_toArray, List.set_cons_zero, List.set_cons_succ]; replace hCl := hCl'; clear hCl'
          refine T.qS 25 (some 98) rfl rfl hCl (fun hCl' => ?_)
          simp only [Act.put, List.setIfInBounds_toArray, List.set_cons_zero, List.set_cons_succ]; replace hCl := hCl'; clear hCl'
          refine T.qT 26 (some 99) ?v119 rfl rfl hCl ?hy119 (fun hCl' => ?_)
          case hy119 => (intro w hSw; refine T.qVal ?_ hSw; (try dsimp only [List.getElem_toArray, List.getElem_cons_succ, List.getElem_cons_zero]); go_simp; try with_reducible rfl)
          simp only [Act.put, List.setIfInBounds_toArray, List.set_cons_zero, List.set_cons_succ]; replace hCl := hCl'; clear hCl'
          refine T.qT 27 (some 100) ?v120 rfl rfl hCl ?hy120 (fun hCl' => ?_)
          case hy120 => (intro w hSw; refine T.qVal ?_ hSw; (try dsimp only [List.getElem_toArray, List.getElem_cons_succ, List.getElem_cons_zero]); go_simp; try with_reducible rfl)
          simp only [Act.put, List.setIfInBounds_toArray, List.set_cons_zero, List.set_cons_succ]; replace hCl := hCl'; clear hCl'
          refine T.qT 28 (some 101) ?v121 rfl rfl hCl ?hy121 (fun hCl' => ?_)
          case hy121 => (intro w hSw; refine T.qVal ?_ hSw; (try dsimp only [List.getElem_toArray, List.getElem_cons_succ, List.getElem_cons_zero]); go_simp; try with_reducible rfl)
          simp only [Act.put, List.setIfInBounds_toArray, List.set_cons_zero, List.set_cons_succ]; replace hCl := hCl'; clear hCl'
          refine T.qT 29 (some 102) ?v122 rfl rfl hCl ?hy122 (fun hCl' => ?_)
          case hy122 => (intro w hSw; refine T.qVal ?_ hSw; (try dsimp only [List.getElem_toArray, List.getElem_cons_succ, List.getElem_cons_zero]); go_simp; try with_reducible rfl)
          simp only [Act.put, List.setIfInBounds_toArray, List.set_cons_zero, List.set_cons_succ]; replace hCl := hCl'; clear hCl'
          refine T.qT 30 (some 103) ?v123 rfl rfl hCl ?hy123 (fun hCl' => ?_)
          case hy123 => (intro w hSw; refine T.qVal ?_ hSw; (try dsimp only [List.getElem_toArray, List.getElem_cons_succ, List.getElem_cons_zero]); go_simp; try with_reducible rfl)
          simp only [Act.put, List.setIfInBounds_toArray, List.set_cons_zero, List.set_cons_succ]; replace hCl := hCl'; clear hCl'
          refine T.qT 31 (some 104) ?v124 rfl rfl hCl ?hy124 (fun hCl' => ?_)
          case hy124 => (intro w hSw; refine T.qVal ?_ hSw; (try dsimp only [List.getElem_toArray, List.getElem_cons_succ, List.getElem_cons_zero]); go_simp; try with_reducible rfl)
          simp only [Act.put, List.setIfInBounds_toArray, List.set_cons_zero, List.set_cons_succ]; replace hCl := hCl'; clear hCl'
          refine T.qT 32 (some 105) ?v125 rfl rfl hCl ?hy125 (fun hCl' => ?_)
          case hy125 => (intro w hSw; refine T.qVal ?_ hSw; (try dsimp only [List.getElem_toArray, List.getElem_cons_succ, List.getElem_cons_zero]); go_simp; try with_reducible rfl)
          simp only [Act.put, List.setIfInBounds_toArray, List.set_cons_zero, List.set_cons_succ]; replace hCl := hCl'; clear hCl'
          refine T.qT 34 (some 107) ?v126 rfl rfl hCl ?hy126 (fun hCl' => ?_)
          case hy126 => (intro w hSw; refine T.qVal ?_ hSw; (try dsimp only [List.getElem_toArray, List.getElem_cons_succ, List.getElem_cons_zero]); go_simp; try with_reducible rfl)
          simp only [Act.put, List.setIfInBounds_toArray, List.set_cons_zero, List.set_cons_succ]; replace hCl := hCl'; clear hCl'
          refine T.qT 37 (some 110) ?v127 rfl rfl hCl ?hy127 (fun hCl' => ?_)
          case hy127 => (intro w hSw; refine T.qVal ?_ hSw; (try dsimp only [List.getElem_toArray, List.getElem_cons_succ, List.getElem_cons_zero]); go_simp; try with_reducible rfl)
          simp only [Act.put, List.setIfInBounds_toArray, List.set_cons_zero, List.set_cons_succ]; replace hCl := hCl'; clear hCl'
          refine T.qT 33 (some 106) ?v128 rfl rfl hCl ?hy128 (fun hCl' => ?_)
          case hy128 => (intro w hSw; refine T.qVal ?_ hSw; (have fF205 := F205.out w hSw; have fF206 := F206.out w hSw; have fF207 := F207.out w hSw; obtain ⟨z1, z2⟩ := HX.out w (Ux.trans hSw)); (try dsimp only [List.getElem_toArray, List.getElem_cons_succ, List.getElem_cons_zero]); go_simp; try with_reducible rfl)
          simp only [Act.put, List.setIfInBounds_toArray, List.set_cons_zero, List.set_cons_succ]; replace hCl := hCl'; clear hCl'
          refine T.qT 38 (some 111) ?v129 rfl rfl hCl ?hy129 (fun hCl' => ?_)
          case hy129 => (intro w hSw; refine T.qVal ?_ hSw; (have fF205 := F205.out w hSw; have fF206 := F206.out w hSw; have fF207 := F207.out w hSw; obtain ⟨z1, z2⟩ := HX.out w (Ux.trans hSw)); (try dsimp only [List.getElem_toArray, List.getElem_cons_succ, List.getElem_cons_zero]); go_simp; try with_reducible rfl)
          simp only [Act.put, List.setIfInBounds_toArray, List.set_cons_zero, List.set_cons_succ]; replace hCl := hCl'; clear hCl'
          refine T.qT 35 (some 108) ?v130 rfl rfl hCl ?hy130 (fun hCl' => ?_)
          case hy130 => (intro w hSw; refine T.qVal ?_ hSw; (try dsimp only [List.getElem_toArray, List.getElem_cons_succ, List.getElem_cons_zero]); go_simp; try with_reducible rfl)
          simp only [Act.put, List.setIfInBounds_toArray, List.set_cons_zero, List.set_cons_succ]; replace hCl := hCl'; clear hCl'
          refine T.qT 36 (some 109) ?v131 rfl rfl hCl ?hy131 (fun hCl' => ?_)
          case hy131 => (intro w hSw; refine T.qVal ?_ hSw; (have fF205 := F205.out w hSw; have fF206 := F206.out w hSw; have fF207 := F207.out w hSw; obtain ⟨z1, z2⟩ := HX.out w (Ux.trans hSw)); (try dsimp only [List.getElem_toArray, List.getElem_cons_succ, List.getElem_cons_zero]); go_simp; try with_reducible rfl)
          simp only [Act.put, List.setIfInBounds_toArray, List.set_cons_zero, List.set_cons_succ]; replace hCl := hCl'; clear hCl'
          refine T.qT 39 (some 112) ?v132 rfl rfl hCl ?hy132 (fun hCl' => ?_)
          case hy132 => (intro w hSw; refine T.qVal ?_ hSw; (try dsimp only [List.getElem_toArray, List.getElem_cons_succ, List.getElem_cons_zero]); go_simp; try with_reducible rfl)
          simp only [Act.put, List.setIfInBounds_toArray, List.set_cons_zero, List.set_cons_succ]; replace hCl := hCl'; clear hCl'
          refine T.qT 40 (some 113) ?v133 rfl rfl hCl ?hy133 (fun hCl' => ?_)
          case hy133 => (intro w hSw; refine T.qVal ?_ hSw; (try dsimp only [List.getElem_toArray, List.getElem_cons_succ, List.getElem_cons_zero]); go_simp; try with_reducible rfl)
          simp only [Act.put, List.setIfInBounds_toArray, List.set_cons_zero, List.set_cons_succ]; replace hCl := hCl'; clear hCl'
          refine T.tail_intro (by kernel_rfl) (fun Y204 hY204 => ?_)
          replace U := U.trans hY204
          replace kB := hY204.blk kB
          replace ks := hY204.blk ks
          replace kt := hY204.blk kt
          replace Ux := Ux.trans hY204
          clear F205 F206 F207 hY204
          refine lastG (i := 41) (by kernel_rfl) rfl (by rfl) (by decide) (fun K hK => ?_)
          go_simp
          refine hK.out _ _ ?_
          clear hK K
          refine doneG (by kernel_rfl) ?_ _
          refine S.nrm_intro ?_
          go_wp2_with fail
          refine (HRi.out _).mono ?_
          rintro e x208 ⟨rfl, rfl⟩
          go_wp2_with fail
          refine (Ct.out _ U).mono ?_
          rintro e x209 ⟨rfl, u210⟩
          replace U := U.trans u210
          replace kB := u210.blk kB
          replace ks := u210.blk ks
          replace kt := u210.blk kt
          replace Ux := Ux.trans u210
          clear u210 
          have dkBku := blk_lt kB
          have dksku := blk_lt ks
          have dktku := blk_lt kt
          have gku := U.size
          have ku := blk_new x209 (.cells #[.int .i64 lt, .int .i64 ht] 23) _ rfl
          replace kB := blk_keep (.cells #[.int .i64 lt, .int .i64 ht] 23) kB
          replace ks := blk_keep (.cells #[.int .i64 lt, .int .i64 ht] 23) ks
          replace kt := blk_keep (.cells #[.int .i64 lt, .int .i64 ht] 23) kt
          replace U := U.alloc (.cells #[.int .i64 lt, .int .i64 ht] 23)
          replace Ux := Ux.alloc (.cells #[.int .i64 lt, .int .i64 ht] 23)
          obtain ⟨pku, hpku⟩ : ∃ z, x209.heap.size = z := ⟨_, rfl⟩
          obtain ⟨W211, hW211⟩ : ∃ z, x209.alloc (.cells #[.int .i64 lt, .int .i64 ht] 23) = z := ⟨_, rfl⟩
          rw [hpku] at ku dkBku dksku dktku gku
          rw [hW211] at ku U kB ks kt Ux
          skip
          go_wp2_with fail
          have F213 := Lib.hid (fun w (u : Up W211 w) => cellB (u.blk kB))
          have F214 := Lib.hid (fun w (u : Up W211 w) => cellB (u.blk ks))
          have F215 := Lib.hid (fun w (u : Up W211 w) => cellB (u.blk kt))
          have F216 := Lib.hid (fun w (u : Up W211 w) => cellB (u.blk ku))
          refine (wpIn_wide (n := 5)).1 ?_
          refine wpIn_nrm ?_
          refine T.regionQ (fun w' => Up W211 w') 11 1 hmx (by kernel_rfl) (by kernel_rfl) ((Up.refl W211).drew) (fun hCl => ?_)
          refine T.qT 0 (some 126) ?v134 rfl rfl hCl ?hy134 (fun hCl' => ?_)
          case hy134 => (intro w hSw; refine T.qVal ?_ hSw; (try dsimp only [List.getElem_toArray, List.getElem_cons_succ, List.getElem_cons_zero]); go_simp; try with_reducible rfl)
          simp only [Act.put, List.setIfInBounds_toArray, List.set_cons_zero, List.set_cons_succ]; replace hCl := hCl'; clear hCl'
          refine T.qT 1 (some 127) ?v135 rfl rfl hCl ?hy135 (fun hCl' => ?_)
          case hy135 => (intro w hSw; refine T.qVal ?_ hSw; (try dsimp only [List.getElem_toArray, List.getElem_cons_succ, List.getElem_cons_zero]); go_simp; try with_reducible rfl)
          simp only [Act.put, List.setIfInBounds_toArray, List.set_cons_zero, List.set_cons_succ]; replace hCl := hCl'; clear hCl'
          refine T.qT 2 (some 128) ?v136 rfl rfl hCl ?hy136 (fun hCl' => ?_)
          case hy136 => (intro w hSw; refine T.qVal ?_ hSw; (try dsimp only [List.getElem_toArray, List.getElem_cons_succ, List.getElem_cons_zero]); go_simp; try with_reducible rfl)
          simp only [Act.put, List.setIfInBounds_toArray, List.set_cons_zero, List.set_cons_succ]; replace hCl := hCl'; clear hCl'
          refine T.qT 3 (some 129) ?v137 rfl rfl hCl ?hy137 (fun hCl' => ?_)
          case hy137 => (intro w hSw; refine T.qVal ?_ hSw; (have fF213 := F213.out w hSw; have fF214 := F214.out w hSw; have fF215 := F215.out w hSw; have fF216 := F216.out w hSw; obtain ⟨z1, z2⟩ := HX.out w (Ux.trans hSw)); (try dsimp only [List.getElem_toArray, List.getElem_cons_succ, List.getElem_cons_zero]); go_simp; try with_reducible rfl)
          simp only [Act.put, List.setIfInBounds_toArray, List.set_cons_zero, List.set_cons_succ]; replace hCl := hCl'; clear hCl'
          refine T.qT 4 (some 130) ?v138 rfl rfl hCl ?hy138 (fun hCl' => ?_)
          case hy138 => (intro w hSw; refine T.qVal ?_ hSw; (try dsimp only [List.getElem_toArray, List.getElem_cons_succ, List.getElem_cons_zero]); go_simp; try with_reducible rfl)
          simp only [Act.put, List.setIfInBounds_toArray, List.set_cons_zero, List.set_cons_succ]; replace hCl := hCl'; clear hCl'
          refine T.qT 6 (some 132) ?v139 rfl rfl hCl ?hy139 (fun hCl' => ?_)
          case hy139 => (intro w hSw; refine T.qVal ?_ hSw; (try dsimp only [List.getElem_toArray, List.getElem_cons_succ, List.getElem_cons_zero]); go_simp; try with_reducible rfl)
          simp only [Act.put, List.setIfInBounds_toArray, List.set_cons_zero, List.set_cons_succ]; replace hCl := hCl'; clear hCl'
          refine T.qT 5 (some 131) ?v140 rfl rfl hCl ?hy140 (fun hCl' => ?_)
          case hy140 => (intro w hSw; refine T.qVal ?_ hSw; (have fF213 := F213.out w hSw; have fF214 := F214.out w hSw; have fF215 := F215.out w hSw; have fF216 := F216.out w hSw; obtain ⟨z1, z2⟩ := HX.out w (Ux.trans hSw)); (try dsimp only [List.getElem_toArray, List.getElem_cons_succ, List.getElem_cons_zero]); go_simp; try with_reducible rfl)
          simp only [Act.put, List.setIfInBounds_toArray, List.set_cons_zero, List.set_cons_succ]; replace hCl := hCl'; clear hCl'
          refine T.qT 7 (some 133) ?v141 rfl rfl hCl ?hy141 (fun hCl' => ?_)
          case hy141 => (intro w hSw; refine T.qVal ?_ hSw; (try dsimp only [List.getElem_toArray, List.getElem_cons_succ, List.getElem_cons_zero]); go_simp; try with_reducible rfl)
          simp only [Act.put, List.setIfInBounds_toArray, List.set_cons_zero, List.set_cons_succ]; replace hCl := hCl'; clear hCl'
          refine T.qT 8 (some 134) ?v142 rfl rfl hCl ?hy142 (fun hCl' => ?_)
          case hy142 => (intro w hSw; refine T.qVal ?_ hSw; (have fF213 := F213.out w hSw; have fF214 := F214.out w hSw; have fF215 := F215.out w hSw; have fF216 := F216.out w hSw; obtain ⟨z1, z2⟩ := HX.out w (Ux.trans hSw)); (try dsimp only [List.getElem_toArray, List.getElem_cons_succ, List.getElem_cons_zero]); go_simp; try with_reducible rfl)
          simp only [Act.put, List.setIfInBounds_toArray, List.set_cons_zero, List.set_cons_succ]; replace hCl := hCl'; clear hCl'
          refine T.qT 9 (some 135) ((.bool true)) rfl rfl hCl ?hy143 (fun hCl' => ?_)
          case hy143 => (intro w hSw; (have fF213 := F213.out w hSw; have fF214 := F214.out w hSw; have fF215 := F215.out w hSw; have fF216 := F216.out w hSw; obtain ⟨z1, z2⟩ := HX.out w (Ux.trans hSw)); (try dsimp only [List.getElem_toArray, List.getElem_cons_succ, List.getElem_cons_zero]); go_simp; (refine (callsIn_wide.2 (HHas.out _ w HP2.out)).mono ?_; rintro e w3 ⟨rfl, u3⟩; exact ⟨rfl, hSw.trans u3⟩))
          simp only [Act.put, List.setIfInBounds_toArray, List.set_cons_zero, List.set_cons_succ]
          replace hCl := hCl'; clear hCl'
          refine T.qT 10 (some 136) ?v144 rfl rfl hCl ?hy144 (fun hCl' => ?_)
          case hy144 => (intro w hSw; refine T.qVal ?_ hSw; (try dsimp only [List.getElem_toArray, List.getElem_cons_succ, List.getElem_cons_zero]); go_simp; try with_reducible rfl)
          simp only [Act.put, List.setIfInBounds_toArray, List.set_cons_zero, List.set_cons_succ]; replace hCl := hCl'; clear hCl'
          refine T.tail_intro (by kernel_rfl) (fun Y212 hY212 => ?_)
          replace U := U.trans hY212
          replace kB := hY212.blk kB
          replace ks := hY212.blk ks
          replace kt := hY212.blk kt
          replace ku := hY212.blk ku
          replace Ux := Ux.trans hY212
          clear F213 F214 F215 F216 hY212
          refine lastG (i := 11) (by kernel_rfl) rfl (by rfl) (by decide) (fun K hK => ?_)
          go_simp
          refine hK.out _ _ ?_
          clear hK K
          refine doneG (by kernel_rfl) ?_ _
          refine S.nrm_intro ?_
          go_wp2_with fail
          go_roundw
          case rel => exact ⟨2, .inr (.inr rfl), by go_num, U, kB, ks⟩
          case measure => (simp [intOf])
        · go_wp2_with fail
          refine (HW.out _).mono ?_
          rintro e x ⟨rfl, u⟩
          go_wp2
          go_ret
          exact ⟨rfl, U.trans u⟩
end

end Go.Proofs.Ytlpkheoljbdajaa
