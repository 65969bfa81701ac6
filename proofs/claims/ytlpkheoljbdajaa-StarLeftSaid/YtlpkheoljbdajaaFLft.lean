import Derived.Test.YtlpkheoljbdajaaFws
import Derived.Test.YtlpkheoljbdajaaSou
import Derived.Test.YtlpkheoljbdajaaHeQ
/- The law StarLeft. -/
namespace Go.Proofs.Ytlpkheoljbdajaa
open Go.RowKit Go.Shelf
attribute [local go_sem] Oper.semAt_some

theorem T.shl_run : ∀ n : Nat, n ≤ 10 → IntKind.i64.wrap (2 ^ n) = 2 ^ n := by decide
section
variable {bl bh rl rh : Int} {aP aQ aL : Option Addr} {nP cP nQ cQ nL cL : Nat} {ps qs : List (Int × Int)} {ls : List T.T5}
set_option maxRecDepth 100000 in
set_option maxHeartbeats 8000000 in
theorem starLeft_any {M z0 : Int} {w : World} (I : Sps w (.slice aP nP cP) ps) (J : Sps w (.slice aQ nQ cQ) qs) (K : Lks w (.slice aL nL cL) ls) :
    Calls Try.prog 13 #[BoV M bl bh rl rh (.slice aP nP cP) (.slice aQ nQ cQ) (.slice aL nL cL), .int .i64 z0] w fun e w' => e = .returned (.bool true) ∧ Up w w' := by
  have U := ((Up.refl w).alloc (.cells (BoC M bl bh rl rh (.slice aP nP cP) (.slice aQ nQ cQ) (.slice aL nL cL)) 27))
  have HW := Lib.hid (fun w => l_works_any w)
  cases hv : T.valid M bl bh rl rh ps qs ls with
  | false =>
    have HWr := Lib.hid (fun w' (u : Up w w') => Wrong_bad (I.up u) (J.up u) (K.up u) hv)
    have HS := Lib.hid (fun w' (u : Up w w') => l_sound_no (I.up u) (J.up u) (K.up u) hv)
    have kC := blk_new w (.cells (BoC M bl bh rl rh (.slice aP nP cP) (.slice aQ nQ cQ) (.slice aL nL cL)) 27) _ rfl
    clear hv I J K
    go_enter Try.func13, Try.ntmps13
    go_wp2_with fail
    refine (HWr.out _ U).mono ?_
    rintro e w1 ⟨rfl, u1⟩
    replace kC := u1.blk kC
    replace U := U.trans u1
    clear u1
    go_wp2_with fail
    refine (HS.out _ U).mono ?_
    rintro e w2 ⟨rfl, u2⟩
    replace U := U.trans u2
    go_wp2_with fail
    refine (HW.out _).mono ?_
    rintro e w3 ⟨rfl, u3⟩
    go_wp2
    go_ret
    exact ⟨rfl, U.trans u3⟩
  | true =>
    obtain ⟨N, rfl⟩ := T.valid_N hv
    obtain ⟨⟨hN, hB, hR⟩, ⟨h4, h5, h10⟩, hP, hQ, hL⟩ := T.valid_parts hv
    have hn := K.len
    subst hn
    have HS := Lib.hid (fun w' (u : Up w w') => l_sound_yes (I.up u) (J.up u) (K.up u) hv)
    have hmx : Try.prog.follows .mixedOrders = true := by kernel_rfl
    have HWr := Lib.hid (fun w' (u : Up w w') => Wrong_ok (I.up u) (J.up u) (K.up u) hv)
    have HN := Lib.hid (fun w' (u : Up w w') (vl : Value) (zs : List Int) (IL : Ints w' vl zs) => l_without_any (M := (N : Int)) (bl := bl) (bh := bh) (rl := rl) (rh := rh) (aP := aP) (nP := nP) (cP := cP) (aQ := aQ) (nQ := nQ) (cQ := cQ) (K.up u) IL h10)
    have wz : IntKind.i64.wrap (2 ^ ls.length) = 2 ^ ls.length := T.shl_run _ (by omega)
    have h2n : 0 < 2 ^ ls.length ∧ 2 ^ ls.length ≤ 1024 := ⟨Nat.pow_pos (by decide), Nat.le_trans (Nat.pow_le_pow_right (n := 2) (by decide) h10) (by decide)⟩
    obtain ⟨two, htwo⟩ : ∃ x : Nat, 2 ^ ls.length = x := ⟨_, rfl⟩
    have etwo : (2 : Int) ^ ls.length = (two : Int) := by rw [← htwo]; simp
    rw [htwo] at h2n
    have wt : IntKind.i64.wrap (two : Int) = (two : Int) := IntWalk.i64_in _ (by omega)
    have HRz := Lib.hid (fun w => B_Rest_any z0 (two : Int) w (by omega) (by omega))
    have az := Int.emod_nonneg z0 (b := (two : Int)) (by omega)
    have bz := Int.emod_lt_of_pos z0 (b := (two : Int)) (by omega)
    generalize z0 % (two : Int) = zz at *
    obtain ⟨zz, rfl⟩ := Int.eq_ofNat_of_zero_le az
    have hzt := T.bits_high (z := zz) (n := ls.length) (by omega)
    have HL := Lib.hid (fun w => B_List_any zz ls.length (by omega) h10 w)
    obtain ⟨t, ht⟩ : ∃ t : Nat → Bool, (fun k => zz.testBit k) = t := ⟨_, rfl⟩
    rw [ht] at HL hzt
    obtain ⟨LW, hLW⟩ : ∃ l, T.lst (T.fewS (T.canP N bl bh rl rh ps qs ls) ls.length) 10 = l := ⟨_, rfl⟩
    rw [hLW] at HWr
    obtain ⟨p1, p2, p3, p4⟩ := T.left hv hLW hzt
    obtain ⟨LO, hLO⟩ : ∃ l, T.lst t ls.length = l := ⟨_, rfl⟩
    rw [hLO] at HL p4
    have i0 : (0 : Int) ≤ 0 ∧ (0 : Int) < N := by omega
    have al := T.al_night (np := ps.length) (nq := qs.length) i0
    obtain ⟨lf, hf, ef, tf, _⟩ := T.Tells.ex (o := T.o0) (m := 0) (i := 1 + 0) hv T.al_0 al
    obtain ⟨lg, hg, eg, tg, _⟩ := T.Tells.ex (o := T.o0) (m := 0) (i := 1 + 0) (T.kpt_valid hv LW) T.al_0 al
    obtain ⟨lh, hh, eh, th, _⟩ := T.Tells.ex (o := T.o0) (m := 0) (i := 1 + 0) (T.kpt_valid hv LO) T.al_0 al
    have Cf := Lib.hid (fun w' (u : Up w w') => Offset_tells hv i0 tf (I.up u) (J.up u) (K.up u))
    have Cg := Lib.hid (fun w' (u : Up w w') (a : Option Addr) (n c : Nat) (J' : Lks w' (.slice a n c) (T.kpt LW ls ls.length)) => Offset_tells (T.kpt_valid hv LW) i0 tg (I.up u) (J.up u) J')
    have Ch := Lib.hid (fun w' (u : Up w w') (a : Option Addr) (n c : Nat) (J' : Lks w' (.slice a n c) (T.kpt LO ls ls.length)) => Offset_tells (T.kpt_valid hv LO) i0 th (I.up u) (J.up u) J')
    obtain rfl : eg = 0 := by
      obtain ⟨y, hy⟩ := p3
      exact tg.has hy
    have hb : (LW.length = 0 ∧ ef = 0) ∨ (LW.length ≠ 0 ∧ ef = 32) := by
      rcases tf.err with rfl | ⟨rfl, _⟩
      · exact .inl ⟨p2.2 tf.ex0, rfl⟩
      · exact .inr ⟨fun c => by obtain ⟨y, hy⟩ := p2.1 c; exact absurd (tf.has hy) (by decide), rfl⟩
    obtain ⟨bv, hbv⟩ : ∃ b, T.ahd LO LW = b := ⟨_, rfl⟩
    rw [hbv] at p4
    have hc : LW.length < LO.length ∨ (LO.length = LW.length ∧ bv = false) ∨ ((LO.length < LW.length ∨ LO.length = LW.length ∧ bv = true) ∧ eh = 32) := by
      rcases th.err with rfl | ⟨rfl, _⟩
      · rcases p4 th.ex0 with q | q
        · exact .inl q
        · exact .inr (.inl q)
      · rcases Nat.lt_trichotomy LW.length LO.length with q | q | q
        · exact .inl q
        · cases bv with
          | false => exact .inr (.inl ⟨q.symm, rfl⟩)
          | true => exact .inr (.inr ⟨.inr ⟨q.symm, rfl⟩, rfl⟩)
        · exact .inr (.inr ⟨.inl q, rfl⟩)
    have HCl := Lib.hid p1
    have HAh := Lib.hid hbv
    clear p1 p2 p3 p4 tf tg th hLW hLO ht hzt hbv al i0 hN hB hR h4 h5 hP hQ hL hv I J K htwo az
    skip
    go_enter Try.func13, Try.ntmps13
    obtain ⟨q0, e0⟩ : ∃ x, w.heap.size = x := ⟨_, rfl⟩
    have kB := (blk_new w (.cells (BoC (N : Int) bl bh rl rh (.slice aP nP cP) (.slice aQ nQ cQ) (.slice aL ls.length cL)) 27) q0 e0.symm)
    go_wp2_with fail
    refine (HWr.out _ U).mono ?_
    rintro e x0 ⟨⟨v, rfl, IW⟩, u⟩
    replace U := U.trans u
    replace kB := u.blk kB
    clear u HWr
    obtain ⟨aw, cw, rfl, _, _, _⟩ := id IW.is
    go_wp2_with fail
    refine (HS.out _ U).mono ?_
    rintro e x1 ⟨rfl, u2⟩
    replace U := U.trans u2
    replace kB := u2.blk kB
    replace IW := IW.up u2
    clear u2 HS
    rcases hb with ⟨b1, rfl⟩ | ⟨b1, rfl⟩
    · skip
      skip
      have d1 : ((LW.length : Int) == 0) = true := by rw [beq_iff_eq]; omega
      clear b1
      go_wp2_with fail
      refine (Cf.out _ U).mono ?_
      rintro e x51 ⟨rfl, u52⟩
      replace U := U.trans u52
      replace kB := u52.blk kB
      replace IW := IW.up u52
      clear u52 
      have dkBkf := blk_lt kB
      have gkf := U.size
      have kf := blk_new x51 (.cells #[.int .i64 lf, .int .i64 hf] 23) _ rfl
      replace kB := blk_keep (.cells #[.int .i64 lf, .int .i64 hf] 23) kB
      replace U := U.alloc (.cells #[.int .i64 lf, .int .i64 hf] 23)
      replace IW := IW.up ((Up.refl x51).alloc (.cells #[.int .i64 lf, .int .i64 hf] 23))
      obtain ⟨pkf, hpkf⟩ : ∃ z, x51.heap.size = z := ⟨_, rfl⟩
      obtain ⟨W53, hW53⟩ : ∃ z, x51.alloc (.cells #[.int .i64 lf, .int .i64 hf] 23) = z := ⟨_, rfl⟩
      rw [hpkf] at kf dkBkf gkf
      rw [hW53] at kf U kB IW
      go_wp2_with fail
      clear hpkf hW53
      refine (HN.out _ U _ _ IW).mono ?_
      rintro e x7 ⟨⟨a7, n7, c7, rfl, J7⟩, u⟩
      replace U := U.trans u
      replace kB := u.blk kB
      replace kf := u.blk kf
      replace IW := IW.up u
      clear u
      go_wp2_with fail
      refine (Cg.out _ U _ _ _ J7).mono ?_
      rintro e x54 ⟨rfl, u55⟩
      replace U := U.trans u55
      replace kB := u55.blk kB
      replace kf := u55.blk kf
      replace IW := IW.up u55
      clear u55 J7
      have dkBkg := blk_lt kB
      have dkfkg := blk_lt kf
      have gkg := U.size
      have kg := blk_new x54 (.cells #[.int .i64 lg, .int .i64 hg] 23) _ rfl
      replace kB := blk_keep (.cells #[.int .i64 lg, .int .i64 hg] 23) kB
      replace kf := blk_keep (.cells #[.int .i64 lg, .int .i64 hg] 23) kf
      replace U := U.alloc (.cells #[.int .i64 lg, .int .i64 hg] 23)
      replace IW := IW.up ((Up.refl x54).alloc (.cells #[.int .i64 lg, .int .i64 hg] 23))
      obtain ⟨pkg, hpkg⟩ : ∃ z, x54.heap.size = z := ⟨_, rfl⟩
      obtain ⟨W56, hW56⟩ : ∃ z, x54.alloc (.cells #[.int .i64 lg, .int .i64 hg] 23) = z := ⟨_, rfl⟩
      rw [hpkg] at kg dkBkg dkfkg gkg
      rw [hW56] at kg U kB kf IW
      go_wp2_with fail
      clear hpkg hW56
      have CC := Lib.hid (show ∀ w', Up W56 w' → Calls Try.prog 48 #[.slice aw LW.length cw, .int .i64 (ls.length : Int)] w' fun e w'' => e = .returned (.bool true) ∧ w' = w'' from fun w' u => by have := B_Climbs_any (IW.up u) ls.length (by omega); rw [HCl.out] at this; exact this)
      have Uz := Up.refl W56
      refine (CC.out _ Uz).mono ?_
      rintro e x57 ⟨rfl, rfl⟩
      clear CC HCl
      clear kf kg
      go_wp2_with fail
      have F59 := Lib.hid (fun w (u : Up W56 w) => cellB (u.blk kB))
      refine (wpIn_wide (n := 5)).1 ?_
      refine wpIn_nrm ?_
      refine T.regionQ (fun w' => Up W56 w') 9 2 hmx (by kernel_rfl) (by kernel_rfl) ((Up.refl W56).drew) (fun hCl => ?_)
      refine T.qT 0 (some 64) ?v1 rfl rfl hCl ?hy1 (fun hCl' => ?_)
      case hy1 => (intro w hSw; refine T.qVal ?_ hSw; (try dsimp only [List.getElem_toArray, List.getElem_cons_succ, List.getElem_cons_zero]); go_simp; try with_reducible rfl)
      simp only [Act.put, List.setIfInBounds_toArray, List.set_cons_zero, List.set_cons_succ]; replace hCl := hCl'; clear hCl'
      refine T.qT 1 (some 65) ?v2 rfl rfl hCl ?hy2 (fun hCl' => ?_)
      case hy2 => (intro w hSw; refine T.qVal ?_ hSw; (try dsimp only [List.getElem_toArray, List.getElem_cons_succ, List.getElem_cons_zero]); go_simp; try with_reducible rfl)
      simp only [Act.put, List.setIfInBounds_toArray, List.set_cons_zero, List.set_cons_succ]; replace hCl := hCl'; clear hCl'
      refine T.qT 6 (some 70) ?v3 rfl rfl hCl ?hy3 (fun hCl' => ?_)
      case hy3 => (intro w hSw; refine T.qVal ?_ hSw; (try dsimp only [List.getElem_toArray, List.getElem_cons_succ, List.getElem_cons_zero]); go_simp; try with_reducible rfl)
      simp only [Act.put, List.setIfInBounds_toArray, List.set_cons_zero, List.set_cons_succ]; replace hCl := hCl'; clear hCl'
      refine T.qT 2 (some 66) ?v4 rfl rfl hCl ?hy4 (fun hCl' => ?_)
      case hy4 => (intro w hSw; refine T.qVal ?_ hSw; (have fF59 := F59.out w hSw); (try dsimp only [List.getElem_toArray, List.getElem_cons_succ, List.getElem_cons_zero]); go_simp; try with_reducible rfl)
      simp only [Act.put, List.setIfInBounds_toArray, List.set_cons_zero, List.set_cons_succ]; replace hCl := hCl'; clear hCl'
      refine T.qT 7 (some 71) ?v5 rfl rfl hCl ?hy5 (fun hCl' => ?_)
      case hy5 => (intro w hSw; refine T.qVal ?_ hSw; (have fF59 := F59.out w hSw); (try dsimp only [List.getElem_toArray, List.getElem_cons_succ, List.getElem_cons_zero]); go_simp; try with_reducible rfl)
      simp only [Act.put, List.setIfInBounds_toArray, List.set_cons_zero, List.set_cons_succ]; replace hCl := hCl'; clear hCl'
      refine T.qT 3 (some 67) ?v6 rfl rfl hCl ?hy6 (fun hCl' => ?_)
      case hy6 => (intro w hSw; refine T.qVal ?_ hSw; (have fF59 := F59.out w hSw); (try dsimp only [List.getElem_toArray, List.getElem_cons_succ, List.getElem_cons_zero]); go_simp; try with_reducible rfl)
      simp only [Act.put, List.setIfInBounds_toArray, List.set_cons_zero, List.set_cons_succ]; replace hCl := hCl'; clear hCl'
      refine T.qT 8 (some 72) ?v7 rfl rfl hCl ?hy7 (fun hCl' => ?_)
      case hy7 => (intro w hSw; refine T.qVal ?_ hSw; (have fF59 := F59.out w hSw); (try dsimp only [List.getElem_toArray, List.getElem_cons_succ, List.getElem_cons_zero]); go_simp; try with_reducible rfl)
      simp only [Act.put, List.setIfInBounds_toArray, List.set_cons_zero, List.set_cons_succ]; replace hCl := hCl'; clear hCl'
      refine T.qTake (i := 4) (d := (some 68)) (v := ((.int .i64 (two : Int)))) rfl rfl (by kernel_rfl) (by decide) hCl (by kernel_rfl) (by kernel_rfl) (by kernel_rfl) (by rfl) ?hy8 (fun _ _ _ => trivial) (fun hCl' => ?_)
      case hy8 => (intro w hSw; (have fF59 := F59.out w hSw); (try dsimp only [List.getElem_toArray, List.getElem_cons_succ, List.getElem_cons_zero]); refine T.qVal ?_ hSw; go_simp)
      simp only [Act.put, List.setIfInBounds_toArray, List.set_cons_zero, List.set_cons_succ]
      replace hCl := hCl'; clear hCl'
      refine T.qT 5 (some 69) ((.int .i64 (zz : Int))) rfl rfl hCl ?hy9 (fun hCl' => ?_)
      case hy9 => (intro w hSw; (have fF59 := F59.out w hSw); (try dsimp only [List.getElem_toArray, List.getElem_cons_succ, List.getElem_cons_zero]); go_simp; (refine (callsIn_wide.2 (HRz.out w)).mono ?_; rintro e w3 ⟨rfl, rfl⟩; exact ⟨rfl, hSw⟩))
      simp only [Act.put, List.setIfInBounds_toArray, List.set_cons_zero, List.set_cons_succ]
      replace hCl := hCl'; clear hCl'
      refine T.tail_intro (by kernel_rfl) (fun Y58 hY58 => ?_)
      replace U := U.trans hY58
      replace kB := hY58.blk kB
      replace IW := IW.up hY58
      replace Uz := Uz.trans hY58
      clear F59 hY58
      refine lastG (i := 9) (by kernel_rfl) rfl (by rfl) (by decide) (fun K hK => ?_)
      go_simp
      refine ⟨trivial, (callsIn_wide.2 (HL.out _)).mono ?_⟩
      rintro e xo ⟨⟨vo, rfl, ILo⟩, u⟩
      replace U := U.trans u
      replace Uz := Uz.trans u
      replace kB := u.blk kB
      replace IW := IW.up u
      clear u HL
      refine hK.out _ _ ?_
      clear hK K
      refine lastG (i := 10) (by kernel_rfl) rfl (by rfl) (by decide) (fun K hK => ?_)
      go_simp
      refine hK.out _ _ ?_
      clear hK K
      refine doneG (by kernel_rfl) ?_ _
      refine S.nrm_intro ?_
      clear HRz wz
      obtain ⟨ao, co, rfl, _, _, _⟩ := id ILo.is
      have CA := Lib.hid (show ∀ w', Up xo w' → Calls Try.prog 50 #[.slice ao LO.length co, .slice aw LW.length cw] w' fun e w'' => e = .returned (.bool bv) ∧ Up w' w'' from fun w' u => by have := B_Ahead_any (ILo.up u) (IW.up u); rw [HAh.out] at this; exact this)
      clear HAh
      have Uy := Up.refl xo
      rcases hc with hc | ⟨hc, rfl⟩ | ⟨hc | ⟨hc, rfl⟩, rfl⟩
      · skip
        have d2 : decide ((LO.length : Int) > (LW.length : Int)) = true := decide_eq_true (by omega)
        have d3 : ((LO.length : Int) == (LW.length : Int)) = false := by rw [beq_eq_false_iff_ne]; omega
        have d4 : (LW.length : Int) < (LO.length : Int) := by omega
        clear hc
        go_wp2_with fail
        refine (HW.out _).mono ?_
        rintro e x160 ⟨rfl, u161⟩
        replace U := U.trans u161
        replace kB := u161.blk kB
        replace IW := IW.up u161
        replace ILo := ILo.up u161
        replace Uz := Uz.trans u161
        replace Uy := Uy.trans u161
        clear u161 
        go_wp2
        go_ret
        exact ⟨rfl, U⟩
      · skip
        have d2 : decide ((LO.length : Int) > (LW.length : Int)) = false := decide_eq_false (by omega)
        have d3 : ((LO.length : Int) == (LW.length : Int)) = true := by rw [beq_iff_eq]; omega
        have d4 : ¬ (LW.length : Int) < (LO.length : Int) := by omega
        clear hc
        go_wp2_with fail
        refine (CA.out _ Uy).mono ?_
        rintro e x160 ⟨rfl, u161⟩
        replace U := U.trans u161
        replace kB := u161.blk kB
        replace IW := IW.up u161
        replace ILo := ILo.up u161
        replace Uz := Uz.trans u161
        replace Uy := Uy.trans u161
        clear u161 
        go_wp2_with fail
        refine (HW.out _).mono ?_
        rintro e x162 ⟨rfl, u163⟩
        replace U := U.trans u163
        replace kB := u163.blk kB
        replace IW := IW.up u163
        replace ILo := ILo.up u163
        replace Uz := Uz.trans u163
        replace Uy := Uy.trans u163
        clear u163 
        go_wp2
        go_ret
        exact ⟨rfl, U⟩
      · skip
        have d2 : decide ((LO.length : Int) > (LW.length : Int)) = false := decide_eq_false (by omega)
        have d3 : ((LO.length : Int) == (LW.length : Int)) = false := by rw [beq_eq_false_iff_ne]; omega
        have d4 : ¬ (LW.length : Int) < (LO.length : Int) := by omega
        clear hc
        go_wp2_with fail
        refine (HN.out _ U _ _ ILo).mono ?_
        rintro e x9 ⟨⟨a9, n9, c9, rfl, J9⟩, u⟩
        replace U := U.trans u
        replace kB := u.blk kB
        replace IW := IW.up u
        replace ILo := ILo.up u
        replace Uz := Uz.trans u
        replace Uy := Uy.trans u
        clear u
        go_wp2_with fail
        refine (Ch.out _ U _ _ _ J9).mono ?_
        rintro e x160 ⟨rfl, u161⟩
        replace U := U.trans u161
        replace kB := u161.blk kB
        replace IW := IW.up u161
        replace ILo := ILo.up u161
        replace Uz := Uz.trans u161
        replace Uy := Uy.trans u161
        clear u161 J9
        go_wp2_with fail
        refine (HW.out _).mono ?_
        rintro e x162 ⟨rfl, u163⟩
        replace U := U.trans u163
        replace kB := u163.blk kB
        replace IW := IW.up u163
        replace ILo := ILo.up u163
        replace Uz := Uz.trans u163
        replace Uy := Uy.trans u163
        clear u163 
        go_wp2
        go_ret
        exact ⟨rfl, U⟩
      · skip
        have d2 : decide ((LO.length : Int) > (LW.length : Int)) = false := decide_eq_false (by omega)
        have d3 : ((LO.length : Int) == (LW.length : Int)) = true := by rw [beq_iff_eq]; omega
        have d4 : ¬ (LW.length : Int) < (LO.length : Int) := by omega
        clear hc
        go_wp2_with fail
        refine (CA.out _ Uy).mono ?_
        rintro e x160 ⟨rfl, u161⟩
        replace U := U.trans u161
        replace kB := u161.blk kB
        replace IW := IW.up u161
        replace ILo := ILo.up u161
        replace Uz := Uz.trans u161
        replace Uy := Uy.trans u161
        clear u161 
        go_wp2_with fail
        refine (HN.out _ U _ _ ILo).mono ?_
        rintro e x9 ⟨⟨a9, n9, c9, rfl, J9⟩, u⟩
        replace U := U.trans u
        replace kB := u.blk kB
        replace IW := IW.up u
        replace ILo := ILo.up u
        replace Uz := Uz.trans u
        replace Uy := Uy.trans u
        clear u
        go_wp2_with fail
        refine (Ch.out _ U _ _ _ J9).mono ?_
        rintro e x162 ⟨rfl, u163⟩
        replace U := U.trans u163
        replace kB := u163.blk kB
        replace IW := IW.up u163
        replace ILo := ILo.up u163
        replace Uz := Uz.trans u163
        replace Uy := Uy.trans u163
        clear u163 J9
        go_wp2_with fail
        refine (HW.out _).mono ?_
        rintro e x164 ⟨rfl, u165⟩
        replace U := U.trans u165
        replace kB := u165.blk kB
        replace IW := IW.up u165
        replace ILo := ILo.up u165
        replace Uz := Uz.trans u165
        replace Uy := Uy.trans u165
        clear u165 
        go_wp2
        go_ret
        exact ⟨rfl, U⟩
    · skip
      skip
      have d1 : ((LW.length : Int) == 0) = false := by rw [beq_eq_false_iff_ne]; omega
      clear b1
      go_wp2_with fail
      refine (Cf.out _ U).mono ?_
      rintro e x51 ⟨rfl, u52⟩
      replace U := U.trans u52
      replace kB := u52.blk kB
      replace IW := IW.up u52
      clear u52 
      have dkBkf := blk_lt kB
      have gkf := U.size
      have kf := blk_new x51 (.cells #[.int .i64 lf, .int .i64 hf] 23) _ rfl
      replace kB := blk_keep (.cells #[.int .i64 lf, .int .i64 hf] 23) kB
      replace U := U.alloc (.cells #[.int .i64 lf, .int .i64 hf] 23)
      replace IW := IW.up ((Up.refl x51).alloc (.cells #[.int .i64 lf, .int .i64 hf] 23))
      obtain ⟨pkf, hpkf⟩ : ∃ z, x51.heap.size = z := ⟨_, rfl⟩
      obtain ⟨W53, hW53⟩ : ∃ z, x51.alloc (.cells #[.int .i64 lf, .int .i64 hf] 23) = z := ⟨_, rfl⟩
      rw [hpkf] at kf dkBkf gkf
      rw [hW53] at kf U kB IW
      go_wp2_with fail
      clear hpkf hW53
      refine (HN.out _ U _ _ IW).mono ?_
      rintro e x7 ⟨⟨a7, n7, c7, rfl, J7⟩, u⟩
      replace U := U.trans u
      replace kB := u.blk kB
      replace kf := u.blk kf
      replace IW := IW.up u
      clear u
      go_wp2_with fail
      refine (Cg.out _ U _ _ _ J7).mono ?_
      rintro e x54 ⟨rfl, u55⟩
      replace U := U.trans u55
      replace kB := u55.blk kB
      replace kf := u55.blk kf
      replace IW := IW.up u55
      clear u55 J7
      have dkBkg := blk_lt kB
      have dkfkg := blk_lt kf
      have gkg := U.size
      have kg := blk_new x54 (.cells #[.int .i64 lg, .int .i64 hg] 23) _ rfl
      replace kB := blk_keep (.cells #[.int .i64 lg, .int .i64 hg] 23) kB
      replace kf := blk_keep (.cells #[.int .i64 lg, .int .i64 hg] 23) kf
      replace U := U.alloc (.cells #[.int .i64 lg, .int .i64 hg] 23)
      replace IW := IW.up ((Up.refl x54).alloc (.cells #[.int .i64 lg, .int .i64 hg] 23))
      obtain ⟨pkg, hpkg⟩ : ∃ z, x54.heap.size = z := ⟨_, rfl⟩
      obtain ⟨W56, hW56⟩ : ∃ z, x54.alloc (.cells #[.int .i64 lg, .int .i64 hg] 23) = z := ⟨_, rfl⟩
      rw [hpkg] at kg dkBkg dkfkg gkg
      rw [hW56] at kg U kB kf IW
      go_wp2_with fail
      clear hpkg hW56
      have CC := Lib.hid (show ∀ w', Up W56 w' → Calls Try.prog 48 #[.slice aw LW.length cw, .int .i64 (ls.length : Int)] w' fun e w'' => e = .returned (.bool true) ∧ w' = w'' from fun w' u => by have := B_Climbs_any (IW.up u) ls.length (by omega); rw [HCl.out] at this; exact this)
      have Uz := Up.refl W56
      refine (CC.out _ Uz).mono ?_
      rintro e x57 ⟨rfl, rfl⟩
      clear CC HCl
      clear kf kg
      go_wp2_with fail
      have F59 := Lib.hid (fun w (u : Up W56 w) => cellB (u.blk kB))
      refine (wpIn_wide (n := 5)).1 ?_
      refine wpIn_nrm ?_
      refine T.regionQ (fun w' => Up W56 w') 9 2 hmx (by kernel_rfl) (by kernel_rfl) ((Up.refl W56).drew) (fun hCl => ?_)
      refine T.qT 0 (some 64) ?v10 rfl rfl hCl ?hy10 (fun hCl' => ?_)
      case hy10 => (intro w hSw; refine T.qVal ?_ hSw; (try dsimp only [List.getElem_toArray, List.getElem_cons_succ, List.getElem_cons_zero]); go_simp; try with_reducible rfl)
      simp only [Act.put, List.setIfInBounds_toArray, List.set_cons_zero, List.set_cons_succ]; replace hCl := hCl'; clear hCl'
      refine T.qT 1 (some 65) ?v11 rfl rfl hCl ?hy11 (fun hCl' => ?_)
      case hy11 => (intro w hSw; refine T.qVal ?_ hSw; (try dsimp only [List.getElem_toArray, List.getElem_cons_succ, List.getElem_cons_zero]); go_simp; try with_reducible rfl)
      simp only [Act.put, List.setIfInBounds_toArray, List.set_cons_zero, List.set_cons_succ]; replace hCl := hCl'; clear hCl'
      refine T.qT 6 (some 70) ?v12 rfl rfl hCl ?hy12 (fun hCl' => ?_)
      case hy12 => (intro w hSw; refine T.qVal ?_ hSw; (try dsimp only [List.getElem_toArray, List.getElem_cons_succ, List.getElem_cons_zero]); go_simp; try with_reducible rfl)
      simp only [Act.put, List.setIfInBounds_toArray, List.set_cons_zero, List.set_cons_succ]; replace hCl := hCl'; clear hCl'
      refine T.qT 2 (some 66) ?v13 rfl rfl hCl ?hy13 (fun hCl' => ?_)
      case hy13 => (intro w hSw; refine T.qVal ?_ hSw; (have fF59 := F59.out w hSw); (try dsimp only [List.getElem_toArray, List.getElem_cons_succ, List.getElem_cons_zero]); go_simp; try with_reducible rfl)
      simp only [Act.put, List.setIfInBounds_toArray, List.set_cons_zero, List.set_cons_succ]; replace hCl := hCl'; clear hCl'
      refine T.qT 7 (some 71) ?v14 rfl rfl hCl ?hy14 (fun hCl' => ?_)
      case hy14 => (intro w hSw; refine T.qVal ?_ hSw; (have fF59 := F59.out w hSw); (try dsimp only [List.getElem_toArray, List.getElem_cons_succ, List.getElem_cons_zero]); go_simp; try with_reducible rfl)
      simp only [Act.put, List.setIfInBounds_toArray, List.set_cons_zero, List.set_cons_succ]; replace hCl := hCl'; clear hCl'
      refine T.qT 3 (some 67) ?v15 rfl rfl hCl ?hy15 (fun hCl' => ?_)
      case hy15 => (intro w hSw; refine T.qVal ?_ hSw; (have fF59 := F59.out w hSw); (try dsimp only [List.getElem_toArray, List.getElem_cons_succ, List.getElem_cons_zero]); go_simp; try with_reducible rfl)
      simp only [Act.put, List.setIfInBounds_toArray, List.set_cons_zero, List.set_cons_succ]; replace hCl := hCl'; clear hCl'
      refine T.qT 8 (some 72) ?v16 rfl rfl hCl ?hy16 (fun hCl' => ?_)
      case hy16 => (intro w hSw; refine T.qVal ?_ hSw; (have fF59 := F59.out w hSw); (try dsimp only [List.getElem_toArray, List.getElem_cons_succ, List.getElem_cons_zero]); go_simp; try with_reducible rfl)
      simp only [Act.put, List.setIfInBounds_toArray, List.set_cons_zero, List.set_cons_succ]; replace hCl := hCl'; clear hCl'
      refine T.qTake (i := 4) (d := (some 68)) (v := ((.int .i64 (two : Int)))) rfl rfl (by kernel_rfl) (by decide) hCl (by kernel_rfl) (by kernel_rfl) (by kernel_rfl) (by rfl) ?hy17 (fun _ _ _ => trivial) (fun hCl' => ?_)
      case hy17 => (intro w hSw; (have fF59 := F59.out w hSw); (try dsimp only [List.getElem_toArray, List.getElem_cons_succ, List.getElem_cons_zero]); refine T.qVal ?_ hSw; go_simp)
      simp only [Act.put, List.setIfInBounds_toArray, List.set_cons_zero, List.set_cons_succ]
      replace hCl := hCl'; clear hCl'
      refine T.qT 5 (some 69) ((.int .i64 (zz : Int))) rfl rfl hCl ?hy18 (fun hCl' => ?_)
      case hy18 => (intro w hSw; (have fF59 := F59.out w hSw); (try dsimp only [List.getElem_toArray, List.getElem_cons_succ, List.getElem_cons_zero]); go_simp; (refine (callsIn_wide.2 (HRz.out w)).mono ?_; rintro e w3 ⟨rfl, rfl⟩; exact ⟨rfl, hSw⟩))
      simp only [Act.put, List.setIfInBounds_toArray, List.set_cons_zero, List.set_cons_succ]
      replace hCl := hCl'; clear hCl'
      refine T.tail_intro (by kernel_rfl) (fun Y58 hY58 => ?_)
      replace U := U.trans hY58
      replace kB := hY58.blk kB
      replace IW := IW.up hY58
      replace Uz := Uz.trans hY58
      clear F59 hY58
      refine lastG (i := 9) (by kernel_rfl) rfl (by rfl) (by decide) (fun K hK => ?_)
      go_simp
      refine ⟨trivial, (callsIn_wide.2 (HL.out _)).mono ?_⟩
      rintro e xo ⟨⟨vo, rfl, ILo⟩, u⟩
      replace U := U.trans u
      replace Uz := Uz.trans u
      replace kB := u.blk kB
      replace IW := IW.up u
      clear u HL
      refine hK.out _ _ ?_
      clear hK K
      refine lastG (i := 10) (by kernel_rfl) rfl (by rfl) (by decide) (fun K hK => ?_)
      go_simp
      refine hK.out _ _ ?_
      clear hK K
      refine doneG (by kernel_rfl) ?_ _
      refine S.nrm_intro ?_
      clear HRz wz
      obtain ⟨ao, co, rfl, _, _, _⟩ := id ILo.is
      have CA := Lib.hid (show ∀ w', Up xo w' → Calls Try.prog 50 #[.slice ao LO.length co, .slice aw LW.length cw] w' fun e w'' => e = .returned (.bool bv) ∧ Up w' w'' from fun w' u => by have := B_Ahead_any (ILo.up u) (IW.up u); rw [HAh.out] at this; exact this)
      clear HAh
      have Uy := Up.refl xo
      rcases hc with hc | ⟨hc, rfl⟩ | ⟨hc | ⟨hc, rfl⟩, rfl⟩
      · skip
        have d2 : decide ((LO.length : Int) > (LW.length : Int)) = true := decide_eq_true (by omega)
        have d3 : ((LO.length : Int) == (LW.length : Int)) = false := by rw [beq_eq_false_iff_ne]; omega
        have d4 : (LW.length : Int) < (LO.length : Int) := by omega
        clear hc
        go_wp2_with fail
        refine (HW.out _).mono ?_
        rintro e x160 ⟨rfl, u161⟩
        replace U := U.trans u161
        replace kB := u161.blk kB
        replace IW := IW.up u161
        replace ILo := ILo.up u161
        replace Uz := Uz.trans u161
        replace Uy := Uy.trans u161
        clear u161 
        go_wp2
        go_ret
        exact ⟨rfl, U⟩
      · skip
        have d2 : decide ((LO.length : Int) > (LW.length : Int)) = false := decide_eq_false (by omega)
        have d3 : ((LO.length : Int) == (LW.length : Int)) = true := by rw [beq_iff_eq]; omega
        have d4 : ¬ (LW.length : Int) < (LO.length : Int) := by omega
        clear hc
        go_wp2_with fail
        refine (CA.out _ Uy).mono ?_
        rintro e x160 ⟨rfl, u161⟩
        replace U := U.trans u161
        replace kB := u161.blk kB
        replace IW := IW.up u161
        replace ILo := ILo.up u161
        replace Uz := Uz.trans u161
        replace Uy := Uy.trans u161
        clear u161 
        go_wp2_with fail
        refine (HW.out _).mono ?_
        rintro e x162 ⟨rfl, u163⟩
        replace U := U.trans u163
        replace kB := u163.blk kB
        replace IW := IW.up u163
        replace ILo := ILo.up u163
        replace Uz := Uz.trans u163
        replace Uy := Uy.trans u163
        clear u163 
        go_wp2
        go_ret
        exact ⟨rfl, U⟩
      · skip
        have d2 : decide ((LO.length : Int) > (LW.length : Int)) = false := decide_eq_false (by omega)
        have d3 : ((LO.length : Int) == (LW.length : Int)) = false := by rw [beq_eq_false_iff_ne]; omega
        have d4 : ¬ (LW.length : Int) < (LO.length : Int) := by omega
        clear hc
        go_wp2_with fail
        refine (HN.out _ U _ _ ILo).mono ?_
        rintro e x9 ⟨⟨a9, n9, c9, rfl, J9⟩, u⟩
        replace U := U.trans u
        replace kB := u.blk kB
        replace IW := IW.up u
        replace ILo := ILo.up u
        replace Uz := Uz.trans u
        replace Uy := Uy.trans u
        clear u
        go_wp2_with fail
        refine (Ch.out _ U _ _ _ J9).mono ?_
        rintro e x160 ⟨rfl, u161⟩
        replace U := U.trans u161
        replace kB := u161.blk kB
        replace IW := IW.up u161
        replace ILo := ILo.up u161
        replace Uz := Uz.trans u161
        replace Uy := Uy.trans u161
        clear u161 J9
        go_wp2_with fail
        refine (HW.out _).mono ?_
        rintro e x162 ⟨rfl, u163⟩
        replace U := U.trans u163
        replace kB := u163.blk kB
        replace IW := IW.up u163
        replace ILo := ILo.up u163
        replace Uz := Uz.trans u163
        replace Uy := Uy.trans u163
        clear u163 
        go_wp2
        go_ret
        exact ⟨rfl, U⟩
      · skip
        have d2 : decide ((LO.length : Int) > (LW.length : Int)) = false := decide_eq_false (by omega)
        have d3 : ((LO.length : Int) == (LW.length : Int)) = true := by rw [beq_iff_eq]; omega
        have d4 : ¬ (LW.length : Int) < (LO.length : Int) := by omega
        clear hc
        go_wp2_with fail
        refine (CA.out _ Uy).mono ?_
        rintro e x160 ⟨rfl, u161⟩
        replace U := U.trans u161
        replace kB := u161.blk kB
        replace IW := IW.up u161
        replace ILo := ILo.up u161
        replace Uz := Uz.trans u161
        replace Uy := Uy.trans u161
        clear u161 
        go_wp2_with fail
        refine (HN.out _ U _ _ ILo).mono ?_
        rintro e x9 ⟨⟨a9, n9, c9, rfl, J9⟩, u⟩
        replace U := U.trans u
        replace kB := u.blk kB
        replace IW := IW.up u
        replace ILo := ILo.up u
        replace Uz := Uz.trans u
        replace Uy := Uy.trans u
        clear u
        go_wp2_with fail
        refine (Ch.out _ U _ _ _ J9).mono ?_
        rintro e x162 ⟨rfl, u163⟩
        replace U := U.trans u163
        replace kB := u163.blk kB
        replace IW := IW.up u163
        replace ILo := ILo.up u163
        replace Uz := Uz.trans u163
        replace Uy := Uy.trans u163
        clear u163 J9
        go_wp2_with fail
        refine (HW.out _).mono ?_
        rintro e x164 ⟨rfl, u165⟩
        replace U := U.trans u165
        replace kB := u165.blk kB
        replace IW := IW.up u165
        replace ILo := ILo.up u165
        replace Uz := Uz.trans u165
        replace Uy := Uy.trans u165
        clear u165 
        go_wp2
        go_ret
        exact ⟨rfl, U⟩
end

end Go.Proofs.Ytlpkheoljbdajaa
