import Derived.Test.YtlpkheoljbdajaaSht
/- The law StarShifted. -/
namespace Go.Proofs.Ytlpkheoljbdajaa
open Go.RowKit Go.Shelf
attribute [local go_sem] Oper.semAt_some

attribute [local go_sem] cell_int3
section
variable {bl bh rl rh : Int} {aP aQ aL : Option Addr} {nP cP nQ cQ nL cL : Nat} {ps qs : List (Int × Int)} {ls : List T.T5}
set_option maxRecDepth 100000 in
set_option maxHeartbeats 8000000 in
theorem starShifted_any {M n0 n1 n2 : Int} {w : World} (I : Sps w (.slice aP nP cP) ps) (J : Sps w (.slice aQ nQ cQ) qs) (K : Lks w (.slice aL nL cL) ls) :
    Calls Try.prog 15 #[BoV M bl bh rl rh (.slice aP nP cP) (.slice aQ nQ cQ) (.slice aL nL cL), .agg #[.int .i64 n0, .int .i64 n1, .int .i64 n2]] w fun e w' => e = .returned (.bool true) ∧ Up w w' := by
  have U := (((Up.refl w).alloc (.cells (BoC M bl bh rl rh (.slice aP nP cP) (.slice aQ nQ cQ) (.slice aL nL cL)) 27)).alloc (.cells #[.int .i64 n0, .int .i64 n1, .int .i64 n2] 40))
  have HW := Lib.hid (fun w => l_works_any w)
  cases hv : T.valid M bl bh rl rh ps qs ls with
  | false =>
    have HS := Lib.hid (fun w' (u : Up w w') => l_sound_no (I.up u) (J.up u) (K.up u) hv)
    clear hv I J K 
    go_enter Try.func15, Try.ntmps15
    go_wp2_with fail
    refine (HS.out _ U).mono ?_
    rintro e w1 ⟨rfl, u1⟩
    go_wp2_with fail
    refine (HW.out _).mono ?_
    rintro e w2 ⟨rfl, u2⟩
    go_wp2
    go_ret
    exact ⟨rfl, (U.trans u1).trans u2⟩
  | true =>
    obtain ⟨N, rfl⟩ := T.valid_N hv
    obtain ⟨⟨hN, hB, hR⟩, ⟨h4, h5, h10⟩, hP, hQ, hL⟩ := T.valid_parts hv
    have HS := Lib.hid (fun w' (u : Up w w') => l_sound_yes (I.up u) (J.up u) (K.up u) hv)
    have hn := I.len
    have hno := J.len
    have hnp := K.len
    have hmx : Try.prog.follows .mixedOrders = true := by kernel_rfl
    subst hn hno hnp
    have HRbq := Lib.hid (fun w => B_Rest_any n0 (50 : Int) w (by omega) (by omega))
    have abq := Int.emod_nonneg n0 (b := (50 : Int)) (by omega)
    have bbq := Int.emod_lt_of_pos n0 (b := (50 : Int)) (by omega)
    generalize n0 % (50 : Int) = bq at *
    have HRi := Lib.hid (fun w => B_Rest_any n1 (N : Int) w (by omega) (by omega))
    have ai := Int.emod_nonneg n1 (b := (N : Int)) (by omega)
    have bi := Int.emod_lt_of_pos n1 (b := (N : Int)) (by omega)
    generalize n1 % (N : Int) = i at *
    have HRk := Lib.hid (fun w => B_Rest_any n2 (N : Int) w (by omega) (by omega))
    have ak := Int.emod_nonneg n2 (b := (N : Int)) (by omega)
    have bk := Int.emod_lt_of_pos n2 (b := (N : Int)) (by omega)
    generalize n2 % (N : Int) = k at *
    obtain ⟨lc, hc, ec, tc, vc, wc, xc⟩ := T.Tells.ex (o := T.o0) (m := 0) (i := (1 + i)) hv T.al_0 (T.al_night ⟨ai, bi⟩)
    have Cc := Lib.hid (fun w' (u : Up w w') => Offset_tells hv ⟨ai, bi⟩ tc (I.up u) (J.up u) (K.up u))
    obtain ⟨lu, hu, eu, tu, vu, wu, xu⟩ := T.Tells.ex (o := T.o0) (m := (1 + i)) (i := (1 + k)) hv (T.al_night ⟨ai, bi⟩) (T.al_night ⟨ak, bk⟩)
    have Cu := Lib.hid (fun w' (u : Up w w') => Between_tells hv ⟨ai, bi⟩ ⟨ak, bk⟩ tu (I.up u) (J.up u) (K.up u))
    have HTo := Lib.hid (fun l h w => B_To_any l h w)
    have HWi := Lib.hid (fun l h l' h' w (p : l' ≤ l ∧ h ≤ h') => show Calls Try.prog 41 #[SpV l h, SpV l' h'] w fun e w' => e = .returned (.bool true) ∧ Up w w' by rw [← decide_eq_true p]; exact B_Within_any _ _ _ _ w)
    obtain rfl := tc.same tu
    have HI := Lib.hid (fun w' (u : Up w w') => I.up u)
    have HJ := Lib.hid (fun w' (u : Up w w') => J.up u)
    have HK := Lib.hid (fun w' (u : Up w w') => K.up u)
    have HV := Lib.hid hv
    have HL4 := Lib.hid (And.intro h4 (And.intro h5 h10))
    have HWr := Lib.hid (fun w' (u : Up w w') => Wrong_ok (I.up u) (J.up u) (K.up u) hv)
    obtain ⟨LW, hLW⟩ : ∃ l, T.lst (T.fewS (T.canP N bl bh rl rh ps qs ls) ls.length) 10 = l := ⟨_, rfl⟩
    rw [hLW] at HWr
    have HLW := Lib.hid hLW
    have z1 : IntKind.i64.wrap (bl + bq) = bl + bq := IntWalk.i64_in _ (by omega)
    have z2 : IntKind.i64.wrap (bh + bq) = bh + bq := IntWalk.i64_in _ (by omega)
    have HPB := Lib.hid (fun x (hx : x ∈ ps) => T.per_iff.1 (hP x hx))
    have HIK := Lib.hid (And.intro (And.intro ai bi) (And.intro ak bk))
    have HT := Lib.hid (And.intro tc tu)
    have hbq : 0 ≤ bq ∧ bq < 50 := ⟨abq, bbq⟩
    have HBQ := Lib.hid hbq
    have HE := Lib.hid tc.err
    have Cc := Lib.hid (fun w' (u : Up w w') => Offset_tells HV.out HIK.out.1 HT.out.1 (HI.out _ u) (HJ.out _ u) (HK.out _ u))
    have Cu := Lib.hid (fun w' (u : Up w w') => Between_tells HV.out HIK.out.1 HIK.out.2 HT.out.2 (HI.out _ u) (HJ.out _ u) (HK.out _ u))
    clear tc tu vc wc xc vu wu xu ai bi ak bk hN hB hR h4 h5 h10 hP hQ hL hv I J K abq bbq hbq hLW
    go_enter Try.func15, Try.ntmps15
    obtain ⟨q0, e0⟩ : ∃ x, w.heap.size = x := ⟨_, rfl⟩
    have kB := (blk_keep (.cells #[.int .i64 n0, .int .i64 n1, .int .i64 n2] 40) (blk_new w (.cells (BoC (N : Int) bl bh rl rh (.slice aP ps.length cP) (.slice aQ qs.length cQ) (.slice aL ls.length cL)) 27) q0 e0.symm))
    have kN := (blk_new (w.alloc (.cells (BoC (N : Int) bl bh rl rh (.slice aP ps.length cP) (.slice aQ qs.length cQ) (.slice aL ls.length cL)) 27)) (.cells #[.int .i64 n0, .int .i64 n1, .int .i64 n2] 40) (q0 + 1) (by simp [e0]))
    go_wp2_with fail
    refine (HS.out _ U).mono ?_
    rintro e x1 ⟨rfl, u2⟩
    replace U := U.trans u2
    replace kB := u2.blk kB
    replace kN := u2.blk kN
    clear u2 HS
    go_wp2_with fail
    refine (HRbq.out _).mono ?_
    rintro e x3 ⟨rfl, rfl⟩
    clear HRbq
    have i0 := kB
    have i1 := kN
    have dkBkx := blk_lt kB
    have dkNkx := blk_lt kN
    have gkx := U.size
    have kx := blk_new x1 (.cells (BoC (N : Int) bl bh rl rh (.slice aP ps.length cP) (.slice aQ qs.length cQ) (.slice aL ls.length cL)) 27) _ rfl
    replace kB := blk_keep (.cells (BoC (N : Int) bl bh rl rh (.slice aP ps.length cP) (.slice aQ qs.length cQ) (.slice aL ls.length cL)) 27) kB
    replace kN := blk_keep (.cells (BoC (N : Int) bl bh rl rh (.slice aP ps.length cP) (.slice aQ qs.length cQ) (.slice aL ls.length cL)) 27) kN
    replace U := U.alloc (.cells (BoC (N : Int) bl bh rl rh (.slice aP ps.length cP) (.slice aQ qs.length cQ) (.slice aL ls.length cL)) 27)
    obtain ⟨pkx, hpkx⟩ : ∃ z, x1.heap.size = z := ⟨_, rfl⟩
    obtain ⟨W4, hW4⟩ : ∃ z, x1.alloc (.cells (BoC (N : Int) bl bh rl rh (.slice aP ps.length cP) (.slice aQ qs.length cQ) (.slice aL ls.length cL)) 27) = z := ⟨_, rfl⟩
    rw [hpkx] at kx dkBkx dkNkx gkx
    rw [hW4] at kx U kB kN
    go_wp2_with fail
    clear hpkx hW4
    clear i0 i1
    refine (HTo.out _ _ _).mono ?_
    rintro e x5 ⟨rfl, u6⟩
    replace U := U.trans u6
    replace kB := u6.blk kB
    replace kN := u6.blk kN
    replace kx := u6.blk kx
    clear u6 
    have zf := frozB kx
    have i0 := kx
    have U1 := ((U.set (p := ⟨pkx, 1, none⟩) (show w.heap.size ≤ pkx by omega) (.int .i64 (bl + bq))).set (p := ⟨pkx, 2, none⟩) (show w.heap.size ≤ pkx by omega) (.int .i64 (bh + bq)))
    have jkB := kB
    rw [← blk_set (x5) ⟨pkx, 1, none⟩ (.int .i64 (bl + bq)) (q0) (by show q0 ≠ pkx; omega), ← blk_set ((x5).setCell ⟨pkx, 1, none⟩ (.int .i64 (bl + bq))) ⟨pkx, 2, none⟩ (.int .i64 (bh + bq)) (q0) (by show q0 ≠ pkx; omega)] at jkB
    have jkN := kN
    rw [← blk_set (x5) ⟨pkx, 1, none⟩ (.int .i64 (bl + bq)) (q0 + 1) (by show q0 + 1 ≠ pkx; omega), ← blk_set ((x5).setCell ⟨pkx, 1, none⟩ (.int .i64 (bl + bq))) ⟨pkx, 2, none⟩ (.int .i64 (bh + bq)) (q0 + 1) (by show q0 + 1 ≠ pkx; omega)] at jkN
    have jkx : mblk (((x5).setCell ⟨pkx, 1, none⟩ (.int .i64 (bl + bq))).setCell ⟨pkx, 2, none⟩ (.int .i64 (bh + bq))) pkx = some (.cells (BoC (N : Int) (bl + bq) (bh + bq) rl rh (.slice aP ps.length cP) (.slice aQ qs.length cQ) (.slice aL ls.length cL)) 27 (0, 0)) := (blk_put (blk_put kx 1 (.int .i64 (bl + bq))) 2 (.int .i64 (bh + bq)))
    obtain ⟨W7, hW7⟩ : ∃ z, ((x5).setCell ⟨pkx, 1, none⟩ (.int .i64 (bl + bq))).setCell ⟨pkx, 2, none⟩ (.int .i64 (bh + bq)) = z := ⟨_, rfl⟩
    rw [hW7] at jkB jkN jkx U1 
    clear kB kN kx U
    have kB := jkB
    have kN := jkN
    have kx := jkx
    have U := U1
    clear jkB jkN jkx U1
    have hl10 : ls.length ≤ 10 := HL4.out.2.2
    have own0 := World.ownsRow_lit (base := W7.heap.size) (e := 63) (size := 5) W7 #[] 0 (Nat.le_refl _) (by unfold maxLen; omega) rfl
    obtain ⟨pe, hpe⟩ : ∃ z, W7.heap.size = z := ⟨_, rfl⟩
    have IX1 := HK.out _ (U.alloc (.cells #[] 63))
    have U1 := U.alloc (.cells #[] 63)
    have jkB := blk_keep (.cells #[] 63) kB
    have lkB := blk_lt kB
    have jkN := blk_keep (.cells #[] 63) kN
    have lkN := blk_lt kN
    have jkx := blk_keep (.cells #[] 63) kx
    have lkx := blk_lt kx
    rw [hpe] at own0 lkB lkN lkx
    have gw := U.size
    rw [hpe] at gw
    go_wp2_with (at_builtin; refine T.wpList_app (ys := []) T.elL rfl (.tmp 53) (.tmp 55) rfl IX1 rfl pe _ 0 rfl own0 (by omega) (by omega) (by simp [hpe]) ?_; intro v1 w1 own1 grow1; rw [Nat.zero_add] at own1; have rkB := grown_blk grow1 jkB (row_block own0 lkB); have rkN := grown_blk grow1 jkN (row_block own0 lkN); have rkx := grown_blk grow1 jkx (row_block own0 lkx); have U2 : Up w w1 := U1.grown grow1 (fun k e => by (have := row_base own0 k e; omega)); obtain ⟨a2, c2, rfl, _, _⟩ := row_val own1; have zx := frozB rkx; have x3 := blk_put rkx 7 (.slice a2 ls.length c2))
    obtain ⟨W8, hW8⟩ : ∃ z, w1.setCell ⟨pkx, 7, none⟩ (.slice a2 ls.length c2) = z := ⟨_, rfl⟩
    have own3 : W8.ownsRow pe 63 5 (.slice a2 ls.length c2) ls.length (T.flat 5 T.encL ls) := by
      rw [← hW8]
      exact row_other own1 (grown_set w1 (pkx) 7 _) (row_block own1 lkx)
    have HO := Lib.hid (T.Own5.of_row own3 (by omega))
    have U4 : Up w W8 := by rw [← hW8]; exact U2.set (p := ⟨pkx, 7, none⟩) (show w.heap.size ≤ pkx by omega) _
    have jx4 : mblk W8 (pkx) = some (.cells (BoC (N : Int) (bl + bq) (bh + bq) rl rh (.slice aP ps.length cP) (.slice aQ qs.length cQ) (.slice a2 ls.length c2)) 27 (0, 0)) := by rw [← hW8]; exact x3
    have ykB : mblk W8 (q0) = some (.cells (BoC (N : Int) bl bh rl rh (.slice aP ps.length cP) (.slice aQ qs.length cQ) (.slice aL ls.length cL)) 27 (0, 0)) := by rw [← hW8, blk_set _ _ _ _ (by show q0 ≠ pkx; omega)]; exact rkB
    have ykN : mblk W8 (q0 + 1) = some (.cells #[.int .i64 n0, .int .i64 n1, .int .i64 n2] 40 (0, 0)) := by rw [← hW8, blk_set _ _ _ _ (by show q0 + 1 ≠ pkx; omega)]; exact rkN
    try rw [hW8]
    clear hW8 x3 zx own1 own3 U2 U1 own0 IX1 grow1 U hpe rkB jkB kB rkN jkN kN rkx jkx kx
    have U := U4
    have kx := jx4
    clear U4 jx4
    have kB := ykB
    clear ykB
    have kN := ykN
    clear ykN
    try clear hW7
    try clear zf i0
    go_loopw [7] (fun m wr => ∃ j : Nat, j ≤ ls.length ∧ m = .int .i64 j ∧ Hid (T.Own5 wr pe a2 ls.length c2 (T.shj (fun _ => true) bq ls j)) ∧ Up w wr ∧ mblk wr (q0) = some (.cells (BoC (N : Int) bl bh rl rh (.slice aP ps.length cP) (.slice aQ qs.length cQ) (.slice aL ls.length cL)) 27 (0, 0)) ∧ mblk wr (q0 + 1) = some (.cells #[.int .i64 n0, .int .i64 n1, .int .i64 n2] 40 (0, 0)) ∧ mblk wr (pkx) = some (.cells (BoC (N : Int) (bl + bq) (bh + bq) rl rh (.slice aP ps.length cP) (.slice aQ qs.length cQ) (.slice a2 ls.length c2)) 27 (0, 0))) (fun m _ => ls.length - (intOf m).toNat)
    case atStart => exact ⟨0, Nat.zero_le _, rfl, Lib.hid (by rw [T.shj_0]; exact HO.out), U, kB, kN, kx⟩
    case round =>
      clear U kB kN kx HO
      obtain ⟨j, hj, rfl, HO, U, kB, kN, kx⟩ := hrel
      by_cases hlt : j < ls.length
      · skip
        skip
        have ew : IntKind.i64.wrap ((j : Int) + 1) = (j : Int) + 1 := IntWalk.i64_in _ (by have := HL4.out.2.2; omega)
        have ilt : (j : Int) < (ls.length : Int) := by omega
        obtain ⟨a'', c'', e'', _, _, hm⟩ := (HK.out w (Up.refl w)).is
        injection e'' with ea eb ec
        clear eb ec
        obtain ⟨gE, oE, ga, glE, hxE⟩ := hm (by omega)
        subst ea ga
        clear hm
        obtain ⟨⟨r0, r1, r2, r3, r4⟩, hss⟩ : ∃ s, ls.getD j (0, 0, 0, 0, 0) = s := ⟨_, rfl⟩
        have hrd := T.look_rd HV.out hlt hss
        have z3 : IntKind.i64.wrap (r3 + bq) = r3 + bq := IntWalk.i64_in _ (by have := HBQ.out; omega)
        have d0 : wr.cell? ⟨gE, oE + j * 5, none⟩ = some (.int .i64 r0) := by have := hxE j hlt 0 (by omega); rw [hss] at this; exact (U.facts.1 gE _ glE).trans this
        have d1 : wr.cell? ⟨gE, oE + j * 5 + 1, none⟩ = some (.int .i64 r1) := by have := hxE j hlt 1 (by omega); rw [hss] at this; exact (U.facts.1 gE _ glE).trans this
        have d2 : wr.cell? ⟨gE, oE + j * 5 + 2, none⟩ = some (.int .i64 r2) := by have := hxE j hlt 2 (by omega); rw [hss] at this; exact (U.facts.1 gE _ glE).trans this
        have d3 : wr.cell? ⟨gE, oE + j * 5 + 3, none⟩ = some (.int .i64 r3) := by have := hxE j hlt 3 (by omega); rw [hss] at this; exact (U.facts.1 gE _ glE).trans this
        have d4 : wr.cell? ⟨gE, oE + j * 5 + 4, none⟩ = some (.int .i64 r4) := by have := hxE j hlt 4 (by omega); rw [hss] at this; exact (U.facts.1 gE _ glE).trans this
        clear hxE glE
        have hlen := T.shj_len (c := (fun _ => true)) (b := bq) (ls := ls) (j := j) hj
        have hst := T.shj_step (c := (fun _ => true)) (b := bq) hlt
        have hat := T.shj_at (c := (fun _ => true)) (b := bq) hlt
        rw [hss] at hst hat
        obtain ⟨IX2, hO⟩ := HO.out
        obtain ⟨g2, cur, ga, hg2, kg, hz2⟩ := hO (by omega)
        subst ga
        clear hO
        have cg0 : cur[j * 5]? = some (.int .i64 r0) := by have := Tab.at0 IX2 (j := j) (by omega) 0 (by omega); rw [hat] at this; exact (cellB kg _).symm.trans this
        have cg1 : cur[j * 5 + 1]? = some (.int .i64 r1) := by have := Tab.at0 IX2 (j := j) (by omega) 1 (by omega); rw [hat] at this; exact (cellB kg _).symm.trans this
        have cg2 : cur[j * 5 + 2]? = some (.int .i64 r2) := by have := Tab.at0 IX2 (j := j) (by omega) 2 (by omega); rw [hat] at this; exact (cellB kg _).symm.trans this
        have cg3 : cur[j * 5 + 3]? = some (.int .i64 r3) := by have := Tab.at0 IX2 (j := j) (by omega) 3 (by omega); rw [hat] at this; exact (cellB kg _).symm.trans this
        have cg4 : cur[j * 5 + 4]? = some (.int .i64 r4) := by have := Tab.at0 IX2 (j := j) (by omega) 4 (by omega); rw [hat] at this; exact (cellB kg _).symm.trans this
        have IX2' : Tab 5 T.encL (0, 0, 0, 0, 0) wr (.slice (some ⟨g2, 0, none⟩) (T.shj (fun _ => true) bq ls j).length c2) (T.shj (fun _ => true) bq ls j) := by rw [hlen]; exact IX2
        have HX2 := Lib.hid IX2'
        have HST := Lib.hid (And.intro hlen (And.intro hst (And.intro hz2 hg2)))
        clear IX2 IX2' hat hst hlen hz2 HO hss
        have mkB : q0 < g2 := by omega
        have mkN : q0 + 1 < g2 := by omega
        have mkx : pkx < g2 := by omega
        have Uz := Up.refl wr
        have i_kB := kB
        have i_kN := kN
        have i_kx := kx
        have i_kg := kg
        have dkBky := blk_lt kB
        have dkNky := blk_lt kN
        have dkxky := blk_lt kx
        have dkgky := blk_lt kg
        have gky := U.size
        have ky := blk_new wr (.cells #[.int .i64 r0, .int .i64 r1, .int .i64 r2, .int .i64 r3, .int .i64 r4] 63) _ rfl
        replace kB := blk_keep (.cells #[.int .i64 r0, .int .i64 r1, .int .i64 r2, .int .i64 r3, .int .i64 r4] 63) kB
        replace kN := blk_keep (.cells #[.int .i64 r0, .int .i64 r1, .int .i64 r2, .int .i64 r3, .int .i64 r4] 63) kN
        replace kx := blk_keep (.cells #[.int .i64 r0, .int .i64 r1, .int .i64 r2, .int .i64 r3, .int .i64 r4] 63) kx
        replace kg := blk_keep (.cells #[.int .i64 r0, .int .i64 r1, .int .i64 r2, .int .i64 r3, .int .i64 r4] 63) kg
        replace U := U.alloc (.cells #[.int .i64 r0, .int .i64 r1, .int .i64 r2, .int .i64 r3, .int .i64 r4] 63)
        replace Uz := Uz.alloc (.cells #[.int .i64 r0, .int .i64 r1, .int .i64 r2, .int .i64 r3, .int .i64 r4] 63)
        obtain ⟨pky, hpky⟩ : ∃ z, wr.heap.size = z := ⟨_, rfl⟩
        obtain ⟨W109, hW109⟩ : ∃ z, wr.alloc (.cells #[.int .i64 r0, .int .i64 r1, .int .i64 r2, .int .i64 r3, .int .i64 r4] 63) = z := ⟨_, rfl⟩
        rw [hpky] at ky dkBky dkNky dkxky dkgky gky
        rw [hW109] at ky U kB kN kx kg Uz
        skip
        have gz : wr.heap.size ≤ pky := by omega
        go_upto_region 11 with fail
        clear hpky hW109 i_kB i_kN i_kx i_kg d0 d1 d2 d3 d4
        have zf := frozB ky
        have i0 := ky
        have U1 := (U.set (p := ⟨pky, 3, none⟩) (show w.heap.size ≤ pky by omega) (.int .i64 (r3 + bq)))
        have VUz := (Uz.set (p := ⟨pky, 3, none⟩) (show wr.heap.size ≤ pky by omega) (.int .i64 (r3 + bq)))
        have jkB := kB
        rw [← blk_set (W109) ⟨pky, 3, none⟩ (.int .i64 (r3 + bq)) (q0) (by show q0 ≠ pky; omega)] at jkB
        have jkN := kN
        rw [← blk_set (W109) ⟨pky, 3, none⟩ (.int .i64 (r3 + bq)) (q0 + 1) (by show q0 + 1 ≠ pky; omega)] at jkN
        have jkx := kx
        rw [← blk_set (W109) ⟨pky, 3, none⟩ (.int .i64 (r3 + bq)) (pkx) (by show pkx ≠ pky; omega)] at jkx
        have jkg := kg
        rw [← blk_set (W109) ⟨pky, 3, none⟩ (.int .i64 (r3 + bq)) (g2) (by show g2 ≠ pky; omega)] at jkg
        have jky : mblk ((W109).setCell ⟨pky, 3, none⟩ (.int .i64 (r3 + bq))) pky = some (.cells #[.int .i64 r0, .int .i64 r1, .int .i64 r2, .int .i64 (r3 + bq), .int .i64 r4] 63 (0, 0)) := (blk_put ky 3 (.int .i64 (r3 + bq)))
        obtain ⟨W110, hW110⟩ : ∃ z, (W109).setCell ⟨pky, 3, none⟩ (.int .i64 (r3 + bq)) = z := ⟨_, rfl⟩
        rw [hW110] at jkB jkN jkx jkg jky U1 VUz
        clear Uz
        have Uz := VUz
        clear VUz
        clear kB kN kx kg ky U
        have kB := jkB
        have kN := jkN
        have kx := jkx
        have kg := jkg
        have ky := jky
        have U := U1
        clear jkB jkN jkx jkg jky U1
        go_upto_region 12 with fail
        clear hW110 zf i0
        have zg := frozB kg
        have sg0 : W110.cell? ⟨g2, j * 5, none⟩ = some (.int .i64 r0) := (cellB kg _).trans cg0
        have sg1 : W110.cell? ⟨g2, j * 5 + 1, none⟩ = some (.int .i64 r1) := (cellB kg _).trans cg1
        have sg2 : W110.cell? ⟨g2, j * 5 + 2, none⟩ = some (.int .i64 r2) := (cellB kg _).trans cg2
        have sg3 : W110.cell? ⟨g2, j * 5 + 3, none⟩ = some (.int .i64 r3) := (cellB kg _).trans cg3
        have sg4 : W110.cell? ⟨g2, j * 5 + 4, none⟩ = some (.int .i64 r4) := (cellB kg _).trans cg4
        have n01 : ¬ j * 5 = j * 5 + 1 := by omega
        have n02 : ¬ j * 5 = j * 5 + 2 := by omega
        have n03 : ¬ j * 5 = j * 5 + 3 := by omega
        have n04 : ¬ j * 5 = j * 5 + 4 := by omega
        have n12 : ¬ j * 5 + 1 = j * 5 + 2 := by omega
        have n13 : ¬ j * 5 + 1 = j * 5 + 3 := by omega
        have n14 : ¬ j * 5 + 1 = j * 5 + 4 := by omega
        have n23 : ¬ j * 5 + 2 = j * 5 + 3 := by omega
        have n24 : ¬ j * 5 + 2 = j * 5 + 4 := by omega
        have n34 : ¬ j * 5 + 3 = j * 5 + 4 := by omega
        have IX2 := HX2.out.up Uz
        go_wp2_with fail
        have jg : mblk (((((W110.setCell ⟨g2, j * 5, none⟩ (.int .i64 r0)).setCell ⟨g2, j * 5 + 1, none⟩ (.int .i64 r1)).setCell ⟨g2, j * 5 + 2, none⟩ (.int .i64 r2)).setCell ⟨g2, j * 5 + 3, none⟩ (.int .i64 (r3 + bq))).setCell ⟨g2, j * 5 + 4, none⟩ (.int .i64 r4)) g2 = some (.cells (((((cur.setIfInBounds (j * 5) (.int .i64 r0)).setIfInBounds (j * 5 + 1) (.int .i64 r1)).setIfInBounds (j * 5 + 2) (.int .i64 r2)).setIfInBounds (j * 5 + 3) (.int .i64 (r3 + bq))).setIfInBounds (j * 5 + 4) (.int .i64 r4)) 63 (0, 0)) := (blk_put (blk_put (blk_put (blk_put (blk_put kg _ (.int .i64 r0)) _ (.int .i64 r1)) _ (.int .i64 r2)) _ (.int .i64 (r3 + bq))) _ (.int .i64 r4))
        have IX3 := Tab.put5 (a := r0) (b := r1) (c' := r2) (e := (r3 + bq)) (f := r4) (x := (r0, r1, r2, (r3 + bq), r4)) IX2 kg (by have h1 := HST.out.1; have h2 := HST.out.2.2.1; omega) (by rw [HST.out.1]; exact hlt) rfl rfl rfl rfl rfl
        have U5 := (((((U.set (p := ⟨g2, j * 5, none⟩) (show w.heap.size ≤ g2 by omega) (.int .i64 r0)).set (p := ⟨g2, j * 5 + 1, none⟩) (show w.heap.size ≤ g2 by omega) (.int .i64 r1)).set (p := ⟨g2, j * 5 + 2, none⟩) (show w.heap.size ≤ g2 by omega) (.int .i64 r2)).set (p := ⟨g2, j * 5 + 3, none⟩) (show w.heap.size ≤ g2 by omega) (.int .i64 (r3 + bq))).set (p := ⟨g2, j * 5 + 4, none⟩) (show w.heap.size ≤ g2 by omega) (.int .i64 r4))
        have jkB : mblk (((((W110.setCell ⟨g2, j * 5, none⟩ (.int .i64 r0)).setCell ⟨g2, j * 5 + 1, none⟩ (.int .i64 r1)).setCell ⟨g2, j * 5 + 2, none⟩ (.int .i64 r2)).setCell ⟨g2, j * 5 + 3, none⟩ (.int .i64 (r3 + bq))).setCell ⟨g2, j * 5 + 4, none⟩ (.int .i64 r4)) (q0) = some (.cells (BoC (N : Int) bl bh rl rh (.slice aP ps.length cP) (.slice aQ qs.length cQ) (.slice (some ⟨gE, oE, none⟩) ls.length cL)) 27 (0, 0)) := by rw [blk_set _ _ _ _ (by show q0 ≠ g2; omega), blk_set _ _ _ _ (by show q0 ≠ g2; omega), blk_set _ _ _ _ (by show q0 ≠ g2; omega), blk_set _ _ _ _ (by show q0 ≠ g2; omega), blk_set _ _ _ _ (by show q0 ≠ g2; omega)]; exact kB
        have jkN : mblk (((((W110.setCell ⟨g2, j * 5, none⟩ (.int .i64 r0)).setCell ⟨g2, j * 5 + 1, none⟩ (.int .i64 r1)).setCell ⟨g2, j * 5 + 2, none⟩ (.int .i64 r2)).setCell ⟨g2, j * 5 + 3, none⟩ (.int .i64 (r3 + bq))).setCell ⟨g2, j * 5 + 4, none⟩ (.int .i64 r4)) (q0 + 1) = some (.cells #[.int .i64 n0, .int .i64 n1, .int .i64 n2] 40 (0, 0)) := by rw [blk_set _ _ _ _ (by show q0 + 1 ≠ g2; omega), blk_set _ _ _ _ (by show q0 + 1 ≠ g2; omega), blk_set _ _ _ _ (by show q0 + 1 ≠ g2; omega), blk_set _ _ _ _ (by show q0 + 1 ≠ g2; omega), blk_set _ _ _ _ (by show q0 + 1 ≠ g2; omega)]; exact kN
        have jkx : mblk (((((W110.setCell ⟨g2, j * 5, none⟩ (.int .i64 r0)).setCell ⟨g2, j * 5 + 1, none⟩ (.int .i64 r1)).setCell ⟨g2, j * 5 + 2, none⟩ (.int .i64 r2)).setCell ⟨g2, j * 5 + 3, none⟩ (.int .i64 (r3 + bq))).setCell ⟨g2, j * 5 + 4, none⟩ (.int .i64 r4)) (pkx) = some (.cells (BoC (N : Int) (bl + bq) (bh + bq) rl rh (.slice aP ps.length cP) (.slice aQ qs.length cQ) (.slice (some ⟨g2, 0, none⟩) ls.length c2)) 27 (0, 0)) := by rw [blk_set _ _ _ _ (by show pkx ≠ g2; omega), blk_set _ _ _ _ (by show pkx ≠ g2; omega), blk_set _ _ _ _ (by show pkx ≠ g2; omega), blk_set _ _ _ _ (by show pkx ≠ g2; omega), blk_set _ _ _ _ (by show pkx ≠ g2; omega)]; exact kx
        have jky : mblk (((((W110.setCell ⟨g2, j * 5, none⟩ (.int .i64 r0)).setCell ⟨g2, j * 5 + 1, none⟩ (.int .i64 r1)).setCell ⟨g2, j * 5 + 2, none⟩ (.int .i64 r2)).setCell ⟨g2, j * 5 + 3, none⟩ (.int .i64 (r3 + bq))).setCell ⟨g2, j * 5 + 4, none⟩ (.int .i64 r4)) (pky) = some (.cells #[.int .i64 r0, .int .i64 r1, .int .i64 r2, .int .i64 (r3 + bq), .int .i64 r4] 63 (0, 0)) := by rw [blk_set _ _ _ _ (by show pky ≠ g2; omega), blk_set _ _ _ _ (by show pky ≠ g2; omega), blk_set _ _ _ _ (by show pky ≠ g2; omega), blk_set _ _ _ _ (by show pky ≠ g2; omega), blk_set _ _ _ _ (by show pky ≠ g2; omega)]; exact ky
        obtain ⟨W111, hW111⟩ : ∃ z, (((((W110.setCell ⟨g2, j * 5, none⟩ (.int .i64 r0)).setCell ⟨g2, j * 5 + 1, none⟩ (.int .i64 r1)).setCell ⟨g2, j * 5 + 2, none⟩ (.int .i64 r2)).setCell ⟨g2, j * 5 + 3, none⟩ (.int .i64 (r3 + bq))).setCell ⟨g2, j * 5 + 4, none⟩ (.int .i64 r4)) = z := ⟨_, rfl⟩
        rw [hW111] at IX3 U5 jg jkB jkN jkx jky
        try rw [hW111]
        rw [show (r0, r1, r2, r3 + bq, r4) = T.shl (fun _ => true) bq (r0, r1, r2, r3, r4) from rfl, HST.out.2.1, HST.out.1] at IX3
        have HO := Lib.hid (show T.Own5 W111 pe (some ⟨g2, 0, none⟩) ls.length c2 (T.shj (fun _ => true) bq ls (j + 1)) from ⟨IX3, fun _ => ⟨g2, _, rfl, HST.out.2.2.2, jg, by simp only [Array.size_setIfInBounds]; exact HST.out.2.2.1⟩⟩)
        clear jg IX3
        clear kB kN kx ky U kg IX2 Uz z3 zg sg0 cg0 sg1 cg1 sg2 cg2 sg3 cg3 sg4 cg4 n01 n02 n03 n04 n12 n13 n14 n23 n24 n34
        have U := U5
        have kB := jkB
        have kN := jkN
        have kx := jkx
        have ky := jky
        clear U5 jkB jkN jkx jky
        try clear hW111
        go_roundw
        case rel => exact ⟨j + 1, by omega, by go_num, HO, U, kB, kN, kx⟩
        case measure => (simp only [intOf]; omega)
      · skip
        skip
        obtain rfl : ls.length = j := by omega
        have ilt : ¬ (ls.length : Int) < (ls.length : Int) := by omega
        have IXx := HO.out.1
        rw [T.shj_all] at IXx
        clear hlt hj HO
        skip
        go_wp2_with fail
        have F210 := Lib.hid (fun w (u : Up wr w) => cellB (u.blk kB))
        have F211 := Lib.hid (fun w (u : Up wr w) => cellB (u.blk kN))
        have F212 := Lib.hid (fun w (u : Up wr w) => cellB (u.blk kx))
        refine (wpIn_wide (n := 5)).1 ?_
        refine wpIn_nrm ?_
        refine T.regionQ (fun w' => Up wr w') 10 2 hmx (by kernel_rfl) (by kernel_rfl) ((Up.refl wr).drew) (fun hCl => ?_)
        refine T.qT 0 (some 80) ?v1 rfl rfl hCl ?hy1 (fun hCl' => ?_)
        case hy1 => (intro w hSw; refine T.qVal ?_ hSw; (try dsimp only [List.getElem_toArray, List.getElem_cons_succ, List.getElem_cons_zero]); go_simp; try with_reducible rfl)
        simp only [Act.put, List.setIfInBounds_toArray, List.set_cons_zero, List.set_cons_succ]; replace hCl := hCl'; clear hCl'
        refine T.qT 2 (some 82) ?v2 rfl rfl hCl ?hy2 (fun hCl' => ?_)
        case hy2 => (intro w hSw; refine T.qVal ?_ hSw; (try dsimp only [List.getElem_toArray, List.getElem_cons_succ, List.getElem_cons_zero]); go_simp; try with_reducible rfl)
        simp only [Act.put, List.setIfInBounds_toArray, List.set_cons_zero, List.set_cons_succ]; replace hCl := hCl'; clear hCl'
        refine T.qT 5 (some 85) ?v3 rfl rfl hCl ?hy3 (fun hCl' => ?_)
        case hy3 => (intro w hSw; refine T.qVal ?_ hSw; (try dsimp only [List.getElem_toArray, List.getElem_cons_succ, List.getElem_cons_zero]); go_simp; try with_reducible rfl)
        simp only [Act.put, List.setIfInBounds_toArray, List.set_cons_zero, List.set_cons_succ]; replace hCl := hCl'; clear hCl'
        refine T.qT 7 (some 87) ?v4 rfl rfl hCl ?hy4 (fun hCl' => ?_)
        case hy4 => (intro w hSw; refine T.qVal ?_ hSw; (try dsimp only [List.getElem_toArray, List.getElem_cons_succ, List.getElem_cons_zero]); go_simp; try with_reducible rfl)
        simp only [Act.put, List.setIfInBounds_toArray, List.set_cons_zero, List.set_cons_succ]; replace hCl := hCl'; clear hCl'
        refine T.qT 1 (some 81) ?v5 rfl rfl hCl ?hy5 (fun hCl' => ?_)
        case hy5 => (intro w hSw; refine T.qVal ?_ hSw; (have fF210 := F210.out w hSw; have fF211 := F211.out w hSw; have fF212 := F212.out w hSw); (try dsimp only [List.getElem_toArray, List.getElem_cons_succ, List.getElem_cons_zero]); go_simp; try with_reducible rfl)
        simp only [Act.put, List.setIfInBounds_toArray, List.set_cons_zero, List.set_cons_succ]; replace hCl := hCl'; clear hCl'
        refine T.qT 3 (some 83) ?v6 rfl rfl hCl ?hy6 (fun hCl' => ?_)
        case hy6 => (intro w hSw; refine T.qVal ?_ hSw; (have fF210 := F210.out w hSw; have fF211 := F211.out w hSw; have fF212 := F212.out w hSw); (try dsimp only [List.getElem_toArray, List.getElem_cons_succ, List.getElem_cons_zero]); go_simp; try with_reducible rfl)
        simp only [Act.put, List.setIfInBounds_toArray, List.set_cons_zero, List.set_cons_succ]; replace hCl := hCl'; clear hCl'
        refine T.qT 6 (some 86) ?v7 rfl rfl hCl ?hy7 (fun hCl' => ?_)
        case hy7 => (intro w hSw; refine T.qVal ?_ hSw; (have fF210 := F210.out w hSw; have fF211 := F211.out w hSw; have fF212 := F212.out w hSw); (try dsimp only [List.getElem_toArray, List.getElem_cons_succ, List.getElem_cons_zero]); go_simp; try with_reducible rfl)
        simp only [Act.put, List.setIfInBounds_toArray, List.set_cons_zero, List.set_cons_succ]; replace hCl := hCl'; clear hCl'
        refine T.qT 8 (some 88) ?v8 rfl rfl hCl ?hy8 (fun hCl' => ?_)
        case hy8 => (intro w hSw; refine T.qVal ?_ hSw; (have fF210 := F210.out w hSw; have fF211 := F211.out w hSw; have fF212 := F212.out w hSw); (try dsimp only [List.getElem_toArray, List.getElem_cons_succ, List.getElem_cons_zero]); go_simp; try with_reducible rfl)
        simp only [Act.put, List.setIfInBounds_toArray, List.set_cons_zero, List.set_cons_succ]; replace hCl := hCl'; clear hCl'
        refine T.qT 4 (some 84) ((.int .i64 i)) rfl rfl hCl ?hy9 (fun hCl' => ?_)
        case hy9 => (intro w hSw; (have fF210 := F210.out w hSw; have fF211 := F211.out w hSw; have fF212 := F212.out w hSw); (try dsimp only [List.getElem_toArray, List.getElem_cons_succ, List.getElem_cons_zero]); go_simp; (refine (callsIn_wide.2 (HRi.out w)).mono ?_; rintro e w3 ⟨rfl, rfl⟩; exact ⟨rfl, hSw⟩))
        simp only [Act.put, List.setIfInBounds_toArray, List.set_cons_zero, List.set_cons_succ]
        replace hCl := hCl'; clear hCl'
        refine T.qT 9 (some 89) ((.int .i64 k)) rfl rfl hCl ?hy10 (fun hCl' => ?_)
        case hy10 => (intro w hSw; (have fF210 := F210.out w hSw; have fF211 := F211.out w hSw; have fF212 := F212.out w hSw); (try dsimp only [List.getElem_toArray, List.getElem_cons_succ, List.getElem_cons_zero]); go_simp; (refine (callsIn_wide.2 (HRk.out w)).mono ?_; rintro e w3 ⟨rfl, rfl⟩; exact ⟨rfl, hSw⟩))
        simp only [Act.put, List.setIfInBounds_toArray, List.set_cons_zero, List.set_cons_succ]
        replace hCl := hCl'; clear hCl'
        refine T.tail_intro (by kernel_rfl) (fun Y209 hY209 => ?_)
        replace U := U.trans hY209
        replace kB := hY209.blk kB
        replace kN := hY209.blk kN
        replace kx := hY209.blk kx
        replace IXx := IXx.up hY209
        clear F210 F211 F212 hY209
        refine lastG (i := 10) (by kernel_rfl) rfl (by rfl) (by decide) (fun K hK => ?_)
        go_simp
        refine hK.out _ _ ?_
        clear hK K
        refine lastG (i := 11) (by kernel_rfl) rfl (by rfl) (by decide) (fun K hK => ?_)
        go_simp
        refine hK.out _ _ ?_
        clear hK K
        refine doneG (by kernel_rfl) ?_ _
        refine S.nrm_intro ?_
        clear HRi HRk
        go_wp2_with fail
        refine (Cc.out _ U).mono ?_
        rintro e x213 ⟨rfl, u214⟩
        replace U := U.trans u214
        replace kB := u214.blk kB
        replace kN := u214.blk kN
        replace kx := u214.blk kx
        replace IXx := IXx.up u214
        clear u214 
        have dkBkc := blk_lt kB
        have dkNkc := blk_lt kN
        have dkxkc := blk_lt kx
        have gkc := U.size
        have kc := blk_new x213 (.cells #[.int .i64 lc, .int .i64 hc] 23) _ rfl
        replace kB := blk_keep (.cells #[.int .i64 lc, .int .i64 hc] 23) kB
        replace kN := blk_keep (.cells #[.int .i64 lc, .int .i64 hc] 23) kN
        replace kx := blk_keep (.cells #[.int .i64 lc, .int .i64 hc] 23) kx
        replace U := U.alloc (.cells #[.int .i64 lc, .int .i64 hc] 23)
        replace IXx := IXx.up ((Up.refl x213).alloc (.cells #[.int .i64 lc, .int .i64 hc] 23))
        obtain ⟨pkc, hpkc⟩ : ∃ z, x213.heap.size = z := ⟨_, rfl⟩
        obtain ⟨W215, hW215⟩ : ∃ z, x213.alloc (.cells #[.int .i64 lc, .int .i64 hc] 23) = z := ⟨_, rfl⟩
        rw [hpkc] at kc dkBkc dkNkc dkxkc gkc
        rw [hW215] at kc U kB kN kx IXx
        go_wp2_with fail
        clear hpkc hW215
        refine (Cu.out _ U).mono ?_
        rintro e x216 ⟨rfl, u217⟩
        replace U := U.trans u217
        replace kB := u217.blk kB
        replace kN := u217.blk kN
        replace kx := u217.blk kx
        replace kc := u217.blk kc
        replace IXx := IXx.up u217
        clear u217 
        have dkBku := blk_lt kB
        have dkNku := blk_lt kN
        have dkxku := blk_lt kx
        have dkcku := blk_lt kc
        have gku := U.size
        have ku := blk_new x216 (.cells #[.int .i64 lu, .int .i64 hu] 23) _ rfl
        replace kB := blk_keep (.cells #[.int .i64 lu, .int .i64 hu] 23) kB
        replace kN := blk_keep (.cells #[.int .i64 lu, .int .i64 hu] 23) kN
        replace kx := blk_keep (.cells #[.int .i64 lu, .int .i64 hu] 23) kx
        replace kc := blk_keep (.cells #[.int .i64 lu, .int .i64 hu] 23) kc
        replace U := U.alloc (.cells #[.int .i64 lu, .int .i64 hu] 23)
        replace IXx := IXx.up ((Up.refl x216).alloc (.cells #[.int .i64 lu, .int .i64 hu] 23))
        obtain ⟨pku, hpku⟩ : ∃ z, x216.heap.size = z := ⟨_, rfl⟩
        obtain ⟨W218, hW218⟩ : ∃ z, x216.alloc (.cells #[.int .i64 lu, .int .i64 hu] 23) = z := ⟨_, rfl⟩
        rw [hpku] at ku dkBku dkNku dkxku dkcku gku
        rw [hW218] at ku U kB kN kx kc IXx
        go_wp2_with fail
        clear hpku hW218
        refine (HWr.out _ U).mono ?_
        rintro e x3 ⟨⟨vw, rfl, IW⟩, u⟩
        replace U := U.trans u
        replace kB := u.blk kB
        replace kN := u.blk kN
        replace kx := u.blk kx
        replace kc := u.blk kc
        replace ku := u.blk ku
        replace IXx := IXx.up u
        clear u HWr
        obtain ⟨aw, cw, rfl, _, _, _⟩ := id IW.is
        have HCk := Lib.hid (fun w' (u : Up x3 w') (V : Up w w') => Check_any (M := (N : Int)) (bl := bl + bq) (bh := bh + bq) (rl := rl) (rh := rh) (HI.out _ V) (HJ.out _ V) (IXx.up u))
        have Ux := Up.refl x3
        have HX := Lib.hid IXx
        clear IXx
        go_wp2_with fail
        refine (HCk.out _ Ux U).mono ?_
        rintro e x219 ⟨rfl, u220⟩
        replace U := U.trans u220
        replace kB := u220.blk kB
        replace kN := u220.blk kN
        replace kx := u220.blk kx
        replace kc := u220.blk kc
        replace ku := u220.blk ku
        replace IW := IW.up u220
        replace Ux := Ux.trans u220
        clear u220 HCk
        cases hvx : T.valid (N : Int) (bl + bq) (bh + bq) rl rh ps qs (ls.map (T.shl (fun _ => true) bq)) with
        | false =>
          rw [if_neg (by decide)]
          clear hvx Ux IW HX
          go_upto_if 117 with fail
          go_step
          go_step
          go_step
          first
          | exact sh_tail _ _ _ _ _ _ _ _ _ _ _ _ _ _ _ _ _ _ _ _ _ _ _ _ _ _ _ _ _ _ _ _ _ _ _ _ _ _ _ _ _ _ _ _ _ _ _ _ _ _ _ _ _ _ _ _ _ _ _ _ _ _ _ _ _ _ _ _ _ _ _ _ _ _ _ _ _ _ _ _ _ _ _ _ _ _ _ _ _ _ _ _ _ _ _ _ _ _ _ _ _ _ _ _ _ _ _ _ _ _ _ _ _ _ _ _ _ _ _ _ _ _ _ _ _ _ _ _ _ _ _ _ _ _ _ _ _ _ _ _ _ _ _ _ _ _ _ _ _ _ _ _ _ _ _ _ _ _ _ _ _ _ _ _ _ _ _ _ _ _ (n0 := n0) (n1 := n1) (n2 := n2) (HI.out _ (Up.refl _)) (HJ.out _ (Up.refl _)) (HK.out _ (Up.refl _)) HV.out HIK.out.1 HBQ.out HT.out.1 (by omega) (by omega) U kB kN kc
          | go_step
            first
            | exact sh_tail _ _ _ _ _ _ _ _ _ _ _ _ _ _ _ _ _ _ _ _ _ _ _ _ _ _ _ _ _ _ _ _ _ _ _ _ _ _ _ _ _ _ _ _ _ _ _ _ _ _ _ _ _ _ _ _ _ _ _ _ _ _ _ _ _ _ _ _ _ _ _ _ _ _ _ _ _ _ _ _ _ _ _ _ _ _ _ _ _ _ _ _ _ _ _ _ _ _ _ _ _ _ _ _ _ _ _ _ _ _ _ _ _ _ _ _ _ _ _ _ _ _ _ _ _ _ _ _ _ _ _ _ _ _ _ _ _ _ _ _ _ _ _ _ _ _ _ _ _ _ _ _ _ _ _ _ _ _ _ _ _ _ _ _ _ _ _ _ _ _ (n0 := n0) (n1 := n1) (n2 := n2) (HI.out _ (Up.refl _)) (HJ.out _ (Up.refl _)) (HK.out _ (Up.refl _)) HV.out HIK.out.1 HBQ.out HT.out.1 (by omega) (by omega) U kB kN kc
            | go_step
              first
              | exact sh_tail _ _ _ _ _ _ _ _ _ _ _ _ _ _ _ _ _ _ _ _ _ _ _ _ _ _ _ _ _ _ _ _ _ _ _ _ _ _ _ _ _ _ _ _ _ _ _ _ _ _ _ _ _ _ _ _ _ _ _ _ _ _ _ _ _ _ _ _ _ _ _ _ _ _ _ _ _ _ _ _ _ _ _ _ _ _ _ _ _ _ _ _ _ _ _ _ _ _ _ _ _ _ _ _ _ _ _ _ _ _ _ _ _ _ _ _ _ _ _ _ _ _ _ _ _ _ _ _ _ _ _ _ _ _ _ _ _ _ _ _ _ _ _ _ _ _ _ _ _ _ _ _ _ _ _ _ _ _ _ _ _ _ _ _ _ _ _ _ _ _ (n0 := n0) (n1 := n1) (n2 := n2) (HI.out _ (Up.refl _)) (HJ.out _ (Up.refl _)) (HK.out _ (Up.refl _)) HV.out HIK.out.1 HBQ.out HT.out.1 (by omega) (by omega) U kB kN kc
              | go_step
                first
                | exact sh_tail _ _ _ _ _ _ _ _ _ _ _ _ _ _ _ _ _ _ _ _ _ _ _ _ _ _ _ _ _ _ _ _ _ _ _ _ _ _ _ _ _ _ _ _ _ _ _ _ _ _ _ _ _ _ _ _ _ _ _ _ _ _ _ _ _ _ _ _ _ _ _ _ _ _ _ _ _ _ _ _ _ _ _ _ _ _ _ _ _ _ _ _ _ _ _ _ _ _ _ _ _ _ _ _ _ _ _ _ _ _ _ _ _ _ _ _ _ _ _ _ _ _ _ _ _ _ _ _ _ _ _ _ _ _ _ _ _ _ _ _ _ _ _ _ _ _ _ _ _ _ _ _ _ _ _ _ _ _ _ _ _ _ _ _ _ _ _ _ _ _ (n0 := n0) (n1 := n1) (n2 := n2) (HI.out _ (Up.refl _)) (HJ.out _ (Up.refl _)) (HK.out _ (Up.refl _)) HV.out HIK.out.1 HBQ.out HT.out.1 (by omega) (by omega) U kB kN kc
                | go_step
                  first
                  | exact sh_tail _ _ _ _ _ _ _ _ _ _ _ _ _ _ _ _ _ _ _ _ _ _ _ _ _ _ _ _ _ _ _ _ _ _ _ _ _ _ _ _ _ _ _ _ _ _ _ _ _ _ _ _ _ _ _ _ _ _ _ _ _ _ _ _ _ _ _ _ _ _ _ _ _ _ _ _ _ _ _ _ _ _ _ _ _ _ _ _ _ _ _ _ _ _ _ _ _ _ _ _ _ _ _ _ _ _ _ _ _ _ _ _ _ _ _ _ _ _ _ _ _ _ _ _ _ _ _ _ _ _ _ _ _ _ _ _ _ _ _ _ _ _ _ _ _ _ _ _ _ _ _ _ _ _ _ _ _ _ _ _ _ _ _ _ _ _ _ _ _ _ (n0 := n0) (n1 := n1) (n2 := n2) (HI.out _ (Up.refl _)) (HJ.out _ (Up.refl _)) (HK.out _ (Up.refl _)) HV.out HIK.out.1 HBQ.out HT.out.1 (by omega) (by omega) U kB kN kc
                  | go_step
                    first
                    | exact sh_tail _ _ _ _ _ _ _ _ _ _ _ _ _ _ _ _ _ _ _ _ _ _ _ _ _ _ _ _ _ _ _ _ _ _ _ _ _ _ _ _ _ _ _ _ _ _ _ _ _ _ _ _ _ _ _ _ _ _ _ _ _ _ _ _ _ _ _ _ _ _ _ _ _ _ _ _ _ _ _ _ _ _ _ _ _ _ _ _ _ _ _ _ _ _ _ _ _ _ _ _ _ _ _ _ _ _ _ _ _ _ _ _ _ _ _ _ _ _ _ _ _ _ _ _ _ _ _ _ _ _ _ _ _ _ _ _ _ _ _ _ _ _ _ _ _ _ _ _ _ _ _ _ _ _ _ _ _ _ _ _ _ _ _ _ _ _ _ _ _ _ (n0 := n0) (n1 := n1) (n2 := n2) (HI.out _ (Up.refl _)) (HJ.out _ (Up.refl _)) (HK.out _ (Up.refl _)) HV.out HIK.out.1 HBQ.out HT.out.1 (by omega) (by omega) U kB kN kc
                    | go_step
                      first
                      | exact sh_tail _ _ _ _ _ _ _ _ _ _ _ _ _ _ _ _ _ _ _ _ _ _ _ _ _ _ _ _ _ _ _ _ _ _ _ _ _ _ _ _ _ _ _ _ _ _ _ _ _ _ _ _ _ _ _ _ _ _ _ _ _ _ _ _ _ _ _ _ _ _ _ _ _ _ _ _ _ _ _ _ _ _ _ _ _ _ _ _ _ _ _ _ _ _ _ _ _ _ _ _ _ _ _ _ _ _ _ _ _ _ _ _ _ _ _ _ _ _ _ _ _ _ _ _ _ _ _ _ _ _ _ _ _ _ _ _ _ _ _ _ _ _ _ _ _ _ _ _ _ _ _ _ _ _ _ _ _ _ _ _ _ _ _ _ _ _ _ _ _ _ (n0 := n0) (n1 := n1) (n2 := n2) (HI.out _ (Up.refl _)) (HJ.out _ (Up.refl _)) (HK.out _ (Up.refl _)) HV.out HIK.out.1 HBQ.out HT.out.1 (by omega) (by omega) U kB kN kc
                      | go_step
                        first
                        | exact sh_tail _ _ _ _ _ _ _ _ _ _ _ _ _ _ _ _ _ _ _ _ _ _ _ _ _ _ _ _ _ _ _ _ _ _ _ _ _ _ _ _ _ _ _ _ _ _ _ _ _ _ _ _ _ _ _ _ _ _ _ _ _ _ _ _ _ _ _ _ _ _ _ _ _ _ _ _ _ _ _ _ _ _ _ _ _ _ _ _ _ _ _ _ _ _ _ _ _ _ _ _ _ _ _ _ _ _ _ _ _ _ _ _ _ _ _ _ _ _ _ _ _ _ _ _ _ _ _ _ _ _ _ _ _ _ _ _ _ _ _ _ _ _ _ _ _ _ _ _ _ _ _ _ _ _ _ _ _ _ _ _ _ _ _ _ _ _ _ _ _ _ (n0 := n0) (n1 := n1) (n2 := n2) (HI.out _ (Up.refl _)) (HJ.out _ (Up.refl _)) (HK.out _ (Up.refl _)) HV.out HIK.out.1 HBQ.out HT.out.1 (by omega) (by omega) U kB kN kc
                        | go_step
                          fail
        | true =>
          rw [if_pos rfl]
          rcases HE.out with rfl | ⟨rfl, _, _⟩
          · skip
            obtain ⟨g1, _⟩ := T.shift_tells (o := T.o0) (l := lc) (h := hc) (e := 0) (m := k) (T.valid_bok HV.out) (T.valid_bok hvx) HIK.out.1
            obtain ⟨_, g2⟩ := T.shift_tells (o := T.o0) (l := lu) (h := hu) (e := 0) (m := k) (T.valid_bok HV.out) (T.valid_bok hvx) HIK.out.1
            have tx := g1 HT.out.1
            have ty := g2 HIK.out.2 HT.out.2
            clear g1 g2
            rw [if_pos rfl, if_pos rfl] at tx ty
            rw [Int.add_zero, Int.add_zero] at ty
            have hcb : IntKind.i64.wrap (lc + bq) = lc + bq ∧ IntKind.i64.wrap (hc + bq) = hc + bq := by
              obtain ⟨l9, h9, e9, t9, q1, q2, q3⟩ := T.Tells.ex (o := T.o0) HV.out T.al_0 (T.al_night HIK.out.1)
              have uq := t9.uniq HT.out.1
              have := HBQ.out
              exact ⟨IntWalk.i64_in _ (by omega), IntWalk.i64_in _ (by omega)⟩
            obtain ⟨z5, z6⟩ := hcb
            have Cx := Lib.hid (fun w' (u : Up x3 w') (V : Up w w') => Offset_tells hvx HIK.out.1 tx (HI.out _ V) (HJ.out _ V) (HX.out.up u))
            have Cy := Lib.hid (fun w' (u : Up x3 w') (V : Up w w') => Between_tells hvx HIK.out.1 HIK.out.2 ty (HI.out _ V) (HJ.out _ V) (HX.out.up u))
            have Cz := Lib.hid (fun w' (u : Up x3 w') (V : Up w w') => show Calls Try.prog 31 #[_] w' fun e w'' => (∃ v, e = .returned (.tuple #[v, .int .i64 0]) ∧ Ints w'' v LW) ∧ Up w' w'' by
              have q := Wrong_ok (HI.out _ V) (HJ.out _ V) (HX.out.up u) hvx
              rw [T.shift_wrong HV.out hvx, HLW.out] at q
              exact q)
            clear tx ty hvx
            go_wp2_with fail
            refine (Cx.out _ Ux U).mono ?_
            rintro e x321 ⟨rfl, u322⟩
            replace U := U.trans u322
            replace kB := u322.blk kB
            replace kN := u322.blk kN
            replace kx := u322.blk kx
            replace kc := u322.blk kc
            replace ku := u322.blk ku
            replace IW := IW.up u322
            replace Ux := Ux.trans u322
            clear u322 
            have dkBkp := blk_lt kB
            have dkNkp := blk_lt kN
            have dkxkp := blk_lt kx
            have dkckp := blk_lt kc
            have dkukp := blk_lt ku
            have gkp := U.size
            have kp := blk_new x321 (.cells #[.int .i64 (lc + bq), .int .i64 (hc + bq)] 23) _ rfl
            replace kB := blk_keep (.cells #[.int .i64 (lc + bq), .int .i64 (hc + bq)] 23) kB
            replace kN := blk_keep (.cells #[.int .i64 (lc + bq), .int .i64 (hc + bq)] 23) kN
            replace kx := blk_keep (.cells #[.int .i64 (lc + bq), .int .i64 (hc + bq)] 23) kx
            replace kc := blk_keep (.cells #[.int .i64 (lc + bq), .int .i64 (hc + bq)] 23) kc
            replace ku := blk_keep (.cells #[.int .i64 (lc + bq), .int .i64 (hc + bq)] 23) ku
            replace U := U.alloc (.cells #[.int .i64 (lc + bq), .int .i64 (hc + bq)] 23)
            replace IW := IW.up ((Up.refl x321).alloc (.cells #[.int .i64 (lc + bq), .int .i64 (hc + bq)] 23))
            replace Ux := Ux.alloc (.cells #[.int .i64 (lc + bq), .int .i64 (hc + bq)] 23)
            obtain ⟨pkp, hpkp⟩ : ∃ z, x321.heap.size = z := ⟨_, rfl⟩
            obtain ⟨W323, hW323⟩ : ∃ z, x321.alloc (.cells #[.int .i64 (lc + bq), .int .i64 (hc + bq)] 23) = z := ⟨_, rfl⟩
            rw [hpkp] at kp dkBkp dkNkp dkxkp dkckp dkukp gkp
            rw [hW323] at kp U kB kN kx kc ku IW Ux
            go_wp2_with fail
            clear hpkp hW323
            refine (Cy.out _ Ux U).mono ?_
            rintro e x324 ⟨rfl, u325⟩
            replace U := U.trans u325
            replace kB := u325.blk kB
            replace kN := u325.blk kN
            replace kx := u325.blk kx
            replace kc := u325.blk kc
            replace ku := u325.blk ku
            replace kp := u325.blk kp
            replace IW := IW.up u325
            replace Ux := Ux.trans u325
            clear u325 
            have dkBkq := blk_lt kB
            have dkNkq := blk_lt kN
            have dkxkq := blk_lt kx
            have dkckq := blk_lt kc
            have dkukq := blk_lt ku
            have dkpkq := blk_lt kp
            have gkq := U.size
            have kq := blk_new x324 (.cells #[.int .i64 lu, .int .i64 hu] 23) _ rfl
            replace kB := blk_keep (.cells #[.int .i64 lu, .int .i64 hu] 23) kB
            replace kN := blk_keep (.cells #[.int .i64 lu, .int .i64 hu] 23) kN
            replace kx := blk_keep (.cells #[.int .i64 lu, .int .i64 hu] 23) kx
            replace kc := blk_keep (.cells #[.int .i64 lu, .int .i64 hu] 23) kc
            replace ku := blk_keep (.cells #[.int .i64 lu, .int .i64 hu] 23) ku
            replace kp := blk_keep (.cells #[.int .i64 lu, .int .i64 hu] 23) kp
            replace U := U.alloc (.cells #[.int .i64 lu, .int .i64 hu] 23)
            replace IW := IW.up ((Up.refl x324).alloc (.cells #[.int .i64 lu, .int .i64 hu] 23))
            replace Ux := Ux.alloc (.cells #[.int .i64 lu, .int .i64 hu] 23)
            obtain ⟨pkq, hpkq⟩ : ∃ z, x324.heap.size = z := ⟨_, rfl⟩
            obtain ⟨W326, hW326⟩ : ∃ z, x324.alloc (.cells #[.int .i64 lu, .int .i64 hu] 23) = z := ⟨_, rfl⟩
            rw [hpkq] at kq dkBkq dkNkq dkxkq dkckq dkukq dkpkq gkq
            rw [hW326] at kq U kB kN kx kc ku kp IW Ux
            go_wp2_with fail
            clear hpkq hW326
            refine (Cz.out _ Ux U).mono ?_
            rintro e x6 ⟨⟨vz, rfl, IZ⟩, u⟩
            replace U := U.trans u
            replace kB := u.blk kB
            replace kN := u.blk kN
            replace kx := u.blk kx
            replace kc := u.blk kc
            replace ku := u.blk ku
            replace kp := u.blk kp
            replace kq := u.blk kq
            replace IW := IW.up u
            replace Ux := Ux.trans u
            clear u Cz Cx Cy HX
            obtain ⟨az, cz, rfl, _, _, _⟩ := id IZ.is
            have HAl := Lib.hid (show ∀ w', Up x6 w' → Calls Try.prog 33 #[.slice aw LW.length cw, .slice az LW.length cz] w' fun e w'' => e = .returned (.bool true) ∧ Up w' w'' from fun w' u => by have q := B_Alike_any (IW.up u) (IZ.up u); rw [decide_eq_true rfl] at q; exact q)
            have U6 := Up.refl x6
            have HU6 := Lib.hid U6
            clear Ux IW IZ
            go_wp2_with fail
            have F328 := Lib.hid (fun w (u : Up x6 w) => cellB (u.blk kB))
            have F329 := Lib.hid (fun w (u : Up x6 w) => cellB (u.blk kN))
            have F330 := Lib.hid (fun w (u : Up x6 w) => cellB (u.blk kx))
            have F331 := Lib.hid (fun w (u : Up x6 w) => cellB (u.blk kc))
            have F332 := Lib.hid (fun w (u : Up x6 w) => cellB (u.blk ku))
            have F333 := Lib.hid (fun w (u : Up x6 w) => cellB (u.blk kp))
            have F334 := Lib.hid (fun w (u : Up x6 w) => cellB (u.blk kq))
            refine (wpIn_wide (n := 5)).1 ?_
            refine wpIn_nrm ?_
            refine T.regionQ (fun w' => Up x6 w') 39 1 hmx (by kernel_rfl) (by kernel_rfl) ((Up.refl x6).drew) (fun hCl => ?_)
            refine T.qT 0 (some 136) ?v11 rfl rfl hCl ?hy11 (fun hCl' => ?_)
            case hy11 => (intro w hSw; refine T.qVal ?_ hSw; (try dsimp only [List.getElem_toArray, List.getElem_cons_succ, List.getElem_cons_zero]); go_simp; try with_reducible rfl)
            simp only [Act.put, List.setIfInBounds_toArray, List.set_cons_zero, List.set_cons_succ]; replace hCl := hCl'; clear hCl'
            refine T.qT 1 (some 137) ?v12 rfl rfl hCl ?hy12 (fun hCl' => ?_)
            case hy12 => (intro w hSw; refine T.qVal ?_ hSw; (try dsimp only [List.getElem_toArray, List.getElem_cons_succ, List.getElem_cons_zero]); go_simp; try with_reducible rfl)
            simp only [Act.put, List.setIfInBounds_toArray, List.set_cons_zero, List.set_cons_succ]; replace hCl := hCl'; clear hCl'
            refine T.qT 2 (some 138) ?v13 rfl rfl hCl ?hy13 (fun hCl' => ?_)
            case hy13 => (intro w hSw; refine T.qVal ?_ hSw; (try dsimp only [List.getElem_toArray, List.getElem_cons_succ, List.getElem_cons_zero]); go_simp; try with_reducible rfl)
            simp only [Act.put, List.setIfInBounds_toArray, List.set_cons_zero, List.set_cons_succ]; replace hCl := hCl'; clear hCl'
            refine T.qT 3 (some 139) ?v14 rfl rfl hCl ?hy14 (fun hCl' => ?_)
            case hy14 => (intro w hSw; refine T.qVal ?_ hSw; (try dsimp only [List.getElem_toArray, List.getElem_cons_succ, List.getElem_cons_zero]); go_simp; try with_reducible rfl)
            simp only [Act.put, List.setIfInBounds_toArray, List.set_cons_zero, List.set_cons_succ]; replace hCl := hCl'; clear hCl'
            refine T.qT 4 (some 140) ?v15 rfl rfl hCl ?hy15 (fun hCl' => ?_)
            case hy15 => (intro w hSw; refine T.qVal ?_ hSw; (try dsimp only [List.getElem_toArray, List.getElem_cons_succ, List.getElem_cons_zero]); go_simp; try with_reducible rfl)
            simp only [Act.put, List.setIfInBounds_toArray, List.set_cons_zero, List.set_cons_succ]; replace hCl := hCl'; clear hCl'
            refine T.qT 5 (some 141) ?v16 rfl rfl hCl ?hy16 (fun hCl' => ?_)
            case hy16 => (intro w hSw; refine T.qVal ?_ hSw; (try dsimp only [List.getElem_toArray, List.getElem_cons_succ, List.getElem_cons_zero]); go_simp; try with_reducible rfl)
            simp only [Act.put, List.setIfInBounds_toArray, List.set_cons_zero, List.set_cons_succ]; replace hCl := hCl'; clear hCl'
            refine T.qT 6 (some 142) ?v17 rfl rfl hCl ?hy17 (fun hCl' => ?_)
            case hy17 => (intro w hSw; refine T.qVal ?_ hSw; (try dsimp only [List.getElem_toArray, List.getElem_cons_succ, List.getElem_cons_zero]); go_simp; try with_reducible rfl)
            simp only [Act.put, List.setIfInBounds_toArray, List.set_cons_zero, List.set_cons_succ]; replace hCl := hCl'; clear hCl'
            refine T.qT 7 (some 143) ?v18 rfl rfl hCl ?hy18 (fun hCl' => ?_)
            case hy18 => (intro w hSw; refine T.qVal ?_ hSw; (try dsimp only [List.getElem_toArray, List.getElem_cons_succ, List.getElem_cons_zero]); go_simp; try with_reducible rfl)
            simp only [Act.put, List.setIfInBounds_toArray, List.set_cons_zero, List.set_cons_succ]; replace hCl := hCl'; clear hCl'
            refine T.qT 8 (some 144) ?v19 rfl rfl hCl ?hy19 (fun hCl' => ?_)
            case hy19 => (intro w hSw; refine T.qVal ?_ hSw; (try dsimp only [List.getElem_toArray, List.getElem_cons_succ, List.getElem_cons_zero]); go_simp; try with_reducible rfl)
            simp only [Act.put, List.setIfInBounds_toArray, List.set_cons_zero, List.set_cons_succ]; replace hCl := hCl'; clear hCl'
            refine T.qT 9 (some 145) ?v20 rfl rfl hCl ?hy20 (fun hCl' => ?_)
            case hy20 => (intro w hSw; refine T.qVal ?_ hSw; (try dsimp only [List.getElem_toArray, List.getElem_cons_succ, List.getElem_cons_zero]); go_simp; try with_reducible rfl)
            simp only [Act.put, List.setIfInBounds_toArray, List.set_cons_zero, List.set_cons_succ]; replace hCl := hCl'; clear hCl'
            refine T.qT 10 (some 146) ?v21 rfl rfl hCl ?hy21 (fun hCl' => ?_)
            case hy21 => (intro w hSw; refine T.qVal ?_ hSw; (try dsimp only [List.getElem_toArray, List.getElem_cons_succ, List.getElem_cons_zero]); go_simp; try with_reducible rfl)
            simp only [Act.put, List.setIfInBounds_toArray, List.set_cons_zero, List.set_cons_succ]; replace hCl := hCl'; clear hCl'
            refine T.qT 11 (some 147) ?v22 rfl rfl hCl ?hy22 (fun hCl' => ?_)
            case hy22 => (intro w hSw; refine T.qVal ?_ hSw; (try dsimp only [List.getElem_toArray, List.getElem_cons_succ, List.getElem_cons_zero]); go_simp; try with_reducible rfl)
            simp only [Act.put, List.setIfInBounds_toArray, List.set_cons_zero, List.set_cons_succ]; replace hCl := hCl'; clear hCl'
            refine T.qT 12 (some 148) ?v23 rfl rfl hCl ?hy23 (fun hCl' => ?_)
            case hy23 => (intro w hSw; refine T.qVal ?_ hSw; (try dsimp only [List.getElem_toArray, List.getElem_cons_succ, List.getElem_cons_zero]); go_simp; try with_reducible rfl)
            simp only [Act.put, List.setIfInBounds_toArray, List.set_cons_zero, List.set_cons_succ]; replace hCl := hCl'; clear hCl'
            refine T.qT 13 (some 149) ?v24 rfl rfl hCl ?hy24 (fun hCl' => ?_)
            case hy24 => (intro w hSw; refine T.qVal ?_ hSw; (try dsimp only [List.getElem_toArray, List.getElem_cons_succ, List.getElem_cons_zero]); go_simp; try with_reducible rfl)
            simp only [Act.put, List.setIfInBounds_toArray, List.set_cons_zero, List.set_cons_succ]; replace hCl := hCl'; clear hCl'
            refine T.qT 14 (some 150) ?v25 rfl rfl hCl ?hy25 (fun hCl' => ?_)
            case hy25 => (intro w hSw; refine T.qVal ?_ hSw; (try dsimp only [List.getElem_toArray, List.getElem_cons_succ, List.getElem_cons_zero]); go_simp; try with_reducible rfl)
            simp only [Act.put, List.setIfInBounds_toArray, List.set_cons_zero, List.set_cons_succ]; replace hCl := hCl'; clear hCl'
            refine T.qT 15 (some 151) ((.bool true)) rfl rfl hCl ?hy26 (fun hCl' => ?_)
            case hy26 => (intro w hSw; (have fF328 := F328.out w hSw; have fF329 := F329.out w hSw; have fF330 := F330.out w hSw; have fF331 := F331.out w hSw; have fF332 := F332.out w hSw; have fF333 := F333.out w hSw; have fF334 := F334.out w hSw); (try dsimp only [List.getElem_toArray, List.getElem_cons_succ, List.getElem_cons_zero]); go_simp; (refine (callsIn_wide.2 (HAl.out w (U6.trans hSw))).mono ?_; rintro e w3 ⟨rfl, u3⟩; exact ⟨rfl, hSw.trans u3⟩))
            simp only [Act.put, List.setIfInBounds_toArray, List.set_cons_zero, List.set_cons_succ]
            replace hCl := hCl'; clear hCl'
            refine T.qT 16 (some 152) ?v27 rfl rfl hCl ?hy27 (fun hCl' => ?_)
            case hy27 => (intro w hSw; refine T.qVal ?_ hSw; (try dsimp only [List.getElem_toArray, List.getElem_cons_succ, List.getElem_cons_zero]); go_simp; try with_reducible rfl)
            simp only [Act.put, List.setIfInBounds_toArray, List.set_cons_zero, List.set_cons_succ]; replace hCl := hCl'; clear hCl'
            refine T.qT 17 (some 153) ?v28 rfl rfl hCl ?hy28 (fun hCl' => ?_)
            case hy28 => (intro w hSw; refine T.qVal ?_ hSw; (try dsimp only [List.getElem_toArray, List.getElem_cons_succ, List.getElem_cons_zero]); go_simp; try with_reducible rfl)
            simp only [Act.put, List.setIfInBounds_toArray, List.set_cons_zero, List.set_cons_succ]; replace hCl := hCl'; clear hCl'
            refine T.qT 18 (some 154) ?v29 rfl rfl hCl ?hy29 (fun hCl' => ?_)
            case hy29 => (intro w hSw; refine T.qVal ?_ hSw; (try dsimp only [List.getElem_toArray, List.getElem_cons_succ, List.getElem_cons_zero]); go_simp; try with_reducible rfl)
            simp only [Act.put, List.setIfInBounds_toArray, List.set_cons_zero, List.set_cons_succ]; replace hCl := hCl'; clear hCl'
            refine T.qT 19 (some 155) ?v30 rfl rfl hCl ?hy30 (fun hCl' => ?_)
            case hy30 => (intro w hSw; refine T.qVal ?_ hSw; (try dsimp only [List.getElem_toArray, List.getElem_cons_succ, List.getElem_cons_zero]); go_simp; try with_reducible rfl)
            simp only [Act.put, List.setIfInBounds_toArray, List.set_cons_zero, List.set_cons_succ]; replace hCl := hCl'; clear hCl'
            refine T.qT 20 (some 156) ?v31 rfl rfl hCl ?hy31 (fun hCl' => ?_)
            case hy31 => (intro w hSw; refine T.qVal ?_ hSw; (try dsimp only [List.getElem_toArray, List.getElem_cons_succ, List.getElem_cons_zero]); go_simp; try with_reducible rfl)
            simp only [Act.put, List.setIfInBounds_toArray, List.set_cons_zero, List.set_cons_succ]; replace hCl := hCl'; clear hCl'
            refine T.qT 21 (some 157) ?v32 rfl rfl hCl ?hy32 (fun hCl' => ?_)
            case hy32 => (intro w hSw; refine T.qVal ?_ hSw; (try dsimp only [List.getElem_toArray, List.getElem_cons_succ, List.getElem_cons_zero]); go_simp; try with_reducible rfl)
            simp only [Act.put, List.setIfInBounds_toArray, List.set_cons_zero, List.set_cons_succ]; replace hCl := hCl'; clear hCl'
            refine T.qT 22 (some 158) ?v33 rfl rfl hCl ?hy33 (fun hCl' => ?_)
            case hy33 => (intro w hSw; refine T.qVal ?_ hSw; (have fF328 := F328.out w hSw; have fF329 := F329.out w hSw; have fF330 := F330.out w hSw; have fF331 := F331.out w hSw; have fF332 := F332.out w hSw; have fF333 := F333.out w hSw; have fF334 := F334.out w hSw); (try dsimp only [List.getElem_toArray, List.getElem_cons_succ, List.getElem_cons_zero]); go_simp; try with_reducible rfl)
            simp only [Act.put, List.setIfInBounds_toArray, List.set_cons_zero, List.set_cons_succ]; replace hCl := hCl'; clear hCl'
            refine T.qT 23 (some 159) ?v34 rfl rfl hCl ?hy34 (fun hCl' => ?_)
            case hy34 => (intro w hSw; refine T.qVal ?_ hSw; (try dsimp only [List.getElem_toArray, List.getElem_cons_succ, List.getElem_cons_zero]); go_simp; try with_reducible rfl)
            simp only [Act.put, List.setIfInBounds_toArray, List.set_cons_zero, List.set_cons_succ]; replace hCl := hCl'; clear hCl'
            refine T.qT 25 (some 161) ?v35 rfl rfl hCl ?hy35 (fun hCl' => ?_)
            case hy35 => (intro w hSw; refine T.qVal ?_ hSw; (try dsimp only [List.getElem_toArray, List.getElem_cons_succ, List.getElem_cons_zero]); go_simp; try with_reducible rfl)
            simp only [Act.put, List.setIfInBounds_toArray, List.set_cons_zero, List.set_cons_succ]; replace hCl := hCl'; clear hCl'
            refine T.qT 27 (some 163) ?v36 rfl rfl hCl ?hy36 (fun hCl' => ?_)
            case hy36 => (intro w hSw; refine T.qVal ?_ hSw; (try dsimp only [List.getElem_toArray, List.getElem_cons_succ, List.getElem_cons_zero]); go_simp; try with_reducible rfl)
            simp only [Act.put, List.setIfInBounds_toArray, List.set_cons_zero, List.set_cons_succ]; replace hCl := hCl'; clear hCl'
            refine T.qT 29 (some 165) ?v37 rfl rfl hCl ?hy37 (fun hCl' => ?_)
            case hy37 => (intro w hSw; refine T.qVal ?_ hSw; (try dsimp only [List.getElem_toArray, List.getElem_cons_succ, List.getElem_cons_zero]); go_simp; try with_reducible rfl)
            simp only [Act.put, List.setIfInBounds_toArray, List.set_cons_zero, List.set_cons_succ]; replace hCl := hCl'; clear hCl'
            refine T.qT 24 (some 160) ?v38 rfl rfl hCl ?hy38 (fun hCl' => ?_)
            case hy38 => (intro w hSw; refine T.qVal ?_ hSw; (have fF328 := F328.out w hSw; have fF329 := F329.out w hSw; have fF330 := F330.out w hSw; have fF331 := F331.out w hSw; have fF332 := F332.out w hSw; have fF333 := F333.out w hSw; have fF334 := F334.out w hSw); (try dsimp only [List.getElem_toArray, List.getElem_cons_succ, List.getElem_cons_zero]); go_simp; try with_reducible rfl)
            simp only [Act.put, List.setIfInBounds_toArray, List.set_cons_zero, List.set_cons_succ]; replace hCl := hCl'; clear hCl'
            refine T.qT 28 (some 164) ?v39 rfl rfl hCl ?hy39 (fun hCl' => ?_)
            case hy39 => (intro w hSw; refine T.qVal ?_ hSw; (have fF328 := F328.out w hSw; have fF329 := F329.out w hSw; have fF330 := F330.out w hSw; have fF331 := F331.out w hSw; have fF332 := F332.out w hSw; have fF333 := F333.out w hSw; have fF334 := F334.out w hSw); (try dsimp only [List.getElem_toArray, List.getElem_cons_succ, List.getElem_cons_zero]); go_simp; try with_reducible rfl)
            simp only [Act.put, List.setIfInBounds_toArray, List.set_cons_zero, List.set_cons_succ]; replace hCl := hCl'; clear hCl'
            refine T.qT 26 (some 162) ?v40 rfl rfl hCl ?hy40 (fun hCl' => ?_)
            case hy40 => (intro w hSw; refine T.qVal ?_ hSw; (try dsimp only [List.getElem_toArray, List.getElem_cons_succ, List.getElem_cons_zero]); go_simp; try with_reducible rfl)
            simp only [Act.put, List.setIfInBounds_toArray, List.set_cons_zero, List.set_cons_succ]; replace hCl := hCl'; clear hCl'
            refine T.qT 30 (some 166) ?v41 rfl rfl hCl ?hy41 (fun hCl' => ?_)
            case hy41 => (intro w hSw; refine T.qVal ?_ hSw; (try dsimp only [List.getElem_toArray, List.getElem_cons_succ, List.getElem_cons_zero]); go_simp; try with_reducible rfl)
            simp only [Act.put, List.setIfInBounds_toArray, List.set_cons_zero, List.set_cons_succ]; replace hCl := hCl'; clear hCl'
            refine T.qT 31 (some 167) ((SpV (lc + bq) (hc + bq))) rfl rfl hCl ?hy42 (fun hCl' => ?_)
            case hy42 => (intro w hSw; (have fF328 := F328.out w hSw; have fF329 := F329.out w hSw; have fF330 := F330.out w hSw; have fF331 := F331.out w hSw; have fF332 := F332.out w hSw; have fF333 := F333.out w hSw; have fF334 := F334.out w hSw); (try dsimp only [List.getElem_toArray, List.getElem_cons_succ, List.getElem_cons_zero]); go_simp; (refine (callsIn_wide.2 (HTo.out _ _ w)).mono ?_; rintro e w3 ⟨rfl, u3⟩; exact ⟨rfl, hSw.trans u3⟩))
            simp only [Act.put, List.setIfInBounds_toArray, List.set_cons_zero, List.set_cons_succ]
            replace hCl := hCl'; clear hCl'
            refine T.qT 32 (some 168) ?v43 rfl rfl hCl ?hy43 (fun hCl' => ?_)
            case hy43 => (intro w hSw; refine T.qVal ?_ hSw; (try dsimp only [List.getElem_toArray, List.getElem_cons_succ, List.getElem_cons_zero]); go_simp; try with_reducible rfl)
            simp only [Act.put, List.setIfInBounds_toArray, List.set_cons_zero, List.set_cons_succ]; replace hCl := hCl'; clear hCl'
            refine T.qT 33 (some 169) ?v44 rfl rfl hCl ?hy44 (fun hCl' => ?_)
            case hy44 => (intro w hSw; refine T.qVal ?_ hSw; (try dsimp only [List.getElem_toArray, List.getElem_cons_succ, List.getElem_cons_zero]); go_simp; try with_reducible rfl)
            simp only [Act.put, List.setIfInBounds_toArray, List.set_cons_zero, List.set_cons_succ]; replace hCl := hCl'; clear hCl'
            refine T.qT 34 (some 170) ?v45 rfl rfl hCl ?hy45 (fun hCl' => ?_)
            case hy45 => (intro w hSw; refine T.qVal ?_ hSw; (try dsimp only [List.getElem_toArray, List.getElem_cons_succ, List.getElem_cons_zero]); go_simp; try with_reducible rfl)
            simp only [Act.put, List.setIfInBounds_toArray, List.set_cons_zero, List.set_cons_succ]; replace hCl := hCl'; clear hCl'
            refine T.qT 35 (some 171) ?v46 rfl rfl hCl ?hy46 (fun hCl' => ?_)
            case hy46 => (intro w hSw; refine T.qVal ?_ hSw; (try dsimp only [List.getElem_toArray, List.getElem_cons_succ, List.getElem_cons_zero]); go_simp; try with_reducible rfl)
            simp only [Act.put, List.setIfInBounds_toArray, List.set_cons_zero, List.set_cons_succ]; replace hCl := hCl'; clear hCl'
            refine T.qT 36 (some 172) ?v47 rfl rfl hCl ?hy47 (fun hCl' => ?_)
            case hy47 => (intro w hSw; refine T.qVal ?_ hSw; (have fF328 := F328.out w hSw; have fF329 := F329.out w hSw; have fF330 := F330.out w hSw; have fF331 := F331.out w hSw; have fF332 := F332.out w hSw; have fF333 := F333.out w hSw; have fF334 := F334.out w hSw); (try dsimp only [List.getElem_toArray, List.getElem_cons_succ, List.getElem_cons_zero]); go_simp; try with_reducible rfl)
            simp only [Act.put, List.setIfInBounds_toArray, List.set_cons_zero, List.set_cons_succ]; replace hCl := hCl'; clear hCl'
            refine T.qT 37 (some 173) ?v48 rfl rfl hCl ?hy48 (fun hCl' => ?_)
            case hy48 => (intro w hSw; refine T.qVal ?_ hSw; (have fF328 := F328.out w hSw; have fF329 := F329.out w hSw; have fF330 := F330.out w hSw; have fF331 := F331.out w hSw; have fF332 := F332.out w hSw; have fF333 := F333.out w hSw; have fF334 := F334.out w hSw); (try dsimp only [List.getElem_toArray, List.getElem_cons_succ, List.getElem_cons_zero]); go_simp; try with_reducible rfl)
            simp only [Act.put, List.setIfInBounds_toArray, List.set_cons_zero, List.set_cons_succ]; replace hCl := hCl'; clear hCl'
            refine T.qT 38 (some 174) ?v49 rfl rfl hCl ?hy49 (fun hCl' => ?_)
            case hy49 => (intro w hSw; refine T.qVal ?_ hSw; (try dsimp only [List.getElem_toArray, List.getElem_cons_succ, List.getElem_cons_zero]); go_simp; try with_reducible rfl)
            simp only [Act.put, List.setIfInBounds_toArray, List.set_cons_zero, List.set_cons_succ]; replace hCl := hCl'; clear hCl'
            refine T.tail_intro (by kernel_rfl) (fun Y327 hY327 => ?_)
            replace U := U.trans hY327
            replace kB := hY327.blk kB
            replace kN := hY327.blk kN
            replace kx := hY327.blk kx
            replace kc := hY327.blk kc
            replace ku := hY327.blk ku
            replace kp := hY327.blk kp
            replace kq := hY327.blk kq
            replace U6 := U6.trans hY327
            clear F328 F329 F330 F331 F332 F333 F334 hY327
            refine lastG (i := 39) (by kernel_rfl) rfl (by rfl) (by decide) (fun K hK => ?_)
            go_simp
            refine hK.out _ _ ?_
            clear hK K
            refine doneG (by kernel_rfl) ?_ _
            refine S.nrm_intro ?_
            clear U6 HU6 HAl
            clear kx ku kp kq
            go_upto_if 175 with fail
            go_step
            go_step
            go_step
            first
            | exact sh_tail _ _ _ _ _ _ _ _ _ _ _ _ _ _ _ _ _ _ _ _ _ _ _ _ _ _ _ _ _ _ _ _ _ _ _ _ _ _ _ _ _ _ _ _ _ _ _ _ _ _ _ _ _ _ _ _ _ _ _ _ _ _ _ _ _ _ _ _ _ _ _ _ _ _ _ _ _ _ _ _ _ _ _ _ _ _ _ _ _ _ _ _ _ _ _ _ _ _ _ _ _ _ _ _ _ _ _ _ _ _ _ _ _ _ _ _ _ _ _ _ _ _ _ _ _ _ _ _ _ _ _ _ _ _ _ _ _ _ _ _ _ _ _ _ _ _ _ _ _ _ _ _ _ _ _ _ _ _ _ _ _ _ _ _ _ _ _ _ _ _ (n0 := n0) (n1 := n1) (n2 := n2) (HI.out _ (Up.refl _)) (HJ.out _ (Up.refl _)) (HK.out _ (Up.refl _)) HV.out HIK.out.1 HBQ.out HT.out.1 (by omega) (by omega) U kB kN kc
            | go_step
              first
              | exact sh_tail _ _ _ _ _ _ _ _ _ _ _ _ _ _ _ _ _ _ _ _ _ _ _ _ _ _ _ _ _ _ _ _ _ _ _ _ _ _ _ _ _ _ _ _ _ _ _ _ _ _ _ _ _ _ _ _ _ _ _ _ _ _ _ _ _ _ _ _ _ _ _ _ _ _ _ _ _ _ _ _ _ _ _ _ _ _ _ _ _ _ _ _ _ _ _ _ _ _ _ _ _ _ _ _ _ _ _ _ _ _ _ _ _ _ _ _ _ _ _ _ _ _ _ _ _ _ _ _ _ _ _ _ _ _ _ _ _ _ _ _ _ _ _ _ _ _ _ _ _ _ _ _ _ _ _ _ _ _ _ _ _ _ _ _ _ _ _ _ _ _ (n0 := n0) (n1 := n1) (n2 := n2) (HI.out _ (Up.refl _)) (HJ.out _ (Up.refl _)) (HK.out _ (Up.refl _)) HV.out HIK.out.1 HBQ.out HT.out.1 (by omega) (by omega) U kB kN kc
              | go_step
                first
                | exact sh_tail _ _ _ _ _ _ _ _ _ _ _ _ _ _ _ _ _ _ _ _ _ _ _ _ _ _ _ _ _ _ _ _ _ _ _ _ _ _ _ _ _ _ _ _ _ _ _ _ _ _ _ _ _ _ _ _ _ _ _ _ _ _ _ _ _ _ _ _ _ _ _ _ _ _ _ _ _ _ _ _ _ _ _ _ _ _ _ _ _ _ _ _ _ _ _ _ _ _ _ _ _ _ _ _ _ _ _ _ _ _ _ _ _ _ _ _ _ _ _ _ _ _ _ _ _ _ _ _ _ _ _ _ _ _ _ _ _ _ _ _ _ _ _ _ _ _ _ _ _ _ _ _ _ _ _ _ _ _ _ _ _ _ _ _ _ _ _ _ _ _ (n0 := n0) (n1 := n1) (n2 := n2) (HI.out _ (Up.refl _)) (HJ.out _ (Up.refl _)) (HK.out _ (Up.refl _)) HV.out HIK.out.1 HBQ.out HT.out.1 (by omega) (by omega) U kB kN kc
                | go_step
                  first
                  | exact sh_tail _ _ _ _ _ _ _ _ _ _ _ _ _ _ _ _ _ _ _ _ _ _ _ _ _ _ _ _ _ _ _ _ _ _ _ _ _ _ _ _ _ _ _ _ _ _ _ _ _ _ _ _ _ _ _ _ _ _ _ _ _ _ _ _ _ _ _ _ _ _ _ _ _ _ _ _ _ _ _ _ _ _ _ _ _ _ _ _ _ _ _ _ _ _ _ _ _ _ _ _ _ _ _ _ _ _ _ _ _ _ _ _ _ _ _ _ _ _ _ _ _ _ _ _ _ _ _ _ _ _ _ _ _ _ _ _ _ _ _ _ _ _ _ _ _ _ _ _ _ _ _ _ _ _ _ _ _ _ _ _ _ _ _ _ _ _ _ _ _ _ (n0 := n0) (n1 := n1) (n2 := n2) (HI.out _ (Up.refl _)) (HJ.out _ (Up.refl _)) (HK.out _ (Up.refl _)) HV.out HIK.out.1 HBQ.out HT.out.1 (by omega) (by omega) U kB kN kc
                  | go_step
                    first
                    | exact sh_tail _ _ _ _ _ _ _ _ _ _ _ _ _ _ _ _ _ _ _ _ _ _ _ _ _ _ _ _ _ _ _ _ _ _ _ _ _ _ _ _ _ _ _ _ _ _ _ _ _ _ _ _ _ _ _ _ _ _ _ _ _ _ _ _ _ _ _ _ _ _ _ _ _ _ _ _ _ _ _ _ _ _ _ _ _ _ _ _ _ _ _ _ _ _ _ _ _ _ _ _ _ _ _ _ _ _ _ _ _ _ _ _ _ _ _ _ _ _ _ _ _ _ _ _ _ _ _ _ _ _ _ _ _ _ _ _ _ _ _ _ _ _ _ _ _ _ _ _ _ _ _ _ _ _ _ _ _ _ _ _ _ _ _ _ _ _ _ _ _ _ (n0 := n0) (n1 := n1) (n2 := n2) (HI.out _ (Up.refl _)) (HJ.out _ (Up.refl _)) (HK.out _ (Up.refl _)) HV.out HIK.out.1 HBQ.out HT.out.1 (by omega) (by omega) U kB kN kc
                    | go_step
                      first
                      | exact sh_tail _ _ _ _ _ _ _ _ _ _ _ _ _ _ _ _ _ _ _ _ _ _ _ _ _ _ _ _ _ _ _ _ _ _ _ _ _ _ _ _ _ _ _ _ _ _ _ _ _ _ _ _ _ _ _ _ _ _ _ _ _ _ _ _ _ _ _ _ _ _ _ _ _ _ _ _ _ _ _ _ _ _ _ _ _ _ _ _ _ _ _ _ _ _ _ _ _ _ _ _ _ _ _ _ _ _ _ _ _ _ _ _ _ _ _ _ _ _ _ _ _ _ _ _ _ _ _ _ _ _ _ _ _ _ _ _ _ _ _ _ _ _ _ _ _ _ _ _ _ _ _ _ _ _ _ _ _ _ _ _ _ _ _ _ _ _ _ _ _ _ (n0 := n0) (n1 := n1) (n2 := n2) (HI.out _ (Up.refl _)) (HJ.out _ (Up.refl _)) (HK.out _ (Up.refl _)) HV.out HIK.out.1 HBQ.out HT.out.1 (by omega) (by omega) U kB kN kc
                      | go_step
                        first
                        | exact sh_tail _ _ _ _ _ _ _ _ _ _ _ _ _ _ _ _ _ _ _ _ _ _ _ _ _ _ _ _ _ _ _ _ _ _ _ _ _ _ _ _ _ _ _ _ _ _ _ _ _ _ _ _ _ _ _ _ _ _ _ _ _ _ _ _ _ _ _ _ _ _ _ _ _ _ _ _ _ _ _ _ _ _ _ _ _ _ _ _ _ _ _ _ _ _ _ _ _ _ _ _ _ _ _ _ _ _ _ _ _ _ _ _ _ _ _ _ _ _ _ _ _ _ _ _ _ _ _ _ _ _ _ _ _ _ _ _ _ _ _ _ _ _ _ _ _ _ _ _ _ _ _ _ _ _ _ _ _ _ _ _ _ _ _ _ _ _ _ _ _ _ (n0 := n0) (n1 := n1) (n2 := n2) (HI.out _ (Up.refl _)) (HJ.out _ (Up.refl _)) (HK.out _ (Up.refl _)) HV.out HIK.out.1 HBQ.out HT.out.1 (by omega) (by omega) U kB kN kc
                        | go_step
                          first
                          | exact sh_tail _ _ _ _ _ _ _ _ _ _ _ _ _ _ _ _ _ _ _ _ _ _ _ _ _ _ _ _ _ _ _ _ _ _ _ _ _ _ _ _ _ _ _ _ _ _ _ _ _ _ _ _ _ _ _ _ _ _ _ _ _ _ _ _ _ _ _ _ _ _ _ _ _ _ _ _ _ _ _ _ _ _ _ _ _ _ _ _ _ _ _ _ _ _ _ _ _ _ _ _ _ _ _ _ _ _ _ _ _ _ _ _ _ _ _ _ _ _ _ _ _ _ _ _ _ _ _ _ _ _ _ _ _ _ _ _ _ _ _ _ _ _ _ _ _ _ _ _ _ _ _ _ _ _ _ _ _ _ _ _ _ _ _ _ _ _ _ _ _ _ (n0 := n0) (n1 := n1) (n2 := n2) (HI.out _ (Up.refl _)) (HJ.out _ (Up.refl _)) (HK.out _ (Up.refl _)) HV.out HIK.out.1 HBQ.out HT.out.1 (by omega) (by omega) U kB kN kc
                          | go_step
                            fail
          · skip
            obtain ⟨_, rfl, rfl, _⟩ := HT.out.1.no (by decide)
            obtain ⟨_, rfl, rfl, _⟩ := HT.out.2.no (by decide)
            obtain ⟨g1, _⟩ := T.shift_tells (o := T.o0) (l := 0) (h := 0) (e := 32) (m := k) (T.valid_bok HV.out) (T.valid_bok hvx) HIK.out.1
            obtain ⟨_, g2⟩ := T.shift_tells (o := T.o0) (l := 0) (h := 0) (e := 32) (m := k) (T.valid_bok HV.out) (T.valid_bok hvx) HIK.out.1
            have tx := g1 HT.out.1
            have ty := g2 HIK.out.2 HT.out.2
            clear g1 g2
            rw [if_neg (by decide)] at tx ty
            have Cx := Lib.hid (fun w' (u : Up x3 w') (V : Up w w') => Offset_tells hvx HIK.out.1 tx (HI.out _ V) (HJ.out _ V) (HX.out.up u))
            have Cy := Lib.hid (fun w' (u : Up x3 w') (V : Up w w') => Between_tells hvx HIK.out.1 HIK.out.2 ty (HI.out _ V) (HJ.out _ V) (HX.out.up u))
            have Cz := Lib.hid (fun w' (u : Up x3 w') (V : Up w w') => show Calls Try.prog 31 #[_] w' fun e w'' => (∃ v, e = .returned (.tuple #[v, .int .i64 0]) ∧ Ints w'' v LW) ∧ Up w' w'' by
              have q := Wrong_ok (HI.out _ V) (HJ.out _ V) (HX.out.up u) hvx
              rw [T.shift_wrong HV.out hvx, HLW.out] at q
              exact q)
            clear tx ty hvx
            go_wp2_with fail
            refine (Cx.out _ Ux U).mono ?_
            rintro e x321 ⟨rfl, u322⟩
            replace U := U.trans u322
            replace kB := u322.blk kB
            replace kN := u322.blk kN
            replace kx := u322.blk kx
            replace kc := u322.blk kc
            replace ku := u322.blk ku
            replace IW := IW.up u322
            replace Ux := Ux.trans u322
            clear u322 
            have dkBkp := blk_lt kB
            have dkNkp := blk_lt kN
            have dkxkp := blk_lt kx
            have dkckp := blk_lt kc
            have dkukp := blk_lt ku
            have gkp := U.size
            have kp := blk_new x321 (.cells #[.int .i64 0, .int .i64 0] 23) _ rfl
            replace kB := blk_keep (.cells #[.int .i64 0, .int .i64 0] 23) kB
            replace kN := blk_keep (.cells #[.int .i64 0, .int .i64 0] 23) kN
            replace kx := blk_keep (.cells #[.int .i64 0, .int .i64 0] 23) kx
            replace kc := blk_keep (.cells #[.int .i64 0, .int .i64 0] 23) kc
            replace ku := blk_keep (.cells #[.int .i64 0, .int .i64 0] 23) ku
            replace U := U.alloc (.cells #[.int .i64 0, .int .i64 0] 23)
            replace IW := IW.up ((Up.refl x321).alloc (.cells #[.int .i64 0, .int .i64 0] 23))
            replace Ux := Ux.alloc (.cells #[.int .i64 0, .int .i64 0] 23)
            go_wp2_with fail
            obtain ⟨pkp, hpkp⟩ : ∃ z, x321.heap.size = z := ⟨_, rfl⟩
            obtain ⟨W323, hW323⟩ : ∃ z, x321.alloc (.cells #[.int .i64 0, .int .i64 0] 23) = z := ⟨_, rfl⟩
            rw [hpkp] at kp dkBkp dkNkp dkxkp dkckp dkukp gkp
            rw [hW323] at kp U kB kN kx kc ku IW Ux
            rw [hW323, hpkp]
            go_wp2_with fail
            clear hpkp hW323
            refine (Cy.out _ Ux U).mono ?_
            rintro e x324 ⟨rfl, u325⟩
            replace U := U.trans u325
            replace kB := u325.blk kB
            replace kN := u325.blk kN
            replace kx := u325.blk kx
            replace kc := u325.blk kc
            replace ku := u325.blk ku
            replace kp := u325.blk kp
            replace IW := IW.up u325
            replace Ux := Ux.trans u325
            clear u325 
            have dkBkq := blk_lt kB
            have dkNkq := blk_lt kN
            have dkxkq := blk_lt kx
            have dkckq := blk_lt kc
            have dkukq := blk_lt ku
            have dkpkq := blk_lt kp
            have gkq := U.size
            have kq := blk_new x324 (.cells #[.int .i64 0, .int .i64 0] 23) _ rfl
            replace kB := blk_keep (.cells #[.int .i64 0, .int .i64 0] 23) kB
            replace kN := blk_keep (.cells #[.int .i64 0, .int .i64 0] 23) kN
            replace kx := blk_keep (.cells #[.int .i64 0, .int .i64 0] 23) kx
            replace kc := blk_keep (.cells #[.int .i64 0, .int .i64 0] 23) kc
            replace ku := blk_keep (.cells #[.int .i64 0, .int .i64 0] 23) ku
            replace kp := blk_keep (.cells #[.int .i64 0, .int .i64 0] 23) kp
            replace U := U.alloc (.cells #[.int .i64 0, .int .i64 0] 23)
            replace IW := IW.up ((Up.refl x324).alloc (.cells #[.int .i64 0, .int .i64 0] 23))
            replace Ux := Ux.alloc (.cells #[.int .i64 0, .int .i64 0] 23)
            go_wp2_with fail
            obtain ⟨pkq, hpkq⟩ : ∃ z, x324.heap.size = z := ⟨_, rfl⟩
            obtain ⟨W326, hW326⟩ : ∃ z, x324.alloc (.cells #[.int .i64 0, .int .i64 0] 23) = z := ⟨_, rfl⟩
            rw [hpkq] at kq dkBkq dkNkq dkxkq dkckq dkukq dkpkq gkq
            rw [hW326] at kq U kB kN kx kc ku kp IW Ux
            rw [hW326, hpkq]
            go_wp2_with fail
            clear hpkq hW326
            refine (Cz.out _ Ux U).mono ?_
            rintro e x6 ⟨⟨vz, rfl, IZ⟩, u⟩
            replace U := U.trans u
            replace kB := u.blk kB
            replace kN := u.blk kN
            replace kx := u.blk kx
            replace kc := u.blk kc
            replace ku := u.blk ku
            replace kp := u.blk kp
            replace kq := u.blk kq
            replace IW := IW.up u
            replace Ux := Ux.trans u
            clear u Cz Cx Cy HX
            obtain ⟨az, cz, rfl, _, _, _⟩ := id IZ.is
            have HAl := Lib.hid (show ∀ w', Up x6 w' → Calls Try.prog 33 #[.slice aw LW.length cw, .slice az LW.length cz] w' fun e w'' => e = .returned (.bool true) ∧ Up w' w'' from fun w' u => by have q := B_Alike_any (IW.up u) (IZ.up u); rw [decide_eq_true rfl] at q; exact q)
            have U6 := Up.refl x6
            have HU6 := Lib.hid U6
            clear Ux IW IZ
            go_wp2_with fail
            have F328 := Lib.hid (fun w (u : Up x6 w) => cellB (u.blk kB))
            have F329 := Lib.hid (fun w (u : Up x6 w) => cellB (u.blk kN))
            have F330 := Lib.hid (fun w (u : Up x6 w) => cellB (u.blk kx))
            have F331 := Lib.hid (fun w (u : Up x6 w) => cellB (u.blk kc))
            have F332 := Lib.hid (fun w (u : Up x6 w) => cellB (u.blk ku))
            have F333 := Lib.hid (fun w (u : Up x6 w) => cellB (u.blk kp))
            have F334 := Lib.hid (fun w (u : Up x6 w) => cellB (u.blk kq))
            refine (wpIn_wide (n := 5)).1 ?_
            refine wpIn_nrm ?_
            refine T.regionQ (fun w' => Up x6 w') 39 1 hmx (by kernel_rfl) (by kernel_rfl) ((Up.refl x6).drew) (fun hCl => ?_)
            refine T.qT 0 (some 136) ?v50 rfl rfl hCl ?hy50 (fun hCl' => ?_)
            case hy50 => (intro w hSw; refine T.qVal ?_ hSw; (try dsimp only [List.getElem_toArray, List.getElem_cons_succ, List.getElem_cons_zero]); go_simp; try with_reducible rfl)
            simp only [Act.put, List.setIfInBounds_toArray, List.set_cons_zero, List.set_cons_succ]; replace hCl := hCl'; clear hCl'
            refine T.qT 1 (some 137) ?v51 rfl rfl hCl ?hy51 (fun hCl' => ?_)
            case hy51 => (intro w hSw; refine T.qVal ?_ hSw; (try dsimp only [List.getElem_toArray, List.getElem_cons_succ, List.getElem_cons_zero]); go_simp; try with_reducible rfl)
            simp only [Act.put, List.setIfInBounds_toArray, List.set_cons_zero, List.set_cons_succ]; replace hCl := hCl'; clear hCl'
            refine T.qT 2 (some 138) ?v52 rfl rfl hCl ?hy52 (fun hCl' => ?_)
            case hy52 => (intro w hSw; refine T.qVal ?_ hSw; (try dsimp only [List.getElem_toArray, List.getElem_cons_succ, List.getElem_cons_zero]); go_simp; try with_reducible rfl)
            simp only [Act.put, List.setIfInBounds_toArray, List.set_cons_zero, List.set_cons_succ]; replace hCl := hCl'; clear hCl'
            refine T.qT 3 (some 139) ?v53 rfl rfl hCl ?hy53 (fun hCl' => ?_)
            case hy53 => (intro w hSw; refine T.qVal ?_ hSw; (try dsimp only [List.getElem_toArray, List.getElem_cons_succ, List.getElem_cons_zero]); go_simp; try with_reducible rfl)
            simp only [Act.put, List.setIfInBounds_toArray, List.set_cons_zero, List.set_cons_succ]; replace hCl := hCl'; clear hCl'
            refine T.qT 4 (some 140) ?v54 rfl rfl hCl ?hy54 (fun hCl' => ?_)
            case hy54 => (intro w hSw; refine T.qVal ?_ hSw; (try dsimp only [List.getElem_toArray, List.getElem_cons_succ, List.getElem_cons_zero]); go_simp; try with_reducible rfl)
            simp only [Act.put, List.setIfInBounds_toArray, List.set_cons_zero, List.set_cons_succ]; replace hCl := hCl'; clear hCl'
            refine T.qT 5 (some 141) ?v55 rfl rfl hCl ?hy55 (fun hCl' => ?_)
            case hy55 => (intro w hSw; refine T.qVal ?_ hSw; (try dsimp only [List.getElem_toArray, List.getElem_cons_succ, List.getElem_cons_zero]); go_simp; try with_reducible rfl)
            simp only [Act.put, List.setIfInBounds_toArray, List.set_cons_zero, List.set_cons_succ]; replace hCl := hCl'; clear hCl'
            refine T.qT 6 (some 142) ?v56 rfl rfl hCl ?hy56 (fun hCl' => ?_)
            case hy56 => (intro w hSw; refine T.qVal ?_ hSw; (try dsimp only [List.getElem_toArray, List.getElem_cons_succ, List.getElem_cons_zero]); go_simp; try with_reducible rfl)
            simp only [Act.put, List.setIfInBounds_toArray, List.set_cons_zero, List.set_cons_succ]; replace hCl := hCl'; clear hCl'
            refine T.qT 7 (some 143) ?v57 rfl rfl hCl ?hy57 (fun hCl' => ?_)
            case hy57 => (intro w hSw; refine T.qVal ?_ hSw; (try dsimp only [List.getElem_toArray, List.getElem_cons_succ, List.getElem_cons_zero]); go_simp; try with_reducible rfl)
            simp only [Act.put, List.setIfInBounds_toArray, List.set_cons_zero, List.set_cons_succ]; replace hCl := hCl'; clear hCl'
            refine T.qT 8 (some 144) ?v58 rfl rfl hCl ?hy58 (fun hCl' => ?_)
            case hy58 => (intro w hSw; refine T.qVal ?_ hSw; (try dsimp only [List.getElem_toArray, List.getElem_cons_succ, List.getElem_cons_zero]); go_simp; try with_reducible rfl)
            simp only [Act.put, List.setIfInBounds_toArray, List.set_cons_zero, List.set_cons_succ]; replace hCl := hCl'; clear hCl'
            refine T.qT 9 (some 145) ?v59 rfl rfl hCl ?hy59 (fun hCl' => ?_)
            case hy59 => (intro w hSw; refine T.qVal ?_ hSw; (try dsimp only [List.getElem_toArray, List.getElem_cons_succ, List.getElem_cons_zero]); go_simp; try with_reducible rfl)
            simp only [Act.put, List.setIfInBounds_toArray, List.set_cons_zero, List.set_cons_succ]; replace hCl := hCl'; clear hCl'
            refine T.qT 10 (some 146) ?v60 rfl rfl hCl ?hy60 (fun hCl' => ?_)
            case hy60 => (intro w hSw; refine T.qVal ?_ hSw; (try dsimp only [List.getElem_toArray, List.getElem_cons_succ, List.getElem_cons_zero]); go_simp; try with_reducible rfl)
            simp only [Act.put, List.setIfInBounds_toArray, List.set_cons_zero, List.set_cons_succ]; replace hCl := hCl'; clear hCl'
            refine T.qT 11 (some 147) ?v61 rfl rfl hCl ?hy61 (fun hCl' => ?_)
            case hy61 => (intro w hSw; refine T.qVal ?_ hSw; (try dsimp only [List.getElem_toArray, List.getElem_cons_succ, List.getElem_cons_zero]); go_simp; try with_reducible rfl)
            simp only [Act.put, List.setIfInBounds_toArray, List.set_cons_zero, List.set_cons_succ]; replace hCl := hCl'; clear hCl'
            refine T.qT 12 (some 148) ?v62 rfl rfl hCl ?hy62 (fun hCl' => ?_)
            case hy62 => (intro w hSw; refine T.qVal ?_ hSw; (try dsimp only [List.getElem_toArray, List.getElem_cons_succ, List.getElem_cons_zero]); go_simp; try with_reducible rfl)
            simp only [Act.put, List.setIfInBounds_toArray, List.set_cons_zero, List.set_cons_succ]; replace hCl := hCl'; clear hCl'
            refine T.qT 13 (some 149) ?v63 rfl rfl hCl ?hy63 (fun hCl' => ?_)
            case hy63 => (intro w hSw; refine T.qVal ?_ hSw; (try dsimp only [List.getElem_toArray, List.getElem_cons_succ, List.getElem_cons_zero]); go_simp; try with_reducible rfl)
            simp only [Act.put, List.setIfInBounds_toArray, List.set_cons_zero, List.set_cons_succ]; replace hCl := hCl'; clear hCl'
            refine T.qT 14 (some 150) ?v64 rfl rfl hCl ?hy64 (fun hCl' => ?_)
            case hy64 => (intro w hSw; refine T.qVal ?_ hSw; (try dsimp only [List.getElem_toArray, List.getElem_cons_succ, List.getElem_cons_zero]); go_simp; try with_reducible rfl)
            simp only [Act.put, List.setIfInBounds_toArray, List.set_cons_zero, List.set_cons_succ]; replace hCl := hCl'; clear hCl'
            refine T.qT 15 (some 151) ((.bool true)) rfl rfl hCl ?hy65 (fun hCl' => ?_)
            case hy65 => (intro w hSw; (have fF328 := F328.out w hSw; have fF329 := F329.out w hSw; have fF330 := F330.out w hSw; have fF331 := F331.out w hSw; have fF332 := F332.out w hSw; have fF333 := F333.out w hSw; have fF334 := F334.out w hSw); (try dsimp only [List.getElem_toArray, List.getElem_cons_succ, List.getElem_cons_zero]); go_simp; (refine (callsIn_wide.2 (HAl.out w (U6.trans hSw))).mono ?_; rintro e w3 ⟨rfl, u3⟩; exact ⟨rfl, hSw.trans u3⟩))
            simp only [Act.put, List.setIfInBounds_toArray, List.set_cons_zero, List.set_cons_succ]
            replace hCl := hCl'; clear hCl'
            refine T.qT 16 (some 152) ?v66 rfl rfl hCl ?hy66 (fun hCl' => ?_)
            case hy66 => (intro w hSw; refine T.qVal ?_ hSw; (try dsimp only [List.getElem_toArray, List.getElem_cons_succ, List.getElem_cons_zero]); go_simp; try with_reducible rfl)
            simp only [Act.put, List.setIfInBounds_toArray, List.set_cons_zero, List.set_cons_succ]; replace hCl := hCl'; clear hCl'
            refine T.qT 17 (some 153) ?v67 rfl rfl hCl ?hy67 (fun hCl' => ?_)
            case hy67 => (intro w hSw; refine T.qVal ?_ hSw; (try dsimp only [List.getElem_toArray, List.getElem_cons_succ, List.getElem_cons_zero]); go_simp; try with_reducible rfl)
            simp only [Act.put, List.setIfInBounds_toArray, List.set_cons_zero, List.set_cons_succ]; replace hCl := hCl'; clear hCl'
            refine T.qT 18 (some 154) ?v68 rfl rfl hCl ?hy68 (fun hCl' => ?_)
            case hy68 => (intro w hSw; refine T.qVal ?_ hSw; (try dsimp only [List.getElem_toArray, List.getElem_cons_succ, List.getElem_cons_zero]); go_simp; try with_reducible rfl)
            simp only [Act.put, List.setIfInBounds_toArray, List.set_cons_zero, List.set_cons_succ]; replace hCl := hCl'; clear hCl'
            refine T.qT 19 (some 155) ?v69 rfl rfl hCl ?hy69 (fun hCl' => ?_)
            case hy69 => (intro w hSw; refine T.qVal ?_ hSw; (try dsimp only [List.getElem_toArray, List.getElem_cons_succ, List.getElem_cons_zero]); go_simp; try with_reducible rfl)
            simp only [Act.put, List.setIfInBounds_toArray, List.set_cons_zero, List.set_cons_succ]; replace hCl := hCl'; clear hCl'
            refine T.qT 20 (some 156) ?v70 rfl rfl hCl ?hy70 (fun hCl' => ?_)
            case hy70 => (intro w hSw; refine T.qVal ?_ hSw; (try dsimp only [List.getElem_toArray, List.getElem_cons_succ, List.getElem_cons_zero]); go_simp; try with_reducible rfl)
            simp only [Act.put, List.setIfInBounds_toArray, List.set_cons_zero, List.set_cons_succ]; replace hCl := hCl'; clear hCl'
            refine T.qT 21 (some 157) ?v71 rfl rfl hCl ?hy71 (fun hCl' => ?_)
            case hy71 => (intro w hSw; refine T.qVal ?_ hSw; (try dsimp only [List.getElem_toArray, List.getElem_cons_succ, List.getElem_cons_zero]); go_simp; try with_reducible rfl)
            simp only [Act.put, List.setIfInBounds_toArray, List.set_cons_zero, List.set_cons_succ]; replace hCl := hCl'; clear hCl'
            refine T.qS 22 (some 158) rfl rfl hCl (fun hCl' => ?_)
            simp only [Act.put, List.setIfInBounds_toArray, List.set_cons_zero, List.set_cons_succ]; replace hCl := hCl'; clear hCl'
            refine T.qS 23 (some 159) rfl rfl hCl (fun hCl' => ?_)
            simp only [Act.put, List.setIfInBounds_toArray, List.set_cons_zero, List.set_cons_succ]; replace hCl := hCl'; clear hCl'
            refine T.qS 25 (some 161) rfl rfl hCl (fun hCl' => ?_)
            simp only [Act.put, List.setIfInBounds_toArray, List.set_cons_zero, List.set_cons_succ]; replace hCl := hCl'; clear hCl'
            refine T.qS 27 (some 163) rfl rfl hCl (fun hCl' => ?_)
            simp only [Act.put, List.setIfInBounds_toArray, List.set_cons_zero, List.set_cons_succ]; replace hCl := hCl'; clear hCl'
            refine T.qS 29 (some 165) rfl rfl hCl (fun hCl' => ?_)
            simp only [Act.put, List.setIfInBounds_toArray, List.set_cons_zero, List.set_cons_succ]; replace hCl := hCl'; clear hCl'
            refine T.qS 24 (some 160) rfl rfl hCl (fun hCl' => ?_)
            simp only [Act.put, List.setIfInBounds_toArray, List.set_cons_zero, List.set_cons_succ]; replace hCl := hCl'; clear hCl'
            refine T.qS 28 (some 164) rfl rfl hCl (fun hCl' => ?_)
            simp only [Act.put, List.setIfInBounds_toArray, List.set_cons_zero, List.set_cons_succ]; replace hCl := hCl'; clear hCl'
            refine T.qS 26 (some 162) rfl rfl hCl (fun hCl' => ?_)
            simp only [Act.put, List.setIfInBounds_toArray, List.set_cons_zero, List.set_cons_succ]; replace hCl := hCl'; clear hCl'
            refine T.qS 30 (some 166) rfl rfl hCl (fun hCl' => ?_)
            simp only [Act.put, List.setIfInBounds_toArray, List.set_cons_zero, List.set_cons_succ]; replace hCl := hCl'; clear hCl'
            refine T.qS 31 (some 167) rfl rfl hCl (fun hCl' => ?_)
            simp only [Act.put, List.setIfInBounds_toArray, List.set_cons_zero, List.set_cons_succ]; replace hCl := hCl'; clear hCl'
            refine T.qS 32 (some 168) rfl rfl hCl (fun hCl' => ?_)
            simp only [Act.put, List.setIfInBounds_toArray, List.set_cons_zero, List.set_cons_succ]; replace hCl := hCl'; clear hCl'
            refine T.qT 33 (some 169) ?v83 rfl rfl hCl ?hy83 (fun hCl' => ?_)
            case hy83 => (intro w hSw; refine T.qVal ?_ hSw; (try dsimp only [List.getElem_toArray, List.getElem_cons_succ, List.getElem_cons_zero]); go_simp; try with_reducible rfl)
            simp only [Act.put, List.setIfInBounds_toArray, List.set_cons_zero, List.set_cons_succ]; replace hCl := hCl'; clear hCl'
            refine T.qT 34 (some 170) ?v84 rfl rfl hCl ?hy84 (fun hCl' => ?_)
            case hy84 => (intro w hSw; refine T.qVal ?_ hSw; (try dsimp only [List.getElem_toArray, List.getElem_cons_succ, List.getElem_cons_zero]); go_simp; try with_reducible rfl)
            simp only [Act.put, List.setIfInBounds_toArray, List.set_cons_zero, List.set_cons_succ]; replace hCl := hCl'; clear hCl'
            refine T.qT 35 (some 171) ?v85 rfl rfl hCl ?hy85 (fun hCl' => ?_)
            case hy85 => (intro w hSw; refine T.qVal ?_ hSw; (try dsimp only [List.getElem_toArray, List.getElem_cons_succ, List.getElem_cons_zero]); go_simp; try with_reducible rfl)
            simp only [Act.put, List.setIfInBounds_toArray, List.set_cons_zero, List.set_cons_succ]; replace hCl := hCl'; clear hCl'
            refine T.qT 36 (some 172) ?v86 rfl rfl hCl ?hy86 (fun hCl' => ?_)
            case hy86 => (intro w hSw; refine T.qVal ?_ hSw; (have fF328 := F328.out w hSw; have fF329 := F329.out w hSw; have fF330 := F330.out w hSw; have fF331 := F331.out w hSw; have fF332 := F332.out w hSw; have fF333 := F333.out w hSw; have fF334 := F334.out w hSw); (try dsimp only [List.getElem_toArray, List.getElem_cons_succ, List.getElem_cons_zero]); go_simp; try with_reducible rfl)
            simp only [Act.put, List.setIfInBounds_toArray, List.set_cons_zero, List.set_cons_succ]; replace hCl := hCl'; clear hCl'
            refine T.qT 37 (some 173) ?v87 rfl rfl hCl ?hy87 (fun hCl' => ?_)
            case hy87 => (intro w hSw; refine T.qVal ?_ hSw; (have fF328 := F328.out w hSw; have fF329 := F329.out w hSw; have fF330 := F330.out w hSw; have fF331 := F331.out w hSw; have fF332 := F332.out w hSw; have fF333 := F333.out w hSw; have fF334 := F334.out w hSw); (try dsimp only [List.getElem_toArray, List.getElem_cons_succ, List.getElem_cons_zero]); go_simp; try with_reducible rfl)
            simp only [Act.put, List.setIfInBounds_toArray, List.set_cons_zero, List.set_cons_succ]; replace hCl := hCl'; clear hCl'
            refine T.qT 38 (some 174) ?v88 rfl rfl hCl ?hy88 (fun hCl' => ?_)
            case hy88 => (intro w hSw; refine T.qVal ?_ hSw; (try dsimp only [List.getElem_toArray, List.getElem_cons_succ, List.getElem_cons_zero]); go_simp; try with_reducible rfl)
            simp only [Act.put, List.setIfInBounds_toArray, List.set_cons_zero, List.set_cons_succ]; replace hCl := hCl'; clear hCl'
            refine T.tail_intro (by kernel_rfl) (fun Y327 hY327 => ?_)
            replace U := U.trans hY327
            replace kB := hY327.blk kB
            replace kN := hY327.blk kN
            replace kx := hY327.blk kx
            replace kc := hY327.blk kc
            replace ku := hY327.blk ku
            replace kp := hY327.blk kp
            replace kq := hY327.blk kq
            replace U6 := U6.trans hY327
            clear F328 F329 F330 F331 F332 F333 F334 hY327
            refine lastG (i := 39) (by kernel_rfl) rfl (by rfl) (by decide) (fun K hK => ?_)
            go_simp
            refine hK.out _ _ ?_
            clear hK K
            refine doneG (by kernel_rfl) ?_ _
            refine S.nrm_intro ?_
            clear U6 HU6 HAl
            clear kx ku kp kq
            go_upto_if 175 with fail
            go_step
            go_step
            go_step
            first
            | exact sh_tail _ _ _ _ _ _ _ _ _ _ _ _ _ _ _ _ _ _ _ _ _ _ _ _ _ _ _ _ _ _ _ _ _ _ _ _ _ _ _ _ _ _ _ _ _ _ _ _ _ _ _ _ _ _ _ _ _ _ _ _ _ _ _ _ _ _ _ _ _ _ _ _ _ _ _ _ _ _ _ _ _ _ _ _ _ _ _ _ _ _ _ _ _ _ _ _ _ _ _ _ _ _ _ _ _ _ _ _ _ _ _ _ _ _ _ _ _ _ _ _ _ _ _ _ _ _ _ _ _ _ _ _ _ _ _ _ _ _ _ _ _ _ _ _ _ _ _ _ _ _ _ _ _ _ _ _ _ _ _ _ _ _ _ _ _ _ _ _ _ _ (n0 := n0) (n1 := n1) (n2 := n2) (HI.out _ (Up.refl _)) (HJ.out _ (Up.refl _)) (HK.out _ (Up.refl _)) HV.out HIK.out.1 HBQ.out HT.out.1 (by omega) (by omega) U kB kN kc
            | go_step
              first
              | exact sh_tail _ _ _ _ _ _ _ _ _ _ _ _ _ _ _ _ _ _ _ _ _ _ _ _ _ _ _ _ _ _ _ _ _ _ _ _ _ _ _ _ _ _ _ _ _ _ _ _ _ _ _ _ _ _ _ _ _ _ _ _ _ _ _ _ _ _ _ _ _ _ _ _ _ _ _ _ _ _ _ _ _ _ _ _ _ _ _ _ _ _ _ _ _ _ _ _ _ _ _ _ _ _ _ _ _ _ _ _ _ _ _ _ _ _ _ _ _ _ _ _ _ _ _ _ _ _ _ _ _ _ _ _ _ _ _ _ _ _ _ _ _ _ _ _ _ _ _ _ _ _ _ _ _ _ _ _ _ _ _ _ _ _ _ _ _ _ _ _ _ _ (n0 := n0) (n1 := n1) (n2 := n2) (HI.out _ (Up.refl _)) (HJ.out _ (Up.refl _)) (HK.out _ (Up.refl _)) HV.out HIK.out.1 HBQ.out HT.out.1 (by omega) (by omega) U kB kN kc
              | go_step
                first
                | exact sh_tail _ _ _ _ _ _ _ _ _ _ _ _ _ _ _ _ _ _ _ _ _ _ _ _ _ _ _ _ _ _ _ _ _ _ _ _ _ _ _ _ _ _ _ _ _ _ _ _ _ _ _ _ _ _ _ _ _ _ _ _ _ _ _ _ _ _ _ _ _ _ _ _ _ _ _ _ _ _ _ _ _ _ _ _ _ _ _ _ _ _ _ _ _ _ _ _ _ _ _ _ _ _ _ _ _ _ _ _ _ _ _ _ _ _ _ _ _ _ _ _ _ _ _ _ _ _ _ _ _ _ _ _ _ _ _ _ _ _ _ _ _ _ _ _ _ _ _ _ _ _ _ _ _ _ _ _ _ _ _ _ _ _ _ _ _ _ _ _ _ _ (n0 := n0) (n1 := n1) (n2 := n2) (HI.out _ (Up.refl _)) (HJ.out _ (Up.refl _)) (HK.out _ (Up.refl _)) HV.out HIK.out.1 HBQ.out HT.out.1 (by omega) (by omega) U kB kN kc
                | go_step
                  first
                  | exact sh_tail _ _ _ _ _ _ _ _ _ _ _ _ _ _ _ _ _ _ _ _ _ _ _ _ _ _ _ _ _ _ _ _ _ _ _ _ _ _ _ _ _ _ _ _ _ _ _ _ _ _ _ _ _ _ _ _ _ _ _ _ _ _ _ _ _ _ _ _ _ _ _ _ _ _ _ _ _ _ _ _ _ _ _ _ _ _ _ _ _ _ _ _ _ _ _ _ _ _ _ _ _ _ _ _ _ _ _ _ _ _ _ _ _ _ _ _ _ _ _ _ _ _ _ _ _ _ _ _ _ _ _ _ _ _ _ _ _ _ _ _ _ _ _ _ _ _ _ _ _ _ _ _ _ _ _ _ _ _ _ _ _ _ _ _ _ _ _ _ _ _ (n0 := n0) (n1 := n1) (n2 := n2) (HI.out _ (Up.refl _)) (HJ.out _ (Up.refl _)) (HK.out _ (Up.refl _)) HV.out HIK.out.1 HBQ.out HT.out.1 (by omega) (by omega) U kB kN kc
                  | go_step
                    first
                    | exact sh_tail _ _ _ _ _ _ _ _ _ _ _ _ _ _ _ _ _ _ _ _ _ _ _ _ _ _ _ _ _ _ _ _ _ _ _ _ _ _ _ _ _ _ _ _ _ _ _ _ _ _ _ _ _ _ _ _ _ _ _ _ _ _ _ _ _ _ _ _ _ _ _ _ _ _ _ _ _ _ _ _ _ _ _ _ _ _ _ _ _ _ _ _ _ _ _ _ _ _ _ _ _ _ _ _ _ _ _ _ _ _ _ _ _ _ _ _ _ _ _ _ _ _ _ _ _ _ _ _ _ _ _ _ _ _ _ _ _ _ _ _ _ _ _ _ _ _ _ _ _ _ _ _ _ _ _ _ _ _ _ _ _ _ _ _ _ _ _ _ _ _ (n0 := n0) (n1 := n1) (n2 := n2) (HI.out _ (Up.refl _)) (HJ.out _ (Up.refl _)) (HK.out _ (Up.refl _)) HV.out HIK.out.1 HBQ.out HT.out.1 (by omega) (by omega) U kB kN kc
                    | go_step
                      first
                      | exact sh_tail _ _ _ _ _ _ _ _ _ _ _ _ _ _ _ _ _ _ _ _ _ _ _ _ _ _ _ _ _ _ _ _ _ _ _ _ _ _ _ _ _ _ _ _ _ _ _ _ _ _ _ _ _ _ _ _ _ _ _ _ _ _ _ _ _ _ _ _ _ _ _ _ _ _ _ _ _ _ _ _ _ _ _ _ _ _ _ _ _ _ _ _ _ _ _ _ _ _ _ _ _ _ _ _ _ _ _ _ _ _ _ _ _ _ _ _ _ _ _ _ _ _ _ _ _ _ _ _ _ _ _ _ _ _ _ _ _ _ _ _ _ _ _ _ _ _ _ _ _ _ _ _ _ _ _ _ _ _ _ _ _ _ _ _ _ _ _ _ _ _ (n0 := n0) (n1 := n1) (n2 := n2) (HI.out _ (Up.refl _)) (HJ.out _ (Up.refl _)) (HK.out _ (Up.refl _)) HV.out HIK.out.1 HBQ.out HT.out.1 (by omega) (by omega) U kB kN kc
                      | go_step
                        first
                        | exact sh_tail _ _ _ _ _ _ _ _ _ _ _ _ _ _ _ _ _ _ _ _ _ _ _ _ _ _ _ _ _ _ _ _ _ _ _ _ _ _ _ _ _ _ _ _ _ _ _ _ _ _ _ _ _ _ _ _ _ _ _ _ _ _ _ _ _ _ _ _ _ _ _ _ _ _ _ _ _ _ _ _ _ _ _ _ _ _ _ _ _ _ _ _ _ _ _ _ _ _ _ _ _ _ _ _ _ _ _ _ _ _ _ _ _ _ _ _ _ _ _ _ _ _ _ _ _ _ _ _ _ _ _ _ _ _ _ _ _ _ _ _ _ _ _ _ _ _ _ _ _ _ _ _ _ _ _ _ _ _ _ _ _ _ _ _ _ _ _ _ _ _ (n0 := n0) (n1 := n1) (n2 := n2) (HI.out _ (Up.refl _)) (HJ.out _ (Up.refl _)) (HK.out _ (Up.refl _)) HV.out HIK.out.1 HBQ.out HT.out.1 (by omega) (by omega) U kB kN kc
                        | go_step
                          first
                          | exact sh_tail _ _ _ _ _ _ _ _ _ _ _ _ _ _ _ _ _ _ _ _ _ _ _ _ _ _ _ _ _ _ _ _ _ _ _ _ _ _ _ _ _ _ _ _ _ _ _ _ _ _ _ _ _ _ _ _ _ _ _ _ _ _ _ _ _ _ _ _ _ _ _ _ _ _ _ _ _ _ _ _ _ _ _ _ _ _ _ _ _ _ _ _ _ _ _ _ _ _ _ _ _ _ _ _ _ _ _ _ _ _ _ _ _ _ _ _ _ _ _ _ _ _ _ _ _ _ _ _ _ _ _ _ _ _ _ _ _ _ _ _ _ _ _ _ _ _ _ _ _ _ _ _ _ _ _ _ _ _ _ _ _ _ _ _ _ _ _ _ _ _ (n0 := n0) (n1 := n1) (n2 := n2) (HI.out _ (Up.refl _)) (HJ.out _ (Up.refl _)) (HK.out _ (Up.refl _)) HV.out HIK.out.1 HBQ.out HT.out.1 (by omega) (by omega) U kB kN kc
                          | go_step
                            fail
end

end Go.Proofs.Ytlpkheoljbdajaa
