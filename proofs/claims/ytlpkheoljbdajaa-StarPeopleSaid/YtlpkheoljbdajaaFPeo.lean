import Derived.Test.YtlpkheoljbdajaaNrw
import Derived.Test.YtlpkheoljbdajaaPpl
import Derived.Test.YtlpkheoljbdajaaSou
import Derived.Test.YtlpkheoljbdajaaHeQ
import Derived.Deep.Cut
/- The law StarPeople. -/
namespace Go.Proofs.Ytlpkheoljbdajaa
open Go.RowKit Go.Shelf
attribute [local go_sem] Oper.semAt_some

theorem cell_int2 {w : World} {b : Nat} {cs : Array Value} (h : mblk w b = some (.cells cs 31 (0, 0))) (j : Nat) : w.cell? ⟨b, j, none⟩ = cs[j]? := cellB h j
attribute [local go_sem] cell_int2
theorem T.ends_cell {w : World} {b : Nat} {lo hi : Int} (h : mblk w b = some (.cells #[.int .i64 lo, .int .i64 hi, .int .i64 (lo - 1), .int .i64 (hi + 1)] 3 (0, 0))) {j : Nat} (hj : (j : Int) < 4) : w.cell? ⟨b, j, none⟩ = some (.int .i64 (T.ends lo hi j)) := by
  rw [cellB h]
  have hj' : j = 0 ∨ j = 1 ∨ j = 2 ∨ j = 3 := by omega
  rcases hj' with rfl | rfl | rfl | rfl <;> rfl
theorem T.ends_get {lo hi : Int} {j : Nat} (h : j < [Value.int .i64 lo, Value.int .i64 hi, Value.int .i64 (lo - 1), Value.int .i64 (hi + 1)].length) : [Value.int .i64 lo, Value.int .i64 hi, Value.int .i64 (lo - 1), Value.int .i64 (hi + 1)][j] = .int .i64 (T.ends lo hi j) := by
  have h' : j < 4 := h
  have hj' : j = 0 ∨ j = 1 ∨ j = 2 ∨ j = 3 := by omega
  rcases hj' with rfl | rfl | rfl | rfl <;> rfl
attribute [local go_sem] T.ends_get
section
variable {bl bh rl rh : Int} {aP aQ aL : Option Addr} {nP cP nQ cQ nL cL : Nat} {ps qs : List (Int × Int)} {ls : List T.T5}
set_option maxRecDepth 100000 in
set_option maxHeartbeats 8000000 in
set_option linter.unusedSimpArgs false in
theorem starPeople_any {M n0 n1 : Int} {w : World} (I : Sps w (.slice aP nP cP) ps) (J : Sps w (.slice aQ nQ cQ) qs) (K : Lks w (.slice aL nL cL) ls) :
    Calls Try.prog 9 #[BoV M bl bh rl rh (.slice aP nP cP) (.slice aQ nQ cQ) (.slice aL nL cL), .agg #[.int .i64 n0, .int .i64 n1]] w fun e w' => e = .returned (.bool true) ∧ Up w w' := by
  have U := (((Up.refl w).alloc (.cells (BoC M bl bh rl rh (.slice aP nP cP) (.slice aQ nQ cQ) (.slice aL nL cL)) 27)).alloc (.cells #[.int .i64 n0, .int .i64 n1] 31))
  have HW := Lib.hid (fun w => l_works_any w)
  cases hv : T.valid M bl bh rl rh ps qs ls with
  | false =>
    have HS := Lib.hid (fun w' (u : Up w w') => l_sound_no (I.up u) (J.up u) (K.up u) hv)
    clear hv I J K 
    go_enter Try.func9, Try.ntmps9
    go_wp2_with fail
    refine (HS.out _ U).mono ?_
    rintro e w1 ⟨rfl, u1⟩
    go_wp2_with fail
    refine (HW.out _).mono ?_
    rintro e w2 ⟨rfl, u2⟩
    go_wp2
    go_ret
    exact ⟨rfl, (U.trans u1).trans u2⟩
  | true =>
    obtain ⟨N, rfl⟩ := T.valid_N hv
    obtain ⟨⟨hN, hB, hR⟩, ⟨h4, h5, h10⟩, hP, hQ, hL⟩ := T.valid_parts hv
    have HS := Lib.hid (fun w' (u : Up w w') => l_sound_yes (I.up u) (J.up u) (K.up u) hv)
    have hn := I.len
    have hno := J.len
    have hnp := K.len
    have hmx : Try.prog.follows .mixedOrders = true := by kernel_rfl
    subst hn hno hnp
    have HTo := Lib.hid (fun l h w => B_To_any l h w)
    have HI := Lib.hid (fun w' (u : Up w w') => I.up u)
    have HJ := Lib.hid (fun w' (u : Up w w') => J.up u)
    have HK := Lib.hid (fun w' (u : Up w w') => K.up u)
    have HV := Lib.hid hv
    have HL4 := Lib.hid (And.intro h4 (And.intro h5 (And.intro hP hQ)))
    have l4 : ps.length ≤ 4 := h4
    have l5 : qs.length ≤ 4 := h5
    clear hN hB hR h4 h5 h10 hP hQ hL hv I J K
    go_enter Try.func9, Try.ntmps9
    obtain ⟨q0, e0⟩ : ∃ x, w.heap.size = x := ⟨_, rfl⟩
    have kB := (blk_keep (.cells #[.int .i64 n0, .int .i64 n1] 31) (blk_new w (.cells (BoC (N : Int) bl bh rl rh (.slice aP ps.length cP) (.slice aQ qs.length cQ) (.slice aL ls.length cL)) 27) q0 e0.symm))
    have kN := (blk_new (w.alloc (.cells (BoC (N : Int) bl bh rl rh (.slice aP ps.length cP) (.slice aQ qs.length cQ) (.slice aL ls.length cL)) 27)) (.cells #[.int .i64 n0, .int .i64 n1] 31) (q0 + 1) (by simp [e0]))
    go_wp2_with fail
    refine (HS.out _ U).mono ?_
    rintro e x1 ⟨rfl, u2⟩
    replace U := U.trans u2
    replace kB := u2.blk kB
    replace kN := u2.blk kN
    clear u2 HS
    by_cases hp0 : 0 < ps.length
    · skip
      have dp1 : decide ((ps.length : Int) > 0) = true := decide_eq_true (by omega)
      have ip1 : (0 : Int) < (ps.length : Int) := by omega
      have HRp := Lib.hid (fun w => B_Rest_any n0 (ps.length : Int) w (by omega) (by omega))
      have ap := Int.emod_nonneg n0 (b := (ps.length : Int)) (by omega)
      have bp := Int.emod_lt_of_pos n0 (b := (ps.length : Int)) (by omega)
      generalize n0 % (ps.length : Int) = kk at *
      obtain ⟨kk, rfl⟩ := Int.eq_ofNat_of_zero_le ap
      have hkk : kk < ps.length := by omega
      have ikk : (kk : Int) < (ps.length : Int) := by omega
      obtain ⟨⟨r0, r1⟩, hssp⟩ : ∃ s, ps.getD kk (0, 0) = s := ⟨_, rfl⟩
      obtain ⟨a'', c'', e'', _, _, hm⟩ := (HI.out w (Up.refl w)).is
      injection e'' with ea eb ec
      clear eb ec
      obtain ⟨gE, oE, ga, glp, hxp⟩ := hm (by omega)
      subst ea ga
      clear hm
      have Hcp := Lib.hid (fun w' (u : Up w w') => And.intro (show w'.cell? ⟨gE, oE + kk * 2, none⟩ = some (.int .i64 r0) by have := hxp kk hkk 0 (by omega); rw [hssp] at this; exact (u.facts.1 gE _ glp).trans this) (show w'.cell? ⟨gE, oE + kk * 2 + 1, none⟩ = some (.int .i64 r1) by have := hxp kk hkk 1 (by omega); rw [hssp] at this; exact (u.facts.1 gE _ glp).trans this))
      clear hxp glp ap bp
      obtain ⟨lp, up, ep, tp, vp, wp, xp⟩ := T.Tells.ex (o := T.o0) (m := (9 + (kk : Int))) (i := 0) HV.out (T.al_per (n := (kk : Int)) ⟨by omega, by omega⟩) T.al_0
      have Cp := Lib.hid (fun w' (u : Up w w') => Person_tells HV.out ⟨by omega, by omega⟩ tp (HI.out _ u) (HJ.out _ u) (HK.out _ u))
      have zp0 : IntKind.i64.wrap (lp - 1) = lp - 1 := IntWalk.i64_in _ (by omega)
      have zp1 : IntKind.i64.wrap (up + 1) = up + 1 := IntWalk.i64_in _ (by omega)
      have HSSp := Lib.hid hssp
      clear vp wp xp hssp
      rcases tp.err with rfl | ⟨rfl, rfl, rfl⟩
      · skip
        go_wp2_with fail
        refine (HRp.out _).mono ?_
        rintro e x3 ⟨rfl, rfl⟩
        clear HRp
        go_wp2_with fail
        refine (Cp.out _ U).mono ?_
        rintro e x4 ⟨rfl, u5⟩
        replace U := U.trans u5
        replace kB := u5.blk kB
        replace kN := u5.blk kN
        clear u5 
        have dkBksp := blk_lt kB
        have dkNksp := blk_lt kN
        have gksp := U.size
        have ksp := blk_new x4 (.cells #[.int .i64 lp, .int .i64 up] 23) _ rfl
        replace kB := blk_keep (.cells #[.int .i64 lp, .int .i64 up] 23) kB
        replace kN := blk_keep (.cells #[.int .i64 lp, .int .i64 up] 23) kN
        replace U := U.alloc (.cells #[.int .i64 lp, .int .i64 up] 23)
        obtain ⟨pksp, hpksp⟩ : ∃ z, x4.heap.size = z := ⟨_, rfl⟩
        obtain ⟨W6, hW6⟩ : ∃ z, x4.alloc (.cells #[.int .i64 lp, .int .i64 up] 23) = z := ⟨_, rfl⟩
        rw [hpksp] at ksp dkBksp dkNksp gksp
        rw [hW6] at ksp U kB kN
        go_upto_region 8 with fail
        clear hpksp hW6
        have i0 := ksp
        have dkBkEp := blk_lt kB
        have dkNkEp := blk_lt kN
        have dkspkEp := blk_lt ksp
        have gkEp := U.size
        have kEp := blk_new W6 (.cells #[.int .i64 lp, .int .i64 up, .int .i64 (lp - 1), .int .i64 (up + 1)] 3) _ rfl
        replace kB := blk_keep (.cells #[.int .i64 lp, .int .i64 up, .int .i64 (lp - 1), .int .i64 (up + 1)] 3) kB
        replace kN := blk_keep (.cells #[.int .i64 lp, .int .i64 up, .int .i64 (lp - 1), .int .i64 (up + 1)] 3) kN
        replace ksp := blk_keep (.cells #[.int .i64 lp, .int .i64 up, .int .i64 (lp - 1), .int .i64 (up + 1)] 3) ksp
        replace U := U.alloc (.cells #[.int .i64 lp, .int .i64 up, .int .i64 (lp - 1), .int .i64 (up + 1)] 3)
        obtain ⟨pkEp, hpkEp⟩ : ∃ z, W6.heap.size = z := ⟨_, rfl⟩
        obtain ⟨W7, hW7⟩ : ∃ z, W6.alloc (.cells #[.int .i64 lp, .int .i64 up, .int .i64 (lp - 1), .int .i64 (up + 1)] 3) = z := ⟨_, rfl⟩
        rw [hpkEp] at kEp dkBkEp dkNkEp dkspkEp gkEp
        rw [hW7] at kEp U kB kN ksp
        go_wp2_with fail
        clear hpkEp hW7
        clear i0
        have HTp := Lib.hid tp
        clear tp zp0 zp1 Cp
        go_loopw [9] (fun m wr => ∃ j : Nat, j ≤ 4 ∧ m = .int .i64 j ∧ Up w wr ∧ mblk wr (q0) = some (.cells (BoC (N : Int) bl bh rl rh (.slice (some ⟨gE, oE, none⟩) ps.length cP) (.slice aQ qs.length cQ) (.slice aL ls.length cL)) 27 (0, 0)) ∧ mblk wr (q0 + 1) = some (.cells #[.int .i64 n0, .int .i64 n1] 31 (0, 0)) ∧ mblk wr (pksp) = some (.cells #[.int .i64 lp, .int .i64 up] 23 (0, 0)) ∧ mblk wr (pkEp) = some (.cells #[.int .i64 lp, .int .i64 up, .int .i64 (lp - 1), .int .i64 (up + 1)] 3 (0, 0))) (fun m _ => 4 - (intOf m).toNat)
        case atStart => exact ⟨0, by omega, rfl, U, kB, kN, ksp, kEp⟩
        case round =>
          clear U kB kN ksp kEp
          obtain ⟨j, hj, rfl, U, kB, kN, ksp, kEp⟩ := hrel
          by_cases hlt : j < 4
          · skip
            have ew : IntKind.i64.wrap ((j : Int) + 1) = (j : Int) + 1 := IntWalk.i64_in _ (by omega)
            have ilt : (j : Int) < 4 := by omega
            have dk : decide ((j : Int) < 4) = true := decide_eq_true (by omega)
            obtain ⟨lx, hx, ex, px, cx⟩ := T.end_per HV.out hkk HTp.out hlt
            have HO := Lib.hid cx
            have HX := Lib.hid px
            have HNa := Lib.hid (fun w' (u : Up w w') => l_narrowed_p (M := (N : Int)) (bl := bl) (bh := bh) (rl := rl) (rh := rh) (n := T.ends lp up j) (HI.out _ u) (HJ.out _ u) (HK.out _ u) hkk l4 l5)
            clear cx px
            go_wp2_with fail
            apply T.mergeV1 (fun w' b v1 => Up w w' ∧ mblk w' (q0) = some (.cells (BoC (N : Int) bl bh rl rh (.slice (some ⟨gE, oE, none⟩) ps.length cP) (.slice aQ qs.length cQ) (.slice aL ls.length cL)) 27 (0, 0)) ∧ mblk w' (q0 + 1) = some (.cells #[.int .i64 n0, .int .i64 n1] 31 (0, 0)) ∧ mblk w' (pksp) = some (.cells #[.int .i64 lp, .int .i64 up] 23 (0, 0)) ∧ mblk w' (pkEp) = some (.cells #[.int .i64 lp, .int .i64 up, .int .i64 (lp - 1), .int .i64 (up + 1)] 3 (0, 0)) ∧ mblk w' b = some (.cells #[.int .i64 lx, .int .i64 hx] 23 (0, 0)) ∧ True)
            · intro HKey
              refine (wpIn_wide (n := 5)).1 ?_
              refine wpIn_nrm ?_
              refine regionG (fun w' => Up w w' ∧ mblk w' (q0) = some (.cells (BoC (N : Int) bl bh rl rh (.slice (some ⟨gE, oE, none⟩) ps.length cP) (.slice aQ qs.length cQ) (.slice aL ls.length cL)) 27 (0, 0)) ∧ mblk w' (q0 + 1) = some (.cells #[.int .i64 n0, .int .i64 n1] 31 (0, 0)) ∧ mblk w' (pksp) = some (.cells #[.int .i64 lp, .int .i64 up] 23 (0, 0)) ∧ mblk w' (pkEp) = some (.cells #[.int .i64 lp, .int .i64 up, .int .i64 (lp - 1), .int .i64 (up + 1)] 3 (0, 0))) 13 hmx ⟨U.drew, (by rw [blk_drew]; exact kB), (by rw [blk_drew]; exact kN), (by rw [blk_drew]; exact ksp), (by rw [blk_drew]; exact kEp)⟩ (fun hHeld hCl => ?_)
              refine takeG (i := 0) (d := (some 67)) (v := ?v1) rfl rfl (by kernel_rfl) (by kernel_rfl) (by decide) hCl (by kernel_rfl) (by kernel_rfl) (by kernel_rfl) (fun _ _ _ h => h) (by rfl) ?hy1 (fun _ _ _ => trivial) (by assumption) (fun hCl' => ?_)
              case hy1 => ((intro w hSw; (try dsimp only at hSw); (try go_split_ands); go_simp); try with_reducible rfl)
              simp only [Act.put, List.setIfInBounds_toArray, List.set_cons_zero, List.set_cons_succ]
              replace hCl := hCl'; clear hCl'
              refine takeG (i := 1) (d := (some 68)) (v := ?v2) rfl rfl (by kernel_rfl) (by kernel_rfl) (by decide) hCl (by kernel_rfl) (by kernel_rfl) (by kernel_rfl) (fun _ _ _ h => h) (by rfl) ?hy2 (fun _ _ _ => trivial) (by assumption) (fun hCl' => ?_)
              case hy2 => ((intro w hSw; (try dsimp only at hSw); (try go_split_ands); go_simp); try with_reducible rfl)
              simp only [Act.put, List.setIfInBounds_toArray, List.set_cons_zero, List.set_cons_succ]
              replace hCl := hCl'; clear hCl'
              refine takeG (i := 2) (d := (some 69)) (v := ?v3) rfl rfl (by kernel_rfl) (by kernel_rfl) (by decide) hCl (by kernel_rfl) (by kernel_rfl) (by kernel_rfl) (fun _ _ _ h => h) (by rfl) ?hy3 (fun _ _ _ => trivial) (by assumption) (fun hCl' => ?_)
              case hy3 => ((intro w hSw; (try dsimp only at hSw); (try go_split_ands); go_simp); try with_reducible rfl)
              simp only [Act.put, List.setIfInBounds_toArray, List.set_cons_zero, List.set_cons_succ]
              replace hCl := hCl'; clear hCl'
              refine takeG (i := 3) (d := (some 70)) (v := ?v4) rfl rfl (by kernel_rfl) (by kernel_rfl) (by decide) hCl (by kernel_rfl) (by kernel_rfl) (by kernel_rfl) (fun _ _ _ h => h) (by rfl) ?hy4 (fun _ _ _ => trivial) (by assumption) (fun hCl' => ?_)
              case hy4 => ((intro w hSw; (try dsimp only at hSw); (try go_split_ands); go_simp); try with_reducible rfl)
              simp only [Act.put, List.setIfInBounds_toArray, List.set_cons_zero, List.set_cons_succ]
              replace hCl := hCl'; clear hCl'
              refine takeG (i := 4) (d := (some 71)) (v := ?v5) rfl rfl (by kernel_rfl) (by kernel_rfl) (by decide) hCl (by kernel_rfl) (by kernel_rfl) (by kernel_rfl) (fun _ _ _ h => h) (by rfl) ?hy5 (fun _ _ _ => trivial) (by assumption) (fun hCl' => ?_)
              case hy5 => ((intro w hSw; (try dsimp only at hSw); (try go_split_ands); go_simp); try with_reducible rfl)
              simp only [Act.put, List.setIfInBounds_toArray, List.set_cons_zero, List.set_cons_succ]
              replace hCl := hCl'; clear hCl'
              refine takeG (i := 5) (d := (some 72)) (v := ?v6) rfl rfl (by kernel_rfl) (by kernel_rfl) (by decide) hCl (by kernel_rfl) (by kernel_rfl) (by kernel_rfl) (fun _ _ _ h => h) (by rfl) ?hy6 (fun _ _ _ => trivial) (by assumption) (fun hCl' => ?_)
              case hy6 => ((intro w hSw; (try dsimp only at hSw); (try go_split_ands); go_simp); try with_reducible rfl)
              simp only [Act.put, List.setIfInBounds_toArray, List.set_cons_zero, List.set_cons_succ]
              replace hCl := hCl'; clear hCl'
              obtain ⟨X0, hX0⟩ : ∃ z, wr.drew = z := ⟨_, rfl⟩
              rw [hX0] at hHeld ⊢
              clear hX0
              refine nextG2 (i := 6) (j := 11) (by kernel_rfl) rfl rfl (by rfl) (by rfl) hCl ?_ ?_
              · skip
                refine (fun K hK => ?_)
                go_simp
                refine ⟨trivial, (callsIn_wide.2 (HNa.out _ hHeld.1)).mono ?_⟩
                rintro e X1 ⟨⟨a6, c6, a7, c7, rfl, I6, J6⟩, u⟩
                refine hK.out _ _ ⟨hHeld.1.trans u, u.blk hHeld.2.1, u.blk hHeld.2.2.1, u.blk hHeld.2.2.2.1, u.blk hHeld.2.2.2.2⟩ (fun hHeld hCl => ?_)
                clear hK K u
                try (dsimp only [List.getElem_toArray, List.getElem_cons_succ, List.getElem_cons_zero]
                     simp only [Act.put, List.setIfInBounds_toArray, List.set_cons_zero, List.set_cons_succ])
                refine nextG2 (i := 7) (j := 11) (by kernel_rfl) rfl rfl (by rfl) (by rfl) hCl ?_ ?_
                · skip
                  refine (fun K hK => ?_)
                  go_simp
                  refine ⟨trivial, (callsIn_wide.2 (HO.out _ _ _ _ _ _ _ _ _ _ I6 J6 (HK.out _ hHeld.1))).mono ?_⟩
                  rintro e X2 ⟨rfl, u⟩
                  replace I6 := I6.up u
                  replace J6 := J6.up u
                  refine hK.out _ _ ⟨hHeld.1.trans u, u.blk hHeld.2.1, u.blk hHeld.2.2.1, u.blk hHeld.2.2.2.1, u.blk hHeld.2.2.2.2⟩ (fun hHeld hCl => ?_)
                  clear hK K u
                  try (dsimp only [List.getElem_toArray, List.getElem_cons_succ, List.getElem_cons_zero]
                       simp only [Act.put, List.setIfInBounds_toArray, List.set_cons_zero, List.set_cons_succ])
                  refine takeG (i := 8) (d := (some 66)) (v := ?v7) rfl rfl (by kernel_rfl) (by kernel_rfl) (by decide) hCl (by kernel_rfl) (by kernel_rfl) (by kernel_rfl) (fun _ _ _ h => h) (by rfl) ?hy7 (fun _ _ _ => trivial) (by assumption) (fun hCl' => ?_)
                  case hy7 => ((intro w hSw; (try dsimp only at hSw); (try go_split_ands); go_simp); try with_reducible rfl)
                  simp only [Act.put, List.setIfInBounds_toArray, List.set_cons_zero, List.set_cons_succ]
                  replace hCl := hCl'; clear hCl'
                  refine takeG (i := 9) (d := (some 75)) (v := ?v8) rfl rfl (by kernel_rfl) (by kernel_rfl) (by decide) hCl (by kernel_rfl) (by kernel_rfl) (by kernel_rfl) (fun _ _ _ h => h) (by rfl) ?hy8 (fun _ _ _ => trivial) (by assumption) (fun hCl' => ?_)
                  case hy8 => ((intro w hSw; (try dsimp only at hSw); (try go_split_ands); go_simp); try with_reducible rfl)
                  simp only [Act.put, List.setIfInBounds_toArray, List.set_cons_zero, List.set_cons_succ]
                  replace hCl := hCl'; clear hCl'
                  refine takeG (i := 10) (d := (some 76)) (v := ?v9) rfl rfl (by kernel_rfl) (by kernel_rfl) (by decide) hCl (by kernel_rfl) (by kernel_rfl) (by kernel_rfl) (fun _ _ _ h => h) (by rfl) ?hy9 (fun _ _ _ => trivial) (by assumption) (fun hCl' => ?_)
                  case hy9 => ((intro w hSw; (try dsimp only at hSw); (try go_split_ands); go_simp); try with_reducible rfl)
                  simp only [Act.put, List.setIfInBounds_toArray, List.set_cons_zero, List.set_cons_succ]
                  replace hCl := hCl'; clear hCl'
                  refine nextG (i := 11) (by kernel_rfl) rfl (by rfl) hCl (fun K hK => ?_)
                  go_simp
                  have u : Up X2 (X2.alloc (.cells #[.int .i64 0, .int .i64 0] 23)) := (Up.refl X2).alloc _
                  have kN := blk_new X2 (.cells #[.int .i64 0, .int .i64 0] 23) _ rfl
                  have gN : w.heap.size ≤ X2.heap.size := hHeld.1.size
                  have dN0 := blk_lt hHeld.2.1
                  have dN1 := blk_lt hHeld.2.2.1
                  have dN2 := blk_lt hHeld.2.2.2.1
                  have dN3 := blk_lt hHeld.2.2.2.2
                  obtain ⟨pN, hpN⟩ : ∃ q, X2.heap.size = q := ⟨_, rfl⟩
                  obtain ⟨X3, hX⟩ : ∃ z, X2.alloc (.cells #[.int .i64 0, .int .i64 0] 23) = z := ⟨_, rfl⟩
                  rw [hX] at u kN
                  rw [hpN] at kN gN dN0 dN1 dN2 dN3
                  replace I6 := I6.up u
                  replace J6 := J6.up u
                  try rw [hX]
                  try rw [hpN]
                  refine hK.out _ _ ⟨hHeld.1.trans u, u.blk hHeld.2.1, u.blk hHeld.2.2.1, u.blk hHeld.2.2.2.1, u.blk hHeld.2.2.2.2⟩ (fun hHeld hCl => ?_)
                  clear hK K u hX hpN
                  try (dsimp only [List.getElem_toArray, List.getElem_cons_succ, List.getElem_cons_zero]
                       simp only [Act.put, List.setIfInBounds_toArray, List.set_cons_zero, List.set_cons_succ])
                  have zf := frozB kN
                  have hH := hHeld
                  clear hHeld
                  refine nextG (i := 12) (by kernel_rfl) rfl (by rfl) hCl (fun K hK => ?_)
                  go_simp
                  have UZ := ((hH.1.set (p := ⟨pN, 0, none⟩) (show w.heap.size ≤ pN by omega) (.int .i64 lx)).set (p := ⟨pN, 1, none⟩) (show w.heap.size ≤ pN by omega) (.int .i64 hx))
                  have kZ : mblk ((X3.setCell ⟨pN, 0, none⟩ (.int .i64 lx)).setCell ⟨pN, 1, none⟩ (.int .i64 hx)) pN = some (.cells #[.int .i64 lx, .int .i64 hx] 23 (0, 0)) := (blk_put (blk_put kN 0 (.int .i64 lx)) 1 (.int .i64 hx))
                  have zkB := hH.2.1
                  rw [← blk_set (X3) ⟨pN, 0, none⟩ (.int .i64 lx) (q0) (by show q0 ≠ pN; omega), ← blk_set ((X3).setCell ⟨pN, 0, none⟩ (.int .i64 lx)) ⟨pN, 1, none⟩ (.int .i64 hx) (q0) (by show q0 ≠ pN; omega)] at zkB
                  have zkN := hH.2.2.1
                  rw [← blk_set (X3) ⟨pN, 0, none⟩ (.int .i64 lx) (q0 + 1) (by show q0 + 1 ≠ pN; omega), ← blk_set ((X3).setCell ⟨pN, 0, none⟩ (.int .i64 lx)) ⟨pN, 1, none⟩ (.int .i64 hx) (q0 + 1) (by show q0 + 1 ≠ pN; omega)] at zkN
                  have zksp := hH.2.2.2.1
                  rw [← blk_set (X3) ⟨pN, 0, none⟩ (.int .i64 lx) (pksp) (by show pksp ≠ pN; omega), ← blk_set ((X3).setCell ⟨pN, 0, none⟩ (.int .i64 lx)) ⟨pN, 1, none⟩ (.int .i64 hx) (pksp) (by show pksp ≠ pN; omega)] at zksp
                  have zkEp := hH.2.2.2.2
                  rw [← blk_set (X3) ⟨pN, 0, none⟩ (.int .i64 lx) (pkEp) (by show pkEp ≠ pN; omega), ← blk_set ((X3).setCell ⟨pN, 0, none⟩ (.int .i64 lx)) ⟨pN, 1, none⟩ (.int .i64 hx) (pkEp) (by show pkEp ≠ pN; omega)] at zkEp
                  obtain ⟨Z, hZ⟩ : ∃ z, ((X3.setCell ⟨pN, 0, none⟩ (.int .i64 lx)).setCell ⟨pN, 1, none⟩ (.int .i64 hx)) = z := ⟨_, rfl⟩
                  rw [hZ] at UZ kZ zkB zkN zksp zkEp 
                  try rw [hZ]
                  refine hK.out _ _ ⟨UZ, zkB, zkN, zksp, zkEp⟩ (fun _ hCl => ?_)
                  clear hK K hZ zf
                  try (dsimp only [List.getElem_toArray, List.getElem_cons_succ, List.getElem_cons_zero]
                       simp only [Act.put, List.setIfInBounds_toArray, List.set_cons_zero, List.set_cons_succ])
                  clear hCl
                  refine lastG (i := 13) (by kernel_rfl) rfl (by rfl) (by decide) (fun K hK => ?_)
                  go_simp
                  refine hK.out _ _ ?_
                  clear hK K
                  refine doneG (by kernel_rfl) ?_ _
                  refine S.nrm_intro ?_
                  obtain ⟨vb, hvb⟩ : ∃ v, BoV (N : Int) bl bh rl rh (.slice a6 ps.length c6) (.slice a7 qs.length c7) (.slice aL ls.length cL) = v := ⟨_, rfl⟩
                  rw [hvb]
                  exact HKey.out _ pN vb ⟨UZ, zkB, zkN, zksp, zkEp, kZ, trivial⟩
                · skip
                  refine (fun K hK => ?_)
                  go_simp
                  have u : Up X1 (X1.alloc (.cells #[.int .i64 0, .int .i64 0] 23)) := (Up.refl X1).alloc _
                  have kN := blk_new X1 (.cells #[.int .i64 0, .int .i64 0] 23) _ rfl
                  have gN : w.heap.size ≤ X1.heap.size := hHeld.1.size
                  have dN0 := blk_lt hHeld.2.1
                  have dN1 := blk_lt hHeld.2.2.1
                  have dN2 := blk_lt hHeld.2.2.2.1
                  have dN3 := blk_lt hHeld.2.2.2.2
                  obtain ⟨pN, hpN⟩ : ∃ q, X1.heap.size = q := ⟨_, rfl⟩
                  obtain ⟨X4, hX⟩ : ∃ z, X1.alloc (.cells #[.int .i64 0, .int .i64 0] 23) = z := ⟨_, rfl⟩
                  rw [hX] at u kN
                  rw [hpN] at kN gN dN0 dN1 dN2 dN3
                  replace I6 := I6.up u
                  replace J6 := J6.up u
                  try rw [hX]
                  try rw [hpN]
                  refine hK.out _ _ ⟨hHeld.1.trans u, u.blk hHeld.2.1, u.blk hHeld.2.2.1, u.blk hHeld.2.2.2.1, u.blk hHeld.2.2.2.2⟩ (fun hHeld hCl => ?_)
                  clear hK K u hX hpN
                  try (dsimp only [List.getElem_toArray, List.getElem_cons_succ, List.getElem_cons_zero]
                       simp only [Act.put, List.setIfInBounds_toArray, List.set_cons_zero, List.set_cons_succ])
                  refine nextG (i := 7) (by kernel_rfl) rfl (by rfl) hCl (fun K hK => ?_)
                  go_simp
                  refine ⟨trivial, (callsIn_wide.2 (HO.out _ _ _ _ _ _ _ _ _ _ I6 J6 (HK.out _ hHeld.1))).mono ?_⟩
                  rintro e X5 ⟨rfl, u⟩
                  replace I6 := I6.up u
                  replace J6 := J6.up u
                  replace kN := u.blk kN
                  refine hK.out _ _ ⟨hHeld.1.trans u, u.blk hHeld.2.1, u.blk hHeld.2.2.1, u.blk hHeld.2.2.2.1, u.blk hHeld.2.2.2.2⟩ (fun hHeld hCl => ?_)
                  clear hK K u
                  try (dsimp only [List.getElem_toArray, List.getElem_cons_succ, List.getElem_cons_zero]
                       simp only [Act.put, List.setIfInBounds_toArray, List.set_cons_zero, List.set_cons_succ])
                  refine takeG (i := 8) (d := (some 66)) (v := ?v14) rfl rfl (by kernel_rfl) (by kernel_rfl) (by decide) hCl (by kernel_rfl) (by kernel_rfl) (by kernel_rfl) (fun _ _ _ h => h) (by rfl) ?hy14 (fun _ _ _ => trivial) (by assumption) (fun hCl' => ?_)
                  case hy14 => ((intro w hSw; (try dsimp only at hSw); (try go_split_ands); go_simp); try with_reducible rfl)
                  simp only [Act.put, List.setIfInBounds_toArray, List.set_cons_zero, List.set_cons_succ]
                  replace hCl := hCl'; clear hCl'
                  refine takeG (i := 9) (d := (some 75)) (v := ?v15) rfl rfl (by kernel_rfl) (by kernel_rfl) (by decide) hCl (by kernel_rfl) (by kernel_rfl) (by kernel_rfl) (fun _ _ _ h => h) (by rfl) ?hy15 (fun _ _ _ => trivial) (by assumption) (fun hCl' => ?_)
                  case hy15 => ((intro w hSw; (try dsimp only at hSw); (try go_split_ands); go_simp); try with_reducible rfl)
                  simp only [Act.put, List.setIfInBounds_toArray, List.set_cons_zero, List.set_cons_succ]
                  replace hCl := hCl'; clear hCl'
                  refine takeG (i := 10) (d := (some 76)) (v := ?v16) rfl rfl (by kernel_rfl) (by kernel_rfl) (by decide) hCl (by kernel_rfl) (by kernel_rfl) (by kernel_rfl) (fun _ _ _ h => h) (by rfl) ?hy16 (fun _ _ _ => trivial) (by assumption) (fun hCl' => ?_)
                  case hy16 => ((intro w hSw; (try dsimp only at hSw); (try go_split_ands); go_simp); try with_reducible rfl)
                  simp only [Act.put, List.setIfInBounds_toArray, List.set_cons_zero, List.set_cons_succ]
                  replace hCl := hCl'; clear hCl'
                  have zf := frozB kN
                  have hH := hHeld
                  clear hHeld
                  refine nextG (i := 12) (by kernel_rfl) rfl (by rfl) hCl (fun K hK => ?_)
                  go_simp
                  have UZ := ((hH.1.set (p := ⟨pN, 0, none⟩) (show w.heap.size ≤ pN by omega) (.int .i64 lx)).set (p := ⟨pN, 1, none⟩) (show w.heap.size ≤ pN by omega) (.int .i64 hx))
                  have kZ : mblk ((X5.setCell ⟨pN, 0, none⟩ (.int .i64 lx)).setCell ⟨pN, 1, none⟩ (.int .i64 hx)) pN = some (.cells #[.int .i64 lx, .int .i64 hx] 23 (0, 0)) := (blk_put (blk_put kN 0 (.int .i64 lx)) 1 (.int .i64 hx))
                  have zkB := hH.2.1
                  rw [← blk_set (X5) ⟨pN, 0, none⟩ (.int .i64 lx) (q0) (by show q0 ≠ pN; omega), ← blk_set ((X5).setCell ⟨pN, 0, none⟩ (.int .i64 lx)) ⟨pN, 1, none⟩ (.int .i64 hx) (q0) (by show q0 ≠ pN; omega)] at zkB
                  have zkN := hH.2.2.1
                  rw [← blk_set (X5) ⟨pN, 0, none⟩ (.int .i64 lx) (q0 + 1) (by show q0 + 1 ≠ pN; omega), ← blk_set ((X5).setCell ⟨pN, 0, none⟩ (.int .i64 lx)) ⟨pN, 1, none⟩ (.int .i64 hx) (q0 + 1) (by show q0 + 1 ≠ pN; omega)] at zkN
                  have zksp := hH.2.2.2.1
                  rw [← blk_set (X5) ⟨pN, 0, none⟩ (.int .i64 lx) (pksp) (by show pksp ≠ pN; omega), ← blk_set ((X5).setCell ⟨pN, 0, none⟩ (.int .i64 lx)) ⟨pN, 1, none⟩ (.int .i64 hx) (pksp) (by show pksp ≠ pN; omega)] at zksp
                  have zkEp := hH.2.2.2.2
                  rw [← blk_set (X5) ⟨pN, 0, none⟩ (.int .i64 lx) (pkEp) (by show pkEp ≠ pN; omega), ← blk_set ((X5).setCell ⟨pN, 0, none⟩ (.int .i64 lx)) ⟨pN, 1, none⟩ (.int .i64 hx) (pkEp) (by show pkEp ≠ pN; omega)] at zkEp
                  obtain ⟨Z, hZ⟩ : ∃ z, ((X5.setCell ⟨pN, 0, none⟩ (.int .i64 lx)).setCell ⟨pN, 1, none⟩ (.int .i64 hx)) = z := ⟨_, rfl⟩
                  rw [hZ] at UZ kZ zkB zkN zksp zkEp 
                  try rw [hZ]
                  refine hK.out _ _ ⟨UZ, zkB, zkN, zksp, zkEp⟩ (fun _ hCl => ?_)
                  clear hK K hZ zf
                  try (dsimp only [List.getElem_toArray, List.getElem_cons_succ, List.getElem_cons_zero]
                       simp only [Act.put, List.setIfInBounds_toArray, List.set_cons_zero, List.set_cons_succ])
                  clear hCl
                  refine lastG (i := 13) (by kernel_rfl) rfl (by rfl) (by decide) (fun K hK => ?_)
                  go_simp
                  refine hK.out _ _ ?_
                  clear hK K
                  refine doneG (by kernel_rfl) ?_ _
                  refine S.nrm_intro ?_
                  obtain ⟨vb, hvb⟩ : ∃ v, BoV (N : Int) bl bh rl rh (.slice a6 ps.length c6) (.slice a7 qs.length c7) (.slice aL ls.length cL) = v := ⟨_, rfl⟩
                  rw [hvb]
                  exact HKey.out _ pN vb ⟨UZ, zkB, zkN, zksp, zkEp, kZ, trivial⟩
              · skip
                refine (fun K hK => ?_)
                go_simp
                have u : Up X0 (X0.alloc (.cells #[.int .i64 0, .int .i64 0] 23)) := (Up.refl X0).alloc _
                have kN := blk_new X0 (.cells #[.int .i64 0, .int .i64 0] 23) _ rfl
                have gN : w.heap.size ≤ X0.heap.size := hHeld.1.size
                have dN0 := blk_lt hHeld.2.1
                have dN1 := blk_lt hHeld.2.2.1
                have dN2 := blk_lt hHeld.2.2.2.1
                have dN3 := blk_lt hHeld.2.2.2.2
                obtain ⟨pN, hpN⟩ : ∃ q, X0.heap.size = q := ⟨_, rfl⟩
                obtain ⟨X6, hX⟩ : ∃ z, X0.alloc (.cells #[.int .i64 0, .int .i64 0] 23) = z := ⟨_, rfl⟩
                rw [hX] at u kN
                rw [hpN] at kN gN dN0 dN1 dN2 dN3
                try rw [hX]
                try rw [hpN]
                refine hK.out _ _ ⟨hHeld.1.trans u, u.blk hHeld.2.1, u.blk hHeld.2.2.1, u.blk hHeld.2.2.2.1, u.blk hHeld.2.2.2.2⟩ (fun hHeld hCl => ?_)
                clear hK K u hX hpN
                try (dsimp only [List.getElem_toArray, List.getElem_cons_succ, List.getElem_cons_zero]
                     simp only [Act.put, List.setIfInBounds_toArray, List.set_cons_zero, List.set_cons_succ])
                refine nextG (i := 6) (by kernel_rfl) rfl (by rfl) hCl (fun K hK => ?_)
                go_simp
                refine ⟨trivial, (callsIn_wide.2 (HNa.out _ hHeld.1)).mono ?_⟩
                rintro e X7 ⟨⟨a6, c6, a7, c7, rfl, I6, J6⟩, u⟩
                replace kN := u.blk kN
                refine hK.out _ _ ⟨hHeld.1.trans u, u.blk hHeld.2.1, u.blk hHeld.2.2.1, u.blk hHeld.2.2.2.1, u.blk hHeld.2.2.2.2⟩ (fun hHeld hCl => ?_)
                clear hK K u
                try (dsimp only [List.getElem_toArray, List.getElem_cons_succ, List.getElem_cons_zero]
                     simp only [Act.put, List.setIfInBounds_toArray, List.set_cons_zero, List.set_cons_succ])
                refine nextG (i := 7) (by kernel_rfl) rfl (by rfl) hCl (fun K hK => ?_)
                go_simp
                refine ⟨trivial, (callsIn_wide.2 (HO.out _ _ _ _ _ _ _ _ _ _ I6 J6 (HK.out _ hHeld.1))).mono ?_⟩
                rintro e X8 ⟨rfl, u⟩
                replace kN := u.blk kN
                replace I6 := I6.up u
                replace J6 := J6.up u
                refine hK.out _ _ ⟨hHeld.1.trans u, u.blk hHeld.2.1, u.blk hHeld.2.2.1, u.blk hHeld.2.2.2.1, u.blk hHeld.2.2.2.2⟩ (fun hHeld hCl => ?_)
                clear hK K u
                try (dsimp only [List.getElem_toArray, List.getElem_cons_succ, List.getElem_cons_zero]
                     simp only [Act.put, List.setIfInBounds_toArray, List.set_cons_zero, List.set_cons_succ])
                refine takeG (i := 8) (d := (some 66)) (v := ?v21) rfl rfl (by kernel_rfl) (by kernel_rfl) (by decide) hCl (by kernel_rfl) (by kernel_rfl) (by kernel_rfl) (fun _ _ _ h => h) (by rfl) ?hy21 (fun _ _ _ => trivial) (by assumption) (fun hCl' => ?_)
                case hy21 => ((intro w hSw; (try dsimp only at hSw); (try go_split_ands); go_simp); try with_reducible rfl)
                simp only [Act.put, List.setIfInBounds_toArray, List.set_cons_zero, List.set_cons_succ]
                replace hCl := hCl'; clear hCl'
                refine takeG (i := 9) (d := (some 75)) (v := ?v22) rfl rfl (by kernel_rfl) (by kernel_rfl) (by decide) hCl (by kernel_rfl) (by kernel_rfl) (by kernel_rfl) (fun _ _ _ h => h) (by rfl) ?hy22 (fun _ _ _ => trivial) (by assumption) (fun hCl' => ?_)
                case hy22 => ((intro w hSw; (try dsimp only at hSw); (try go_split_ands); go_simp); try with_reducible rfl)
                simp only [Act.put, List.setIfInBounds_toArray, List.set_cons_zero, List.set_cons_succ]
                replace hCl := hCl'; clear hCl'
                refine takeG (i := 10) (d := (some 76)) (v := ?v23) rfl rfl (by kernel_rfl) (by kernel_rfl) (by decide) hCl (by kernel_rfl) (by kernel_rfl) (by kernel_rfl) (fun _ _ _ h => h) (by rfl) ?hy23 (fun _ _ _ => trivial) (by assumption) (fun hCl' => ?_)
                case hy23 => ((intro w hSw; (try dsimp only at hSw); (try go_split_ands); go_simp); try with_reducible rfl)
                simp only [Act.put, List.setIfInBounds_toArray, List.set_cons_zero, List.set_cons_succ]
                replace hCl := hCl'; clear hCl'
                have zf := frozB kN
                have hH := hHeld
                clear hHeld
                refine nextG (i := 12) (by kernel_rfl) rfl (by rfl) hCl (fun K hK => ?_)
                go_simp
                have UZ := ((hH.1.set (p := ⟨pN, 0, none⟩) (show w.heap.size ≤ pN by omega) (.int .i64 lx)).set (p := ⟨pN, 1, none⟩) (show w.heap.size ≤ pN by omega) (.int .i64 hx))
                have kZ : mblk ((X8.setCell ⟨pN, 0, none⟩ (.int .i64 lx)).setCell ⟨pN, 1, none⟩ (.int .i64 hx)) pN = some (.cells #[.int .i64 lx, .int .i64 hx] 23 (0, 0)) := (blk_put (blk_put kN 0 (.int .i64 lx)) 1 (.int .i64 hx))
                have zkB := hH.2.1
                rw [← blk_set (X8) ⟨pN, 0, none⟩ (.int .i64 lx) (q0) (by show q0 ≠ pN; omega), ← blk_set ((X8).setCell ⟨pN, 0, none⟩ (.int .i64 lx)) ⟨pN, 1, none⟩ (.int .i64 hx) (q0) (by show q0 ≠ pN; omega)] at zkB
                have zkN := hH.2.2.1
                rw [← blk_set (X8) ⟨pN, 0, none⟩ (.int .i64 lx) (q0 + 1) (by show q0 + 1 ≠ pN; omega), ← blk_set ((X8).setCell ⟨pN, 0, none⟩ (.int .i64 lx)) ⟨pN, 1, none⟩ (.int .i64 hx) (q0 + 1) (by show q0 + 1 ≠ pN; omega)] at zkN
                have zksp := hH.2.2.2.1
                rw [← blk_set (X8) ⟨pN, 0, none⟩ (.int .i64 lx) (pksp) (by show pksp ≠ pN; omega), ← blk_set ((X8).setCell ⟨pN, 0, none⟩ (.int .i64 lx)) ⟨pN, 1, none⟩ (.int .i64 hx) (pksp) (by show pksp ≠ pN; omega)] at zksp
                have zkEp := hH.2.2.2.2
                rw [← blk_set (X8) ⟨pN, 0, none⟩ (.int .i64 lx) (pkEp) (by show pkEp ≠ pN; omega), ← blk_set ((X8).setCell ⟨pN, 0, none⟩ (.int .i64 lx)) ⟨pN, 1, none⟩ (.int .i64 hx) (pkEp) (by show pkEp ≠ pN; omega)] at zkEp
                obtain ⟨Z, hZ⟩ : ∃ z, ((X8.setCell ⟨pN, 0, none⟩ (.int .i64 lx)).setCell ⟨pN, 1, none⟩ (.int .i64 hx)) = z := ⟨_, rfl⟩
                rw [hZ] at UZ kZ zkB zkN zksp zkEp 
                try rw [hZ]
                refine hK.out _ _ ⟨UZ, zkB, zkN, zksp, zkEp⟩ (fun _ hCl => ?_)
                clear hK K hZ zf
                try (dsimp only [List.getElem_toArray, List.getElem_cons_succ, List.getElem_cons_zero]
                     simp only [Act.put, List.setIfInBounds_toArray, List.set_cons_zero, List.set_cons_succ])
                clear hCl
                refine lastG (i := 13) (by kernel_rfl) rfl (by rfl) (by decide) (fun K hK => ?_)
                go_simp
                refine hK.out _ _ ?_
                clear hK K
                refine doneG (by kernel_rfl) ?_ _
                refine S.nrm_intro ?_
                obtain ⟨vb, hvb⟩ : ∃ v, BoV (N : Int) bl bh rl rh (.slice a6 ps.length c6) (.slice a7 qs.length c7) (.slice aL ls.length cL) = v := ⟨_, rfl⟩
                rw [hvb]
                exact HKey.out _ pN vb ⟨UZ, zkB, zkN, zksp, zkEp, kZ, trivial⟩
            clear U kB kN ksp kEp
            rintro Z108 pkxp v1 ⟨U, kB, kN, ksp, kEp, kxp, _⟩
            clear kxp
            clear HO HNa
            go_wp2_with fail
            by_cases he : ex = 0 <;> by_cases hj2 : j < 2
            · skip
              subst he
              have dj : decide ((j : Int) < 2) = true := decide_eq_true (by omega)
              have ij : (j : Int) < 2 := by omega
              clear HX hj2
              have F130 := Lib.hid (fun w (u : Up Z108 w) => u.blk kB)
              have F131 := Lib.hid (fun w (u : Up Z108 w) => u.blk kN)
              have F132 := Lib.hid (fun w (u : Up Z108 w) => u.blk ksp)
              have F133 := Lib.hid (fun w (u : Up Z108 w) => u.blk kEp)
              refine (wpIn_wide (n := 5)).1 ?_
              refine wpIn_nrm ?_
              refine T.regionQ (fun w' => Up Z108 w') 16 1 hmx (by kernel_rfl) (by kernel_rfl) ((Up.refl Z108).drew) (fun hCl => ?_)
              refine T.qT 0 (some 77) ?v26 rfl rfl hCl ?hy26 (fun hCl' => ?_)
              case hy26 => (intro w hSw; refine T.qVal ?_ hSw; (try dsimp only [List.getElem_toArray, List.getElem_cons_succ, List.getElem_cons_zero]); go_simp; try with_reducible rfl)
              simp only [Act.put, List.setIfInBounds_toArray, List.set_cons_zero, List.set_cons_succ]; replace hCl := hCl'; clear hCl'
              refine T.qT 2 (some 79) ?v27 rfl rfl hCl ?hy27 (fun hCl' => ?_)
              case hy27 => (intro w hSw; refine T.qVal ?_ hSw; (try dsimp only [List.getElem_toArray, List.getElem_cons_succ, List.getElem_cons_zero]); go_simp; try with_reducible rfl)
              simp only [Act.put, List.setIfInBounds_toArray, List.set_cons_zero, List.set_cons_succ]; replace hCl := hCl'; clear hCl'
              refine T.qT 1 (some 78) ?v28 rfl rfl hCl ?hy28 (fun hCl' => ?_)
              case hy28 => (intro w hSw; refine T.qVal ?_ hSw; (try dsimp only [List.getElem_toArray, List.getElem_cons_succ, List.getElem_cons_zero]); go_simp; try with_reducible rfl)
              simp only [Act.put, List.setIfInBounds_toArray, List.set_cons_zero, List.set_cons_succ]; replace hCl := hCl'; clear hCl'
              refine T.qT 3 (some 80) ?v29 rfl rfl hCl ?hy29 (fun hCl' => ?_)
              case hy29 => (intro w hSw; refine T.qVal ?_ hSw; (try dsimp only [List.getElem_toArray, List.getElem_cons_succ, List.getElem_cons_zero]); go_simp; try with_reducible rfl)
              simp only [Act.put, List.setIfInBounds_toArray, List.set_cons_zero, List.set_cons_succ]; replace hCl := hCl'; clear hCl'
              refine T.qT 4 (some 81) ?v30 rfl rfl hCl ?hy30 (fun hCl' => ?_)
              case hy30 => (intro w hSw; refine T.qVal ?_ hSw; (try dsimp only [List.getElem_toArray, List.getElem_cons_succ, List.getElem_cons_zero]); go_simp; try with_reducible rfl)
              simp only [Act.put, List.setIfInBounds_toArray, List.set_cons_zero, List.set_cons_succ]; replace hCl := hCl'; clear hCl'
              refine T.qT 5 (some 82) ?v31 rfl rfl hCl ?hy31 (fun hCl' => ?_)
              case hy31 => (intro w hSw; refine T.qVal ?_ hSw; (try dsimp only [List.getElem_toArray, List.getElem_cons_succ, List.getElem_cons_zero]); go_simp; try with_reducible rfl)
              simp only [Act.put, List.setIfInBounds_toArray, List.set_cons_zero, List.set_cons_succ]; replace hCl := hCl'; clear hCl'
              refine T.qS 6 (some 83) rfl rfl hCl (fun hCl' => ?_)
              simp only [Act.put, List.setIfInBounds_toArray, List.set_cons_zero, List.set_cons_succ]; replace hCl := hCl'; clear hCl'
              refine T.qS 8 (some 85) rfl rfl hCl (fun hCl' => ?_)
              simp only [Act.put, List.setIfInBounds_toArray, List.set_cons_zero, List.set_cons_succ]; replace hCl := hCl'; clear hCl'
              refine T.qS 11 (some 88) rfl rfl hCl (fun hCl' => ?_)
              simp only [Act.put, List.setIfInBounds_toArray, List.set_cons_zero, List.set_cons_succ]; replace hCl := hCl'; clear hCl'
              refine T.qS 12 (some 89) rfl rfl hCl (fun hCl' => ?_)
              simp only [Act.put, List.setIfInBounds_toArray, List.set_cons_zero, List.set_cons_succ]; replace hCl := hCl'; clear hCl'
              refine T.qS 7 (some 84) rfl rfl hCl (fun hCl' => ?_)
              simp only [Act.put, List.setIfInBounds_toArray, List.set_cons_zero, List.set_cons_succ]; replace hCl := hCl'; clear hCl'
              refine T.qS 13 (some 90) rfl rfl hCl (fun hCl' => ?_)
              simp only [Act.put, List.setIfInBounds_toArray, List.set_cons_zero, List.set_cons_succ]; replace hCl := hCl'; clear hCl'
              refine T.qS 9 (some 86) rfl rfl hCl (fun hCl' => ?_)
              simp only [Act.put, List.setIfInBounds_toArray, List.set_cons_zero, List.set_cons_succ]; replace hCl := hCl'; clear hCl'
              refine T.qS 14 (some 91) rfl rfl hCl (fun hCl' => ?_)
              simp only [Act.put, List.setIfInBounds_toArray, List.set_cons_zero, List.set_cons_succ]; replace hCl := hCl'; clear hCl'
              refine T.qS 10 (some 87) rfl rfl hCl (fun hCl' => ?_)
              simp only [Act.put, List.setIfInBounds_toArray, List.set_cons_zero, List.set_cons_succ]; replace hCl := hCl'; clear hCl'
              refine T.qS 15 (some 92) rfl rfl hCl (fun hCl' => ?_)
              simp only [Act.put, List.setIfInBounds_toArray, List.set_cons_zero, List.set_cons_succ]; replace hCl := hCl'; clear hCl'
              refine T.tail_intro (by kernel_rfl) (fun Y129 hY129 => ?_)
              replace U := U.trans hY129
              replace kB := hY129.blk kB
              replace kN := hY129.blk kN
              replace ksp := hY129.blk ksp
              replace kEp := hY129.blk kEp
              clear F130 F131 F132 F133 hY129
              refine lastG (i := 16) (by kernel_rfl) rfl (by rfl) (by decide) (fun K hK => ?_)
              go_simp
              refine hK.out _ _ ?_
              clear hK K
              refine doneG (by kernel_rfl) ?_ _
              refine S.nrm_intro ?_
              go_wp2_with fail
              go_roundw
              case rel => exact ⟨j + 1, by omega, by go_num, U, kB, kN, ksp, kEp⟩
              case measure => (simp only [intOf]; omega)
            · skip
              subst he
              have dj : decide ((j : Int) < 2) = false := decide_eq_false (by omega)
              have ij : ¬ (j : Int) < 2 := by omega
              have hin : inB (T.ends lp up j) r0 r1 = false := by
                rw [Bool.eq_false_iff]
                intro q
                have q' := HX.out (by rw [HSSp.out]; exact inB_iff.1 q)
                omega
              have HHa := Lib.hid (fun w => show Calls Try.prog 40 #[SpV r0 r1, .int .i64 (T.ends lp up j)] w fun e w' => e = .returned (.bool false) ∧ Up w w' by rw [← hin]; exact B_Has_any _ _ _ w)
              have HU := Lib.hid U
              clear hin
              clear HX hj2
              have F130 := Lib.hid (fun w (u : Up Z108 w) => u.blk kB)
              have F131 := Lib.hid (fun w (u : Up Z108 w) => u.blk kN)
              have F132 := Lib.hid (fun w (u : Up Z108 w) => u.blk ksp)
              have F133 := Lib.hid (fun w (u : Up Z108 w) => u.blk kEp)
              refine (wpIn_wide (n := 5)).1 ?_
              refine wpIn_nrm ?_
              refine T.regionQ (fun w' => Up Z108 w') 16 1 hmx (by kernel_rfl) (by kernel_rfl) ((Up.refl Z108).drew) (fun hCl => ?_)
              refine T.qT 0 (some 77) ?v42 rfl rfl hCl ?hy42 (fun hCl' => ?_)
              case hy42 => (intro w hSw; refine T.qVal ?_ hSw; (try dsimp only [List.getElem_toArray, List.getElem_cons_succ, List.getElem_cons_zero]); go_simp; try with_reducible rfl)
              simp only [Act.put, List.setIfInBounds_toArray, List.set_cons_zero, List.set_cons_succ]; replace hCl := hCl'; clear hCl'
              refine T.qT 2 (some 79) ?v43 rfl rfl hCl ?hy43 (fun hCl' => ?_)
              case hy43 => (intro w hSw; refine T.qVal ?_ hSw; (try dsimp only [List.getElem_toArray, List.getElem_cons_succ, List.getElem_cons_zero]); go_simp; try with_reducible rfl)
              simp only [Act.put, List.setIfInBounds_toArray, List.set_cons_zero, List.set_cons_succ]; replace hCl := hCl'; clear hCl'
              refine T.qT 1 (some 78) ?v44 rfl rfl hCl ?hy44 (fun hCl' => ?_)
              case hy44 => (intro w hSw; refine T.qVal ?_ hSw; (try dsimp only [List.getElem_toArray, List.getElem_cons_succ, List.getElem_cons_zero]); go_simp; try with_reducible rfl)
              simp only [Act.put, List.setIfInBounds_toArray, List.set_cons_zero, List.set_cons_succ]; replace hCl := hCl'; clear hCl'
              refine T.qT 3 (some 80) ?v45 rfl rfl hCl ?hy45 (fun hCl' => ?_)
              case hy45 => (intro w hSw; refine T.qVal ?_ hSw; (try dsimp only [List.getElem_toArray, List.getElem_cons_succ, List.getElem_cons_zero]); go_simp; try with_reducible rfl)
              simp only [Act.put, List.setIfInBounds_toArray, List.set_cons_zero, List.set_cons_succ]; replace hCl := hCl'; clear hCl'
              refine T.qT 4 (some 81) ?v46 rfl rfl hCl ?hy46 (fun hCl' => ?_)
              case hy46 => (intro w hSw; refine T.qVal ?_ hSw; (try dsimp only [List.getElem_toArray, List.getElem_cons_succ, List.getElem_cons_zero]); go_simp; try with_reducible rfl)
              simp only [Act.put, List.setIfInBounds_toArray, List.set_cons_zero, List.set_cons_succ]; replace hCl := hCl'; clear hCl'
              refine T.qT 5 (some 82) ?v47 rfl rfl hCl ?hy47 (fun hCl' => ?_)
              case hy47 => (intro w hSw; refine T.qVal ?_ hSw; (try dsimp only [List.getElem_toArray, List.getElem_cons_succ, List.getElem_cons_zero]); go_simp; try with_reducible rfl)
              simp only [Act.put, List.setIfInBounds_toArray, List.set_cons_zero, List.set_cons_succ]; replace hCl := hCl'; clear hCl'
              refine T.qT 6 (some 83) ?v48 rfl rfl hCl ?hy48 (fun hCl' => ?_)
              case hy48 => (intro w hSw; refine T.qVal ?_ hSw; (try dsimp only [List.getElem_toArray, List.getElem_cons_succ, List.getElem_cons_zero]); go_simp; try with_reducible rfl)
              simp only [Act.put, List.setIfInBounds_toArray, List.set_cons_zero, List.set_cons_succ]; replace hCl := hCl'; clear hCl'
              refine T.qT 8 (some 85) ?v49 rfl rfl hCl ?hy49 (fun hCl' => ?_)
              case hy49 => (intro w hSw; refine T.qVal ?_ hSw; (try dsimp only [List.getElem_toArray, List.getElem_cons_succ, List.getElem_cons_zero]); go_simp; try with_reducible rfl)
              simp only [Act.put, List.setIfInBounds_toArray, List.set_cons_zero, List.set_cons_succ]; replace hCl := hCl'; clear hCl'
              refine T.qT 11 (some 88) ?v50 rfl rfl hCl ?hy50 (fun hCl' => ?_)
              case hy50 => (intro w hSw; refine T.qVal ?_ hSw; (try dsimp only [List.getElem_toArray, List.getElem_cons_succ, List.getElem_cons_zero]); go_simp; try with_reducible rfl)
              simp only [Act.put, List.setIfInBounds_toArray, List.set_cons_zero, List.set_cons_succ]; replace hCl := hCl'; clear hCl'
              refine T.qT 12 (some 89) ?v51 rfl rfl hCl ?hy51 (fun hCl' => ?_)
              case hy51 => (intro w hSw; refine T.qVal ?_ hSw; (try dsimp only [List.getElem_toArray, List.getElem_cons_succ, List.getElem_cons_zero]); go_simp; try with_reducible rfl)
              simp only [Act.put, List.setIfInBounds_toArray, List.set_cons_zero, List.set_cons_succ]; replace hCl := hCl'; clear hCl'
              refine T.qT 7 (some 84) ?v52 rfl rfl hCl ?hy52 (fun hCl' => ?_)
              case hy52 => (intro w hSw; refine T.qVal ?_ hSw; (have fF130 := F130.out w hSw; have fF131 := F131.out w hSw; have fF132 := F132.out w hSw; have fF133 := F133.out w hSw; obtain ⟨fd0, fd1⟩ := Hcp.out _ (HU.out.trans hSw)); (try dsimp only [List.getElem_toArray, List.getElem_cons_succ, List.getElem_cons_zero]); go_simp; try with_reducible rfl)
              simp only [Act.put, List.setIfInBounds_toArray, List.set_cons_zero, List.set_cons_succ]; replace hCl := hCl'; clear hCl'
              refine T.qT 13 (some 90) ?v53 rfl rfl hCl ?hy53 (fun hCl' => ?_)
              case hy53 => (intro w hSw; refine T.qVal ?_ hSw; (try dsimp only [List.getElem_toArray, List.getElem_cons_succ, List.getElem_cons_zero]); go_simp; try with_reducible rfl)
              simp only [Act.put, List.setIfInBounds_toArray, List.set_cons_zero, List.set_cons_succ]; replace hCl := hCl'; clear hCl'
              refine T.qT 9 (some 86) ?v54 rfl rfl hCl ?hy54 (fun hCl' => ?_)
              case hy54 => (intro w hSw; refine T.qVal ?_ hSw; (try dsimp only [List.getElem_toArray, List.getElem_cons_succ, List.getElem_cons_zero]); go_simp; try with_reducible rfl)
              simp only [Act.put, List.setIfInBounds_toArray, List.set_cons_zero, List.set_cons_succ]; replace hCl := hCl'; clear hCl'
              refine T.qT 14 (some 91) ?v55 rfl rfl hCl ?hy55 (fun hCl' => ?_)
              case hy55 => (intro w hSw; refine T.qVal ?_ hSw; (have fF130 := F130.out w hSw; have fF131 := F131.out w hSw; have fF132 := F132.out w hSw; have fF133 := F133.out w hSw; obtain ⟨fd0, fd1⟩ := Hcp.out _ (HU.out.trans hSw)); (try dsimp only [List.getElem_toArray, List.getElem_cons_succ, List.getElem_cons_zero]); go_simp; try with_reducible rfl)
              simp only [Act.put, List.setIfInBounds_toArray, List.set_cons_zero, List.set_cons_succ]; replace hCl := hCl'; clear hCl'
              refine T.qT 10 (some 87) ?v56 rfl rfl hCl ?hy56 (fun hCl' => ?_)
              case hy56 => (intro w hSw; refine T.qVal ?_ hSw; (have fF130 := F130.out w hSw; have fF131 := F131.out w hSw; have fF132 := F132.out w hSw; have fF133 := F133.out w hSw; obtain ⟨fd0, fd1⟩ := Hcp.out _ (HU.out.trans hSw)); (try dsimp only [List.getElem_toArray, List.getElem_cons_succ, List.getElem_cons_zero]); go_simp; try with_reducible rfl)
              simp only [Act.put, List.setIfInBounds_toArray, List.set_cons_zero, List.set_cons_succ]; replace hCl := hCl'; clear hCl'
              refine T.qT 15 (some 92) ((.bool false)) rfl rfl hCl ?hy57 (fun hCl' => ?_)
              case hy57 => (intro w hSw; (have fF130 := F130.out w hSw; have fF131 := F131.out w hSw; have fF132 := F132.out w hSw; have fF133 := F133.out w hSw; obtain ⟨fd0, fd1⟩ := Hcp.out _ (HU.out.trans hSw)); (try dsimp only [List.getElem_toArray, List.getElem_cons_succ, List.getElem_cons_zero]); go_simp; (refine (callsIn_wide.2 (HHa.out w)).mono ?_; rintro e w3 ⟨rfl, u3⟩; exact ⟨rfl, hSw.trans u3⟩))
              simp only [Act.put, List.setIfInBounds_toArray, List.set_cons_zero, List.set_cons_succ]
              replace hCl := hCl'; clear hCl'
              refine T.tail_intro (by kernel_rfl) (fun Y129 hY129 => ?_)
              replace U := U.trans hY129
              replace kB := hY129.blk kB
              replace kN := hY129.blk kN
              replace ksp := hY129.blk ksp
              replace kEp := hY129.blk kEp
              clear F130 F131 F132 F133 hY129
              refine lastG (i := 16) (by kernel_rfl) rfl (by rfl) (by decide) (fun K hK => ?_)
              go_simp
              refine hK.out _ _ ?_
              clear hK K
              refine doneG (by kernel_rfl) ?_ _
              refine S.nrm_intro ?_
              clear HU HHa
              go_wp2_with fail
              go_roundw
              case rel => exact ⟨j + 1, by omega, by go_num, U, kB, kN, ksp, kEp⟩
              case measure => (simp only [intOf]; omega)
            · skip
              have he0 : (ex == 0) = false := by rw [beq_eq_false_iff_ne]; exact he
              have dj : decide ((j : Int) < 2) = true := decide_eq_true (by omega)
              have ij : (j : Int) < 2 := by omega
              have hin : inB (T.ends lp up j) r0 r1 = false := by
                rw [Bool.eq_false_iff]
                intro q
                have q' := HX.out (by rw [HSSp.out]; exact inB_iff.1 q)
                omega
              have HHa := Lib.hid (fun w => show Calls Try.prog 40 #[SpV r0 r1, .int .i64 (T.ends lp up j)] w fun e w' => e = .returned (.bool false) ∧ Up w w' by rw [← hin]; exact B_Has_any _ _ _ w)
              have HU := Lib.hid U
              clear hin
              clear HX hj2 he
              have F130 := Lib.hid (fun w (u : Up Z108 w) => u.blk kB)
              have F131 := Lib.hid (fun w (u : Up Z108 w) => u.blk kN)
              have F132 := Lib.hid (fun w (u : Up Z108 w) => u.blk ksp)
              have F133 := Lib.hid (fun w (u : Up Z108 w) => u.blk kEp)
              refine (wpIn_wide (n := 5)).1 ?_
              refine wpIn_nrm ?_
              refine T.regionQ (fun w' => Up Z108 w') 16 1 hmx (by kernel_rfl) (by kernel_rfl) ((Up.refl Z108).drew) (fun hCl => ?_)
              refine T.qT 0 (some 77) ?v58 rfl rfl hCl ?hy58 (fun hCl' => ?_)
              case hy58 => (intro w hSw; refine T.qVal ?_ hSw; (try dsimp only [List.getElem_toArray, List.getElem_cons_succ, List.getElem_cons_zero]); go_simp; try with_reducible rfl)
              simp only [Act.put, List.setIfInBounds_toArray, List.set_cons_zero, List.set_cons_succ]; replace hCl := hCl'; clear hCl'
              refine T.qT 2 (some 79) ?v59 rfl rfl hCl ?hy59 (fun hCl' => ?_)
              case hy59 => (intro w hSw; refine T.qVal ?_ hSw; (try dsimp only [List.getElem_toArray, List.getElem_cons_succ, List.getElem_cons_zero]); go_simp; try with_reducible rfl)
              simp only [Act.put, List.setIfInBounds_toArray, List.set_cons_zero, List.set_cons_succ]; replace hCl := hCl'; clear hCl'
              refine T.qT 1 (some 78) ?v60 rfl rfl hCl ?hy60 (fun hCl' => ?_)
              case hy60 => (intro w hSw; refine T.qVal ?_ hSw; (try dsimp only [List.getElem_toArray, List.getElem_cons_succ, List.getElem_cons_zero]); go_simp; try with_reducible rfl)
              simp only [Act.put, List.setIfInBounds_toArray, List.set_cons_zero, List.set_cons_succ]; replace hCl := hCl'; clear hCl'
              refine T.qT 3 (some 80) ?v61 rfl rfl hCl ?hy61 (fun hCl' => ?_)
              case hy61 => (intro w hSw; refine T.qVal ?_ hSw; (try dsimp only [List.getElem_toArray, List.getElem_cons_succ, List.getElem_cons_zero]); go_simp; try with_reducible rfl)
              simp only [Act.put, List.setIfInBounds_toArray, List.set_cons_zero, List.set_cons_succ]; replace hCl := hCl'; clear hCl'
              refine T.qT 4 (some 81) ?v62 rfl rfl hCl ?hy62 (fun hCl' => ?_)
              case hy62 => (intro w hSw; refine T.qVal ?_ hSw; (try dsimp only [List.getElem_toArray, List.getElem_cons_succ, List.getElem_cons_zero]); go_simp; try with_reducible rfl)
              simp only [Act.put, List.setIfInBounds_toArray, List.set_cons_zero, List.set_cons_succ]; replace hCl := hCl'; clear hCl'
              refine T.qT 5 (some 82) ?v63 rfl rfl hCl ?hy63 (fun hCl' => ?_)
              case hy63 => (intro w hSw; refine T.qVal ?_ hSw; (try dsimp only [List.getElem_toArray, List.getElem_cons_succ, List.getElem_cons_zero]); go_simp; try with_reducible rfl)
              simp only [Act.put, List.setIfInBounds_toArray, List.set_cons_zero, List.set_cons_succ]; replace hCl := hCl'; clear hCl'
              refine T.qT 6 (some 83) ?v64 rfl rfl hCl ?hy64 (fun hCl' => ?_)
              case hy64 => (intro w hSw; refine T.qVal ?_ hSw; (try dsimp only [List.getElem_toArray, List.getElem_cons_succ, List.getElem_cons_zero]); go_simp; try with_reducible rfl)
              simp only [Act.put, List.setIfInBounds_toArray, List.set_cons_zero, List.set_cons_succ]; replace hCl := hCl'; clear hCl'
              refine T.qT 8 (some 85) ?v65 rfl rfl hCl ?hy65 (fun hCl' => ?_)
              case hy65 => (intro w hSw; refine T.qVal ?_ hSw; (try dsimp only [List.getElem_toArray, List.getElem_cons_succ, List.getElem_cons_zero]); go_simp; try with_reducible rfl)
              simp only [Act.put, List.setIfInBounds_toArray, List.set_cons_zero, List.set_cons_succ]; replace hCl := hCl'; clear hCl'
              refine T.qT 11 (some 88) ?v66 rfl rfl hCl ?hy66 (fun hCl' => ?_)
              case hy66 => (intro w hSw; refine T.qVal ?_ hSw; (try dsimp only [List.getElem_toArray, List.getElem_cons_succ, List.getElem_cons_zero]); go_simp; try with_reducible rfl)
              simp only [Act.put, List.setIfInBounds_toArray, List.set_cons_zero, List.set_cons_succ]; replace hCl := hCl'; clear hCl'
              refine T.qT 12 (some 89) ?v67 rfl rfl hCl ?hy67 (fun hCl' => ?_)
              case hy67 => (intro w hSw; refine T.qVal ?_ hSw; (try dsimp only [List.getElem_toArray, List.getElem_cons_succ, List.getElem_cons_zero]); go_simp; try with_reducible rfl)
              simp only [Act.put, List.setIfInBounds_toArray, List.set_cons_zero, List.set_cons_succ]; replace hCl := hCl'; clear hCl'
              refine T.qT 7 (some 84) ?v68 rfl rfl hCl ?hy68 (fun hCl' => ?_)
              case hy68 => (intro w hSw; refine T.qVal ?_ hSw; (have fF130 := F130.out w hSw; have fF131 := F131.out w hSw; have fF132 := F132.out w hSw; have fF133 := F133.out w hSw; obtain ⟨fd0, fd1⟩ := Hcp.out _ (HU.out.trans hSw)); (try dsimp only [List.getElem_toArray, List.getElem_cons_succ, List.getElem_cons_zero]); go_simp; try with_reducible rfl)
              simp only [Act.put, List.setIfInBounds_toArray, List.set_cons_zero, List.set_cons_succ]; replace hCl := hCl'; clear hCl'
              refine T.qT 13 (some 90) ?v69 rfl rfl hCl ?hy69 (fun hCl' => ?_)
              case hy69 => (intro w hSw; refine T.qVal ?_ hSw; (try dsimp only [List.getElem_toArray, List.getElem_cons_succ, List.getElem_cons_zero]); go_simp; try with_reducible rfl)
              simp only [Act.put, List.setIfInBounds_toArray, List.set_cons_zero, List.set_cons_succ]; replace hCl := hCl'; clear hCl'
              refine T.qT 9 (some 86) ?v70 rfl rfl hCl ?hy70 (fun hCl' => ?_)
              case hy70 => (intro w hSw; refine T.qVal ?_ hSw; (try dsimp only [List.getElem_toArray, List.getElem_cons_succ, List.getElem_cons_zero]); go_simp; try with_reducible rfl)
              simp only [Act.put, List.setIfInBounds_toArray, List.set_cons_zero, List.set_cons_succ]; replace hCl := hCl'; clear hCl'
              refine T.qT 14 (some 91) ?v71 rfl rfl hCl ?hy71 (fun hCl' => ?_)
              case hy71 => (intro w hSw; refine T.qVal ?_ hSw; (have fF130 := F130.out w hSw; have fF131 := F131.out w hSw; have fF132 := F132.out w hSw; have fF133 := F133.out w hSw; obtain ⟨fd0, fd1⟩ := Hcp.out _ (HU.out.trans hSw)); (try dsimp only [List.getElem_toArray, List.getElem_cons_succ, List.getElem_cons_zero]); go_simp; try with_reducible rfl)
              simp only [Act.put, List.setIfInBounds_toArray, List.set_cons_zero, List.set_cons_succ]; replace hCl := hCl'; clear hCl'
              refine T.qT 10 (some 87) ?v72 rfl rfl hCl ?hy72 (fun hCl' => ?_)
              case hy72 => (intro w hSw; refine T.qVal ?_ hSw; (have fF130 := F130.out w hSw; have fF131 := F131.out w hSw; have fF132 := F132.out w hSw; have fF133 := F133.out w hSw; obtain ⟨fd0, fd1⟩ := Hcp.out _ (HU.out.trans hSw)); (try dsimp only [List.getElem_toArray, List.getElem_cons_succ, List.getElem_cons_zero]); go_simp; try with_reducible rfl)
              simp only [Act.put, List.setIfInBounds_toArray, List.set_cons_zero, List.set_cons_succ]; replace hCl := hCl'; clear hCl'
              refine T.qT 15 (some 92) ((.bool false)) rfl rfl hCl ?hy73 (fun hCl' => ?_)
              case hy73 => (intro w hSw; (have fF130 := F130.out w hSw; have fF131 := F131.out w hSw; have fF132 := F132.out w hSw; have fF133 := F133.out w hSw; obtain ⟨fd0, fd1⟩ := Hcp.out _ (HU.out.trans hSw)); (try dsimp only [List.getElem_toArray, List.getElem_cons_succ, List.getElem_cons_zero]); go_simp; (refine (callsIn_wide.2 (HHa.out w)).mono ?_; rintro e w3 ⟨rfl, u3⟩; exact ⟨rfl, hSw.trans u3⟩))
              simp only [Act.put, List.setIfInBounds_toArray, List.set_cons_zero, List.set_cons_succ]
              replace hCl := hCl'; clear hCl'
              refine T.tail_intro (by kernel_rfl) (fun Y129 hY129 => ?_)
              replace U := U.trans hY129
              replace kB := hY129.blk kB
              replace kN := hY129.blk kN
              replace ksp := hY129.blk ksp
              replace kEp := hY129.blk kEp
              clear F130 F131 F132 F133 hY129
              refine lastG (i := 16) (by kernel_rfl) rfl (by rfl) (by decide) (fun K hK => ?_)
              go_simp
              refine hK.out _ _ ?_
              clear hK K
              refine doneG (by kernel_rfl) ?_ _
              refine S.nrm_intro ?_
              clear HU HHa
              go_wp2_with fail
              go_roundw
              case rel => exact ⟨j + 1, by omega, by go_num, U, kB, kN, ksp, kEp⟩
              case measure => (simp only [intOf]; omega)
            · skip
              have he0 : (ex == 0) = false := by rw [beq_eq_false_iff_ne]; exact he
              have dj : decide ((j : Int) < 2) = false := decide_eq_false (by omega)
              have ij : ¬ (j : Int) < 2 := by omega
              clear HX hj2 he
              have F130 := Lib.hid (fun w (u : Up Z108 w) => u.blk kB)
              have F131 := Lib.hid (fun w (u : Up Z108 w) => u.blk kN)
              have F132 := Lib.hid (fun w (u : Up Z108 w) => u.blk ksp)
              have F133 := Lib.hid (fun w (u : Up Z108 w) => u.blk kEp)
              refine (wpIn_wide (n := 5)).1 ?_
              refine wpIn_nrm ?_
              refine T.regionQ (fun w' => Up Z108 w') 16 1 hmx (by kernel_rfl) (by kernel_rfl) ((Up.refl Z108).drew) (fun hCl => ?_)
              refine T.qT 0 (some 77) ?v74 rfl rfl hCl ?hy74 (fun hCl' => ?_)
              case hy74 => (intro w hSw; refine T.qVal ?_ hSw; (try dsimp only [List.getElem_toArray, List.getElem_cons_succ, List.getElem_cons_zero]); go_simp; try with_reducible rfl)
              simp only [Act.put, List.setIfInBounds_toArray, List.set_cons_zero, List.set_cons_succ]; replace hCl := hCl'; clear hCl'
              refine T.qT 2 (some 79) ?v75 rfl rfl hCl ?hy75 (fun hCl' => ?_)
              case hy75 => (intro w hSw; refine T.qVal ?_ hSw; (try dsimp only [List.getElem_toArray, List.getElem_cons_succ, List.getElem_cons_zero]); go_simp; try with_reducible rfl)
              simp only [Act.put, List.setIfInBounds_toArray, List.set_cons_zero, List.set_cons_succ]; replace hCl := hCl'; clear hCl'
              refine T.qT 1 (some 78) ?v76 rfl rfl hCl ?hy76 (fun hCl' => ?_)
              case hy76 => (intro w hSw; refine T.qVal ?_ hSw; (try dsimp only [List.getElem_toArray, List.getElem_cons_succ, List.getElem_cons_zero]); go_simp; try with_reducible rfl)
              simp only [Act.put, List.setIfInBounds_toArray, List.set_cons_zero, List.set_cons_succ]; replace hCl := hCl'; clear hCl'
              refine T.qT 3 (some 80) ?v77 rfl rfl hCl ?hy77 (fun hCl' => ?_)
              case hy77 => (intro w hSw; refine T.qVal ?_ hSw; (try dsimp only [List.getElem_toArray, List.getElem_cons_succ, List.getElem_cons_zero]); go_simp; try with_reducible rfl)
              simp only [Act.put, List.setIfInBounds_toArray, List.set_cons_zero, List.set_cons_succ]; replace hCl := hCl'; clear hCl'
              refine T.qT 4 (some 81) ?v78 rfl rfl hCl ?hy78 (fun hCl' => ?_)
              case hy78 => (intro w hSw; refine T.qVal ?_ hSw; (try dsimp only [List.getElem_toArray, List.getElem_cons_succ, List.getElem_cons_zero]); go_simp; try with_reducible rfl)
              simp only [Act.put, List.setIfInBounds_toArray, List.set_cons_zero, List.set_cons_succ]; replace hCl := hCl'; clear hCl'
              refine T.qT 5 (some 82) ?v79 rfl rfl hCl ?hy79 (fun hCl' => ?_)
              case hy79 => (intro w hSw; refine T.qVal ?_ hSw; (try dsimp only [List.getElem_toArray, List.getElem_cons_succ, List.getElem_cons_zero]); go_simp; try with_reducible rfl)
              simp only [Act.put, List.setIfInBounds_toArray, List.set_cons_zero, List.set_cons_succ]; replace hCl := hCl'; clear hCl'
              refine T.qS 6 (some 83) rfl rfl hCl (fun hCl' => ?_)
              simp only [Act.put, List.setIfInBounds_toArray, List.set_cons_zero, List.set_cons_succ]; replace hCl := hCl'; clear hCl'
              refine T.qS 8 (some 85) rfl rfl hCl (fun hCl' => ?_)
              simp only [Act.put, List.setIfInBounds_toArray, List.set_cons_zero, List.set_cons_succ]; replace hCl := hCl'; clear hCl'
              refine T.qS 11 (some 88) rfl rfl hCl (fun hCl' => ?_)
              simp only [Act.put, List.setIfInBounds_toArray, List.set_cons_zero, List.set_cons_succ]; replace hCl := hCl'; clear hCl'
              refine T.qS 12 (some 89) rfl rfl hCl (fun hCl' => ?_)
              simp only [Act.put, List.setIfInBounds_toArray, List.set_cons_zero, List.set_cons_succ]; replace hCl := hCl'; clear hCl'
              refine T.qS 7 (some 84) rfl rfl hCl (fun hCl' => ?_)
              simp only [Act.put, List.setIfInBounds_toArray, List.set_cons_zero, List.set_cons_succ]; replace hCl := hCl'; clear hCl'
              refine T.qS 13 (some 90) rfl rfl hCl (fun hCl' => ?_)
              simp only [Act.put, List.setIfInBounds_toArray, List.set_cons_zero, List.set_cons_succ]; replace hCl := hCl'; clear hCl'
              refine T.qS 9 (some 86) rfl rfl hCl (fun hCl' => ?_)
              simp only [Act.put, List.setIfInBounds_toArray, List.set_cons_zero, List.set_cons_succ]; replace hCl := hCl'; clear hCl'
              refine T.qS 14 (some 91) rfl rfl hCl (fun hCl' => ?_)
              simp only [Act.put, List.setIfInBounds_toArray, List.set_cons_zero, List.set_cons_succ]; replace hCl := hCl'; clear hCl'
              refine T.qS 10 (some 87) rfl rfl hCl (fun hCl' => ?_)
              simp only [Act.put, List.setIfInBounds_toArray, List.set_cons_zero, List.set_cons_succ]; replace hCl := hCl'; clear hCl'
              refine T.qS 15 (some 92) rfl rfl hCl (fun hCl' => ?_)
              simp only [Act.put, List.setIfInBounds_toArray, List.set_cons_zero, List.set_cons_succ]; replace hCl := hCl'; clear hCl'
              refine T.tail_intro (by kernel_rfl) (fun Y129 hY129 => ?_)
              replace U := U.trans hY129
              replace kB := hY129.blk kB
              replace kN := hY129.blk kN
              replace ksp := hY129.blk ksp
              replace kEp := hY129.blk kEp
              clear F130 F131 F132 F133 hY129
              refine lastG (i := 16) (by kernel_rfl) rfl (by rfl) (by decide) (fun K hK => ?_)
              go_simp
              refine hK.out _ _ ?_
              clear hK K
              refine doneG (by kernel_rfl) ?_ _
              refine S.nrm_intro ?_
              go_wp2_with fail
              go_roundw
              case rel => exact ⟨j + 1, by omega, by go_num, U, kB, kN, ksp, kEp⟩
              case measure => (simp only [intOf]; omega)
          · skip
            obtain rfl : j = 4 := by omega
            have dk : decide (((4 : Nat) : Int) < 4) = false := by decide
            clear hj hlt
            clear ksp kEp
            by_cases hq0 : 0 < qs.length
            · skip
              have dq1 : decide ((qs.length : Int) > 0) = true := decide_eq_true (by omega)
              have iq1 : (0 : Int) < (qs.length : Int) := by omega
              have HRq := Lib.hid (fun w => B_Rest_any n1 (qs.length : Int) w (by omega) (by omega))
              have aq := Int.emod_nonneg n1 (b := (qs.length : Int)) (by omega)
              have bq := Int.emod_lt_of_pos n1 (b := (qs.length : Int)) (by omega)
              generalize n1 % (qs.length : Int) = kq at *
              obtain ⟨kq, rfl⟩ := Int.eq_ofNat_of_zero_le aq
              have hkq : kq < qs.length := by omega
              have ikq : (kq : Int) < (qs.length : Int) := by omega
              obtain ⟨⟨t0, t1⟩, hssq⟩ : ∃ s, qs.getD kq (0, 0) = s := ⟨_, rfl⟩
              obtain ⟨a'', c'', e'', _, _, hm⟩ := (HJ.out w (Up.refl w)).is
              injection e'' with ea eb ec
              clear eb ec
              obtain ⟨gF, oF, ga, glq, hxq⟩ := hm (by omega)
              subst ea ga
              clear hm
              have Hcq := Lib.hid (fun w' (u : Up w w') => And.intro (show w'.cell? ⟨gF, oF + kq * 2, none⟩ = some (.int .i64 t0) by have := hxq kq hkq 0 (by omega); rw [hssq] at this; exact (u.facts.1 gF _ glq).trans this) (show w'.cell? ⟨gF, oF + kq * 2 + 1, none⟩ = some (.int .i64 t1) by have := hxq kq hkq 1 (by omega); rw [hssq] at this; exact (u.facts.1 gF _ glq).trans this))
              clear hxq glq aq bq
              obtain ⟨lq, uq, eq, tq, vq, wq, xq⟩ := T.Tells.ex (o := T.o0) (m := 0) (i := (13 + (kq : Int))) HV.out T.al_0 (T.al_pth (n := (kq : Int)) ⟨by omega, by omega⟩)
              have Cq := Lib.hid (fun w' (u : Up w w') => Path_tells HV.out ⟨by omega, by omega⟩ tq (HI.out _ u) (HJ.out _ u) (HK.out _ u))
              have zq0 : IntKind.i64.wrap (lq - 1) = lq - 1 := IntWalk.i64_in _ (by omega)
              have zq1 : IntKind.i64.wrap (uq + 1) = uq + 1 := IntWalk.i64_in _ (by omega)
              have HSSq := Lib.hid hssq
              clear vq wq xq hssq
              have hee := HTp.out.same tq
              subst hee
              go_wp2_with fail
              refine (HRq.out _).mono ?_
              rintro e x308 ⟨rfl, rfl⟩
              clear HRq
              go_wp2_with fail
              refine (Cq.out _ U).mono ?_
              rintro e x309 ⟨rfl, u310⟩
              replace U := U.trans u310
              replace kB := u310.blk kB
              replace kN := u310.blk kN
              clear u310 
              have dkBksq := blk_lt kB
              have dkNksq := blk_lt kN
              have gksq := U.size
              have ksq := blk_new x309 (.cells #[.int .i64 lq, .int .i64 uq] 23) _ rfl
              replace kB := blk_keep (.cells #[.int .i64 lq, .int .i64 uq] 23) kB
              replace kN := blk_keep (.cells #[.int .i64 lq, .int .i64 uq] 23) kN
              replace U := U.alloc (.cells #[.int .i64 lq, .int .i64 uq] 23)
              obtain ⟨pksq, hpksq⟩ : ∃ z, x309.heap.size = z := ⟨_, rfl⟩
              obtain ⟨W311, hW311⟩ : ∃ z, x309.alloc (.cells #[.int .i64 lq, .int .i64 uq] 23) = z := ⟨_, rfl⟩
              rw [hpksq] at ksq dkBksq dkNksq gksq
              rw [hW311] at ksq U kB kN
              go_upto_region 20 with fail
              clear hpksq hW311
              have i0 := ksq
              have dkBkEq := blk_lt kB
              have dkNkEq := blk_lt kN
              have dksqkEq := blk_lt ksq
              have gkEq := U.size
              have kEq := blk_new W311 (.cells #[.int .i64 lq, .int .i64 uq, .int .i64 (lq - 1), .int .i64 (uq + 1)] 3) _ rfl
              replace kB := blk_keep (.cells #[.int .i64 lq, .int .i64 uq, .int .i64 (lq - 1), .int .i64 (uq + 1)] 3) kB
              replace kN := blk_keep (.cells #[.int .i64 lq, .int .i64 uq, .int .i64 (lq - 1), .int .i64 (uq + 1)] 3) kN
              replace ksq := blk_keep (.cells #[.int .i64 lq, .int .i64 uq, .int .i64 (lq - 1), .int .i64 (uq + 1)] 3) ksq
              replace U := U.alloc (.cells #[.int .i64 lq, .int .i64 uq, .int .i64 (lq - 1), .int .i64 (uq + 1)] 3)
              obtain ⟨pkEq, hpkEq⟩ : ∃ z, W311.heap.size = z := ⟨_, rfl⟩
              obtain ⟨W312, hW312⟩ : ∃ z, W311.alloc (.cells #[.int .i64 lq, .int .i64 uq, .int .i64 (lq - 1), .int .i64 (uq + 1)] 3) = z := ⟨_, rfl⟩
              rw [hpkEq] at kEq dkBkEq dkNkEq dksqkEq gkEq
              rw [hW312] at kEq U kB kN ksq
              go_wp2_with fail
              clear hpkEq hW312
              clear i0
              have HTq := Lib.hid tq
              clear tq zq0 zq1 Cq
              go_loopw [16] (fun m wr => ∃ j : Nat, j ≤ 4 ∧ m = .int .i64 j ∧ Up w wr ∧ mblk wr (q0) = some (.cells (BoC (N : Int) bl bh rl rh (.slice (some ⟨gE, oE, none⟩) ps.length cP) (.slice (some ⟨gF, oF, none⟩) qs.length cQ) (.slice aL ls.length cL)) 27 (0, 0)) ∧ mblk wr (q0 + 1) = some (.cells #[.int .i64 n0, .int .i64 n1] 31 (0, 0)) ∧ mblk wr (pksq) = some (.cells #[.int .i64 lq, .int .i64 uq] 23 (0, 0)) ∧ mblk wr (pkEq) = some (.cells #[.int .i64 lq, .int .i64 uq, .int .i64 (lq - 1), .int .i64 (uq + 1)] 3 (0, 0))) (fun m _ => 4 - (intOf m).toNat)
              case atStart => exact ⟨0, by omega, rfl, U, kB, kN, ksq, kEq⟩
              case round =>
                clear U kB kN ksq kEq
                obtain ⟨j, hj, rfl, U, kB, kN, ksq, kEq⟩ := hrel
                by_cases hlt : j < 4
                · skip
                  have ew : IntKind.i64.wrap ((j : Int) + 1) = (j : Int) + 1 := IntWalk.i64_in _ (by omega)
                  have ilt : (j : Int) < 4 := by omega
                  have dk : decide ((j : Int) < 4) = true := decide_eq_true (by omega)
                  obtain ⟨lx, hx, ex, px, cx⟩ := T.end_pth HV.out hkq HTq.out hlt
                  have HO := Lib.hid cx
                  have HX := Lib.hid px
                  have HNa := Lib.hid (fun w' (u : Up w w') => l_narrowed_q (M := (N : Int)) (bl := bl) (bh := bh) (rl := rl) (rh := rh) (n := T.ends lq uq j) (HI.out _ u) (HJ.out _ u) (HK.out _ u) hkq l4 l5)
                  clear cx px
                  go_wp2_with fail
                  apply T.mergeV1 (fun w' b v1 => Up w w' ∧ mblk w' (q0) = some (.cells (BoC (N : Int) bl bh rl rh (.slice (some ⟨gE, oE, none⟩) ps.length cP) (.slice (some ⟨gF, oF, none⟩) qs.length cQ) (.slice aL ls.length cL)) 27 (0, 0)) ∧ mblk w' (q0 + 1) = some (.cells #[.int .i64 n0, .int .i64 n1] 31 (0, 0)) ∧ mblk w' (pksq) = some (.cells #[.int .i64 lq, .int .i64 uq] 23 (0, 0)) ∧ mblk w' (pkEq) = some (.cells #[.int .i64 lq, .int .i64 uq, .int .i64 (lq - 1), .int .i64 (uq + 1)] 3 (0, 0)) ∧ mblk w' b = some (.cells #[.int .i64 lx, .int .i64 hx] 23 (0, 0)) ∧ True)
                  · intro HKey
                    refine (wpIn_wide (n := 5)).1 ?_
                    refine wpIn_nrm ?_
                    refine regionG (fun w' => Up w w' ∧ mblk w' (q0) = some (.cells (BoC (N : Int) bl bh rl rh (.slice (some ⟨gE, oE, none⟩) ps.length cP) (.slice (some ⟨gF, oF, none⟩) qs.length cQ) (.slice aL ls.length cL)) 27 (0, 0)) ∧ mblk w' (q0 + 1) = some (.cells #[.int .i64 n0, .int .i64 n1] 31 (0, 0)) ∧ mblk w' (pksq) = some (.cells #[.int .i64 lq, .int .i64 uq] 23 (0, 0)) ∧ mblk w' (pkEq) = some (.cells #[.int .i64 lq, .int .i64 uq, .int .i64 (lq - 1), .int .i64 (uq + 1)] 3 (0, 0))) 13 hmx ⟨U.drew, (by rw [blk_drew]; exact kB), (by rw [blk_drew]; exact kN), (by rw [blk_drew]; exact ksq), (by rw [blk_drew]; exact kEq)⟩ (fun hHeld hCl => ?_)
                    refine takeG (i := 0) (d := (some 138)) (v := ?v90) rfl rfl (by kernel_rfl) (by kernel_rfl) (by decide) hCl (by kernel_rfl) (by kernel_rfl) (by kernel_rfl) (fun _ _ _ h => h) (by rfl) ?hy90 (fun _ _ _ => trivial) (by assumption) (fun hCl' => ?_)
                    case hy90 => ((intro w hSw; (try dsimp only at hSw); (try go_split_ands); go_simp); try with_reducible rfl)
                    simp only [Act.put, List.setIfInBounds_toArray, List.set_cons_zero, List.set_cons_succ]
                    replace hCl := hCl'; clear hCl'
                    refine takeG (i := 1) (d := (some 139)) (v := ?v91) rfl rfl (by kernel_rfl) (by kernel_rfl) (by decide) hCl (by kernel_rfl) (by kernel_rfl) (by kernel_rfl) (fun _ _ _ h => h) (by rfl) ?hy91 (fun _ _ _ => trivial) (by assumption) (fun hCl' => ?_)
                    case hy91 => ((intro w hSw; (try dsimp only at hSw); (try go_split_ands); go_simp); try with_reducible rfl)
                    simp only [Act.put, List.setIfInBounds_toArray, List.set_cons_zero, List.set_cons_succ]
                    replace hCl := hCl'; clear hCl'
                    refine takeG (i := 2) (d := (some 140)) (v := ?v92) rfl rfl (by kernel_rfl) (by kernel_rfl) (by decide) hCl (by kernel_rfl) (by kernel_rfl) (by kernel_rfl) (fun _ _ _ h => h) (by rfl) ?hy92 (fun _ _ _ => trivial) (by assumption) (fun hCl' => ?_)
                    case hy92 => ((intro w hSw; (try dsimp only at hSw); (try go_split_ands); go_simp); try with_reducible rfl)
                    simp only [Act.put, List.setIfInBounds_toArray, List.set_cons_zero, List.set_cons_succ]
                    replace hCl := hCl'; clear hCl'
                    refine takeG (i := 3) (d := (some 141)) (v := ?v93) rfl rfl (by kernel_rfl) (by kernel_rfl) (by decide) hCl (by kernel_rfl) (by kernel_rfl) (by kernel_rfl) (fun _ _ _ h => h) (by rfl) ?hy93 (fun _ _ _ => trivial) (by assumption) (fun hCl' => ?_)
                    case hy93 => ((intro w hSw; (try dsimp only at hSw); (try go_split_ands); go_simp); try with_reducible rfl)
                    simp only [Act.put, List.setIfInBounds_toArray, List.set_cons_zero, List.set_cons_succ]
                    replace hCl := hCl'; clear hCl'
                    refine takeG (i := 4) (d := (some 142)) (v := ?v94) rfl rfl (by kernel_rfl) (by kernel_rfl) (by decide) hCl (by kernel_rfl) (by kernel_rfl) (by kernel_rfl) (fun _ _ _ h => h) (by rfl) ?hy94 (fun _ _ _ => trivial) (by assumption) (fun hCl' => ?_)
                    case hy94 => ((intro w hSw; (try dsimp only at hSw); (try go_split_ands); go_simp); try with_reducible rfl)
                    simp only [Act.put, List.setIfInBounds_toArray, List.set_cons_zero, List.set_cons_succ]
                    replace hCl := hCl'; clear hCl'
                    refine takeG (i := 5) (d := (some 143)) (v := ?v95) rfl rfl (by kernel_rfl) (by kernel_rfl) (by decide) hCl (by kernel_rfl) (by kernel_rfl) (by kernel_rfl) (fun _ _ _ h => h) (by rfl) ?hy95 (fun _ _ _ => trivial) (by assumption) (fun hCl' => ?_)
                    case hy95 => ((intro w hSw; (try dsimp only at hSw); (try go_split_ands); go_simp); try with_reducible rfl)
                    simp only [Act.put, List.setIfInBounds_toArray, List.set_cons_zero, List.set_cons_succ]
                    replace hCl := hCl'; clear hCl'
                    obtain ⟨X0, hX0⟩ : ∃ z, wr.drew = z := ⟨_, rfl⟩
                    rw [hX0] at hHeld ⊢
                    clear hX0
                    refine nextG2 (i := 6) (j := 11) (by kernel_rfl) rfl rfl (by rfl) (by rfl) hCl ?_ ?_
                    · skip
                      refine (fun K hK => ?_)
                      go_simp
                      refine ⟨trivial, (callsIn_wide.2 (HNa.out _ hHeld.1)).mono ?_⟩
                      rintro e X1 ⟨⟨a6, c6, a7, c7, rfl, I6, J6⟩, u⟩
                      refine hK.out _ _ ⟨hHeld.1.trans u, u.blk hHeld.2.1, u.blk hHeld.2.2.1, u.blk hHeld.2.2.2.1, u.blk hHeld.2.2.2.2⟩ (fun hHeld hCl => ?_)
                      clear hK K u
                      try (dsimp only [List.getElem_toArray, List.getElem_cons_succ, List.getElem_cons_zero]
                           simp only [Act.put, List.setIfInBounds_toArray, List.set_cons_zero, List.set_cons_succ])
                      refine nextG2 (i := 7) (j := 11) (by kernel_rfl) rfl rfl (by rfl) (by rfl) hCl ?_ ?_
                      · skip
                        refine (fun K hK => ?_)
                        go_simp
                        refine ⟨trivial, (callsIn_wide.2 (HO.out _ _ _ _ _ _ _ _ _ _ I6 J6 (HK.out _ hHeld.1))).mono ?_⟩
                        rintro e X2 ⟨rfl, u⟩
                        replace I6 := I6.up u
                        replace J6 := J6.up u
                        refine hK.out _ _ ⟨hHeld.1.trans u, u.blk hHeld.2.1, u.blk hHeld.2.2.1, u.blk hHeld.2.2.2.1, u.blk hHeld.2.2.2.2⟩ (fun hHeld hCl => ?_)
                        clear hK K u
                        try (dsimp only [List.getElem_toArray, List.getElem_cons_succ, List.getElem_cons_zero]
                             simp only [Act.put, List.setIfInBounds_toArray, List.set_cons_zero, List.set_cons_succ])
                        refine takeG (i := 8) (d := (some 137)) (v := ?v96) rfl rfl (by kernel_rfl) (by kernel_rfl) (by decide) hCl (by kernel_rfl) (by kernel_rfl) (by kernel_rfl) (fun _ _ _ h => h) (by rfl) ?hy96 (fun _ _ _ => trivial) (by assumption) (fun hCl' => ?_)
                        case hy96 => ((intro w hSw; (try dsimp only at hSw); (try go_split_ands); go_simp); try with_reducible rfl)
                        simp only [Act.put, List.setIfInBounds_toArray, List.set_cons_zero, List.set_cons_succ]
                        replace hCl := hCl'; clear hCl'
                        refine takeG (i := 9) (d := (some 146)) (v := ?v97) rfl rfl (by kernel_rfl) (by kernel_rfl) (by decide) hCl (by kernel_rfl) (by kernel_rfl) (by kernel_rfl) (fun _ _ _ h => h) (by rfl) ?hy97 (fun _ _ _ => trivial) (by assumption) (fun hCl' => ?_)
                        case hy97 => ((intro w hSw; (try dsimp only at hSw); (try go_split_ands); go_simp); try with_reducible rfl)
                        simp only [Act.put, List.setIfInBounds_toArray, List.set_cons_zero, List.set_cons_succ]
                        replace hCl := hCl'; clear hCl'
                        refine takeG (i := 10) (d := (some 147)) (v := ?v98) rfl rfl (by kernel_rfl) (by kernel_rfl) (by decide) hCl (by kernel_rfl) (by kernel_rfl) (by kernel_rfl) (fun _ _ _ h => h) (by rfl) ?hy98 (fun _ _ _ => trivial) (by assumption) (fun hCl' => ?_)
                        case hy98 => ((intro w hSw; (try dsimp only at hSw); (try go_split_ands); go_simp); try with_reducible rfl)
                        simp only [Act.put, List.setIfInBounds_toArray, List.set_cons_zero, List.set_cons_succ]
                        replace hCl := hCl'; clear hCl'
                        refine nextG (i := 11) (by kernel_rfl) rfl (by rfl) hCl (fun K hK => ?_)
                        go_simp
                        have u : Up X2 (X2.alloc (.cells #[.int .i64 0, .int .i64 0] 23)) := (Up.refl X2).alloc _
                        have kN := blk_new X2 (.cells #[.int .i64 0, .int .i64 0] 23) _ rfl
                        have gN : w.heap.size ≤ X2.heap.size := hHeld.1.size
                        have dN0 := blk_lt hHeld.2.1
                        have dN1 := blk_lt hHeld.2.2.1
                        have dN2 := blk_lt hHeld.2.2.2.1
                        have dN3 := blk_lt hHeld.2.2.2.2
                        obtain ⟨pN, hpN⟩ : ∃ q, X2.heap.size = q := ⟨_, rfl⟩
                        obtain ⟨X3, hX⟩ : ∃ z, X2.alloc (.cells #[.int .i64 0, .int .i64 0] 23) = z := ⟨_, rfl⟩
                        rw [hX] at u kN
                        rw [hpN] at kN gN dN0 dN1 dN2 dN3
                        replace I6 := I6.up u
                        replace J6 := J6.up u
                        try rw [hX]
                        try rw [hpN]
                        refine hK.out _ _ ⟨hHeld.1.trans u, u.blk hHeld.2.1, u.blk hHeld.2.2.1, u.blk hHeld.2.2.2.1, u.blk hHeld.2.2.2.2⟩ (fun hHeld hCl => ?_)
                        clear hK K u hX hpN
                        try (dsimp only [List.getElem_toArray, List.getElem_cons_succ, List.getElem_cons_zero]
                             simp only [Act.put, List.setIfInBounds_toArray, List.set_cons_zero, List.set_cons_succ])
                        have zf := frozB kN
                        have hH := hHeld
                        clear hHeld
                        refine nextG (i := 12) (by kernel_rfl) rfl (by rfl) hCl (fun K hK => ?_)
                        go_simp
                        have UZ := ((hH.1.set (p := ⟨pN, 0, none⟩) (show w.heap.size ≤ pN by omega) (.int .i64 lx)).set (p := ⟨pN, 1, none⟩) (show w.heap.size ≤ pN by omega) (.int .i64 hx))
                        have kZ : mblk ((X3.setCell ⟨pN, 0, none⟩ (.int .i64 lx)).setCell ⟨pN, 1, none⟩ (.int .i64 hx)) pN = some (.cells #[.int .i64 lx, .int .i64 hx] 23 (0, 0)) := (blk_put (blk_put kN 0 (.int .i64 lx)) 1 (.int .i64 hx))
                        have zkB := hH.2.1
                        rw [← blk_set (X3) ⟨pN, 0, none⟩ (.int .i64 lx) (q0) (by show q0 ≠ pN; omega), ← blk_set ((X3).setCell ⟨pN, 0, none⟩ (.int .i64 lx)) ⟨pN, 1, none⟩ (.int .i64 hx) (q0) (by show q0 ≠ pN; omega)] at zkB
                        have zkN := hH.2.2.1
                        rw [← blk_set (X3) ⟨pN, 0, none⟩ (.int .i64 lx) (q0 + 1) (by show q0 + 1 ≠ pN; omega), ← blk_set ((X3).setCell ⟨pN, 0, none⟩ (.int .i64 lx)) ⟨pN, 1, none⟩ (.int .i64 hx) (q0 + 1) (by show q0 + 1 ≠ pN; omega)] at zkN
                        have zksq := hH.2.2.2.1
                        rw [← blk_set (X3) ⟨pN, 0, none⟩ (.int .i64 lx) (pksq) (by show pksq ≠ pN; omega), ← blk_set ((X3).setCell ⟨pN, 0, none⟩ (.int .i64 lx)) ⟨pN, 1, none⟩ (.int .i64 hx) (pksq) (by show pksq ≠ pN; omega)] at zksq
                        have zkEq := hH.2.2.2.2
                        rw [← blk_set (X3) ⟨pN, 0, none⟩ (.int .i64 lx) (pkEq) (by show pkEq ≠ pN; omega), ← blk_set ((X3).setCell ⟨pN, 0, none⟩ (.int .i64 lx)) ⟨pN, 1, none⟩ (.int .i64 hx) (pkEq) (by show pkEq ≠ pN; omega)] at zkEq
                        obtain ⟨Z, hZ⟩ : ∃ z, ((X3.setCell ⟨pN, 0, none⟩ (.int .i64 lx)).setCell ⟨pN, 1, none⟩ (.int .i64 hx)) = z := ⟨_, rfl⟩
                        rw [hZ] at UZ kZ zkB zkN zksq zkEq 
                        try rw [hZ]
                        refine hK.out _ _ ⟨UZ, zkB, zkN, zksq, zkEq⟩ (fun _ hCl => ?_)
                        clear hK K hZ zf
                        try (dsimp only [List.getElem_toArray, List.getElem_cons_succ, List.getElem_cons_zero]
                             simp only [Act.put, List.setIfInBounds_toArray, List.set_cons_zero, List.set_cons_succ])
                        clear hCl
                        refine lastG (i := 13) (by kernel_rfl) rfl (by rfl) (by decide) (fun K hK => ?_)
                        go_simp
                        refine hK.out _ _ ?_
                        clear hK K
                        refine doneG (by kernel_rfl) ?_ _
                        refine S.nrm_intro ?_
                        obtain ⟨vb, hvb⟩ : ∃ v, BoV (N : Int) bl bh rl rh (.slice a6 ps.length c6) (.slice a7 qs.length c7) (.slice aL ls.length cL) = v := ⟨_, rfl⟩
                        rw [hvb]
                        exact HKey.out _ pN vb ⟨UZ, zkB, zkN, zksq, zkEq, kZ, trivial⟩
                      · skip
                        refine (fun K hK => ?_)
                        go_simp
                        have u : Up X1 (X1.alloc (.cells #[.int .i64 0, .int .i64 0] 23)) := (Up.refl X1).alloc _
                        have kN := blk_new X1 (.cells #[.int .i64 0, .int .i64 0] 23) _ rfl
                        have gN : w.heap.size ≤ X1.heap.size := hHeld.1.size
                        have dN0 := blk_lt hHeld.2.1
                        have dN1 := blk_lt hHeld.2.2.1
                        have dN2 := blk_lt hHeld.2.2.2.1
                        have dN3 := blk_lt hHeld.2.2.2.2
                        obtain ⟨pN, hpN⟩ : ∃ q, X1.heap.size = q := ⟨_, rfl⟩
                        obtain ⟨X4, hX⟩ : ∃ z, X1.alloc (.cells #[.int .i64 0, .int .i64 0] 23) = z := ⟨_, rfl⟩
                        rw [hX] at u kN
                        rw [hpN] at kN gN dN0 dN1 dN2 dN3
                        replace I6 := I6.up u
                        replace J6 := J6.up u
                        try rw [hX]
                        try rw [hpN]
                        refine hK.out _ _ ⟨hHeld.1.trans u, u.blk hHeld.2.1, u.blk hHeld.2.2.1, u.blk hHeld.2.2.2.1, u.blk hHeld.2.2.2.2⟩ (fun hHeld hCl => ?_)
                        clear hK K u hX hpN
                        try (dsimp only [List.getElem_toArray, List.getElem_cons_succ, List.getElem_cons_zero]
                             simp only [Act.put, List.setIfInBounds_toArray, List.set_cons_zero, List.set_cons_succ])
                        refine nextG (i := 7) (by kernel_rfl) rfl (by rfl) hCl (fun K hK => ?_)
                        go_simp
                        refine ⟨trivial, (callsIn_wide.2 (HO.out _ _ _ _ _ _ _ _ _ _ I6 J6 (HK.out _ hHeld.1))).mono ?_⟩
                        rintro e X5 ⟨rfl, u⟩
                        replace I6 := I6.up u
                        replace J6 := J6.up u
                        replace kN := u.blk kN
                        refine hK.out _ _ ⟨hHeld.1.trans u, u.blk hHeld.2.1, u.blk hHeld.2.2.1, u.blk hHeld.2.2.2.1, u.blk hHeld.2.2.2.2⟩ (fun hHeld hCl => ?_)
                        clear hK K u
                        try (dsimp only [List.getElem_toArray, List.getElem_cons_succ, List.getElem_cons_zero]
                             simp only [Act.put, List.setIfInBounds_toArray, List.set_cons_zero, List.set_cons_succ])
                        refine takeG (i := 8) (d := (some 137)) (v := ?v103) rfl rfl (by kernel_rfl) (by kernel_rfl) (by decide) hCl (by kernel_rfl) (by kernel_rfl) (by kernel_rfl) (fun _ _ _ h => h) (by rfl) ?hy103 (fun _ _ _ => trivial) (by assumption) (fun hCl' => ?_)
                        case hy103 => ((intro w hSw; (try dsimp only at hSw); (try go_split_ands); go_simp); try with_reducible rfl)
                        simp only [Act.put, List.setIfInBounds_toArray, List.set_cons_zero, List.set_cons_succ]
                        replace hCl := hCl'; clear hCl'
                        refine takeG (i := 9) (d := (some 146)) (v := ?v104) rfl rfl (by kernel_rfl) (by kernel_rfl) (by decide) hCl (by kernel_rfl) (by kernel_rfl) (by kernel_rfl) (fun _ _ _ h => h) (by rfl) ?hy104 (fun _ _ _ => trivial) (by assumption) (fun hCl' => ?_)
                        case hy104 => ((intro w hSw; (try dsimp only at hSw); (try go_split_ands); go_simp); try with_reducible rfl)
                        simp only [Act.put, List.setIfInBounds_toArray, List.set_cons_zero, List.set_cons_succ]
                        replace hCl := hCl'; clear hCl'
                        refine takeG (i := 10) (d := (some 147)) (v := ?v105) rfl rfl (by kernel_rfl) (by kernel_rfl) (by decide) hCl (by kernel_rfl) (by kernel_rfl) (by kernel_rfl) (fun _ _ _ h => h) (by rfl) ?hy105 (fun _ _ _ => trivial) (by assumption) (fun hCl' => ?_)
                        case hy105 => ((intro w hSw; (try dsimp only at hSw); (try go_split_ands); go_simp); try with_reducible rfl)
                        simp only [Act.put, List.setIfInBounds_toArray, List.set_cons_zero, List.set_cons_succ]
                        replace hCl := hCl'; clear hCl'
                        have zf := frozB kN
                        have hH := hHeld
                        clear hHeld
                        refine nextG (i := 12) (by kernel_rfl) rfl (by rfl) hCl (fun K hK => ?_)
                        go_simp
                        have UZ := ((hH.1.set (p := ⟨pN, 0, none⟩) (show w.heap.size ≤ pN by omega) (.int .i64 lx)).set (p := ⟨pN, 1, none⟩) (show w.heap.size ≤ pN by omega) (.int .i64 hx))
                        have kZ : mblk ((X5.setCell ⟨pN, 0, none⟩ (.int .i64 lx)).setCell ⟨pN, 1, none⟩ (.int .i64 hx)) pN = some (.cells #[.int .i64 lx, .int .i64 hx] 23 (0, 0)) := (blk_put (blk_put kN 0 (.int .i64 lx)) 1 (.int .i64 hx))
                        have zkB := hH.2.1
                        rw [← blk_set (X5) ⟨pN, 0, none⟩ (.int .i64 lx) (q0) (by show q0 ≠ pN; omega), ← blk_set ((X5).setCell ⟨pN, 0, none⟩ (.int .i64 lx)) ⟨pN, 1, none⟩ (.int .i64 hx) (q0) (by show q0 ≠ pN; omega)] at zkB
                        have zkN := hH.2.2.1
                        rw [← blk_set (X5) ⟨pN, 0, none⟩ (.int .i64 lx) (q0 + 1) (by show q0 + 1 ≠ pN; omega), ← blk_set ((X5).setCell ⟨pN, 0, none⟩ (.int .i64 lx)) ⟨pN, 1, none⟩ (.int .i64 hx) (q0 + 1) (by show q0 + 1 ≠ pN; omega)] at zkN
                        have zksq := hH.2.2.2.1
                        rw [← blk_set (X5) ⟨pN, 0, none⟩ (.int .i64 lx) (pksq) (by show pksq ≠ pN; omega), ← blk_set ((X5).setCell ⟨pN, 0, none⟩ (.int .i64 lx)) ⟨pN, 1, none⟩ (.int .i64 hx) (pksq) (by show pksq ≠ pN; omega)] at zksq
                        have zkEq := hH.2.2.2.2
                        rw [← blk_set (X5) ⟨pN, 0, none⟩ (.int .i64 lx) (pkEq) (by show pkEq ≠ pN; omega), ← blk_set ((X5).setCell ⟨pN, 0, none⟩ (.int .i64 lx)) ⟨pN, 1, none⟩ (.int .i64 hx) (pkEq) (by show pkEq ≠ pN; omega)] at zkEq
                        obtain ⟨Z, hZ⟩ : ∃ z, ((X5.setCell ⟨pN, 0, none⟩ (.int .i64 lx)).setCell ⟨pN, 1, none⟩ (.int .i64 hx)) = z := ⟨_, rfl⟩
                        rw [hZ] at UZ kZ zkB zkN zksq zkEq 
                        try rw [hZ]
                        refine hK.out _ _ ⟨UZ, zkB, zkN, zksq, zkEq⟩ (fun _ hCl => ?_)
                        clear hK K hZ zf
                        try (dsimp only [List.getElem_toArray, List.getElem_cons_succ, List.getElem_cons_zero]
                             simp only [Act.put, List.setIfInBounds_toArray, List.set_cons_zero, List.set_cons_succ])
                        clear hCl
                        refine lastG (i := 13) (by kernel_rfl) rfl (by rfl) (by decide) (fun K hK => ?_)
                        go_simp
                        refine hK.out _ _ ?_
                        clear hK K
                        refine doneG (by kernel_rfl) ?_ _
                        refine S.nrm_intro ?_
                        obtain ⟨vb, hvb⟩ : ∃ v, BoV (N : Int) bl bh rl rh (.slice a6 ps.length c6) (.slice a7 qs.length c7) (.slice aL ls.length cL) = v := ⟨_, rfl⟩
                        rw [hvb]
                        exact HKey.out _ pN vb ⟨UZ, zkB, zkN, zksq, zkEq, kZ, trivial⟩
                    · skip
                      refine (fun K hK => ?_)
                      go_simp
                      have u : Up X0 (X0.alloc (.cells #[.int .i64 0, .int .i64 0] 23)) := (Up.refl X0).alloc _
                      have kN := blk_new X0 (.cells #[.int .i64 0, .int .i64 0] 23) _ rfl
                      have gN : w.heap.size ≤ X0.heap.size := hHeld.1.size
                      have dN0 := blk_lt hHeld.2.1
                      have dN1 := blk_lt hHeld.2.2.1
                      have dN2 := blk_lt hHeld.2.2.2.1
                      have dN3 := blk_lt hHeld.2.2.2.2
                      obtain ⟨pN, hpN⟩ : ∃ q, X0.heap.size = q := ⟨_, rfl⟩
                      obtain ⟨X6, hX⟩ : ∃ z, X0.alloc (.cells #[.int .i64 0, .int .i64 0] 23) = z := ⟨_, rfl⟩
                      rw [hX] at u kN
                      rw [hpN] at kN gN dN0 dN1 dN2 dN3
                      try rw [hX]
                      try rw [hpN]
                      refine hK.out _ _ ⟨hHeld.1.trans u, u.blk hHeld.2.1, u.blk hHeld.2.2.1, u.blk hHeld.2.2.2.1, u.blk hHeld.2.2.2.2⟩ (fun hHeld hCl => ?_)
                      clear hK K u hX hpN
                      try (dsimp only [List.getElem_toArray, List.getElem_cons_succ, List.getElem_cons_zero]
                           simp only [Act.put, List.setIfInBounds_toArray, List.set_cons_zero, List.set_cons_succ])
                      refine nextG (i := 6) (by kernel_rfl) rfl (by rfl) hCl (fun K hK => ?_)
                      go_simp
                      refine ⟨trivial, (callsIn_wide.2 (HNa.out _ hHeld.1)).mono ?_⟩
                      rintro e X7 ⟨⟨a6, c6, a7, c7, rfl, I6, J6⟩, u⟩
                      replace kN := u.blk kN
                      refine hK.out _ _ ⟨hHeld.1.trans u, u.blk hHeld.2.1, u.blk hHeld.2.2.1, u.blk hHeld.2.2.2.1, u.blk hHeld.2.2.2.2⟩ (fun hHeld hCl => ?_)
                      clear hK K u
                      try (dsimp only [List.getElem_toArray, List.getElem_cons_succ, List.getElem_cons_zero]
                           simp only [Act.put, List.setIfInBounds_toArray, List.set_cons_zero, List.set_cons_succ])
                      refine nextG (i := 7) (by kernel_rfl) rfl (by rfl) hCl (fun K hK => ?_)
                      go_simp
                      refine ⟨trivial, (callsIn_wide.2 (HO.out _ _ _ _ _ _ _ _ _ _ I6 J6 (HK.out _ hHeld.1))).mono ?_⟩
                      rintro e X8 ⟨rfl, u⟩
                      replace kN := u.blk kN
                      replace I6 := I6.up u
                      replace J6 := J6.up u
                      refine hK.out _ _ ⟨hHeld.1.trans u, u.blk hHeld.2.1, u.blk hHeld.2.2.1, u.blk hHeld.2.2.2.1, u.blk hHeld.2.2.2.2⟩ (fun hHeld hCl => ?_)
                      clear hK K u
                      try (dsimp only [List.getElem_toArray, List.getElem_cons_succ, List.getElem_cons_zero]
                           simp only [Act.put, List.setIfInBounds_toArray, List.set_cons_zero, List.set_cons_succ])
                      refine takeG (i := 8) (d := (some 137)) (v := ?v110) rfl rfl (by kernel_rfl) (by kernel_rfl) (by decide) hCl (by kernel_rfl) (by kernel_rfl) (by kernel_rfl) (fun _ _ _ h => h) (by rfl) ?hy110 (fun _ _ _ => trivial) (by assumption) (fun hCl' => ?_)
                      case hy110 => ((intro w hSw; (try dsimp only at hSw); (try go_split_ands); go_simp); try with_reducible rfl)
                      simp only [Act.put, List.setIfInBounds_toArray, List.set_cons_zero, List.set_cons_succ]
                      replace hCl := hCl'; clear hCl'
                      refine takeG (i := 9) (d := (some 146)) (v := ?v111) rfl rfl (by kernel_rfl) (by kernel_rfl) (by decide) hCl (by kernel_rfl) (by kernel_rfl) (by kernel_rfl) (fun _ _ _ h => h) (by rfl) ?hy111 (fun _ _ _ => trivial) (by assumption) (fun hCl' => ?_)
                      case hy111 => ((intro w hSw; (try dsimp only at hSw); (try go_split_ands); go_simp); try with_reducible rfl)
                      simp only [Act.put, List.setIfInBounds_toArray, List.set_cons_zero, List.set_cons_succ]
                      replace hCl := hCl'; clear hCl'
                      refine takeG (i := 10) (d := (some 147)) (v := ?v112) rfl rfl (by kernel_rfl) (by kernel_rfl) (by decide) hCl (by kernel_rfl) (by kernel_rfl) (by kernel_rfl) (fun _ _ _ h => h) (by rfl) ?hy112 (fun _ _ _ => trivial) (by assumption) (fun hCl' => ?_)
                      case hy112 => ((intro w hSw; (try dsimp only at hSw); (try go_split_ands); go_simp); try with_reducible rfl)
                      simp only [Act.put, List.setIfInBounds_toArray, List.set_cons_zero, List.set_cons_succ]
                      replace hCl := hCl'; clear hCl'
                      have zf := frozB kN
                      have hH := hHeld
                      clear hHeld
                      refine nextG (i := 12) (by kernel_rfl) rfl (by rfl) hCl (fun K hK => ?_)
                      go_simp
                      have UZ := ((hH.1.set (p := ⟨pN, 0, none⟩) (show w.heap.size ≤ pN by omega) (.int .i64 lx)).set (p := ⟨pN, 1, none⟩) (show w.heap.size ≤ pN by omega) (.int .i64 hx))
                      have kZ : mblk ((X8.setCell ⟨pN, 0, none⟩ (.int .i64 lx)).setCell ⟨pN, 1, none⟩ (.int .i64 hx)) pN = some (.cells #[.int .i64 lx, .int .i64 hx] 23 (0, 0)) := (blk_put (blk_put kN 0 (.int .i64 lx)) 1 (.int .i64 hx))
                      have zkB := hH.2.1
                      rw [← blk_set (X8) ⟨pN, 0, none⟩ (.int .i64 lx) (q0) (by show q0 ≠ pN; omega), ← blk_set ((X8).setCell ⟨pN, 0, none⟩ (.int .i64 lx)) ⟨pN, 1, none⟩ (.int .i64 hx) (q0) (by show q0 ≠ pN; omega)] at zkB
                      have zkN := hH.2.2.1
                      rw [← blk_set (X8) ⟨pN, 0, none⟩ (.int .i64 lx) (q0 + 1) (by show q0 + 1 ≠ pN; omega), ← blk_set ((X8).setCell ⟨pN, 0, none⟩ (.int .i64 lx)) ⟨pN, 1, none⟩ (.int .i64 hx) (q0 + 1) (by show q0 + 1 ≠ pN; omega)] at zkN
                      have zksq := hH.2.2.2.1
                      rw [← blk_set (X8) ⟨pN, 0, none⟩ (.int .i64 lx) (pksq) (by show pksq ≠ pN; omega), ← blk_set ((X8).setCell ⟨pN, 0, none⟩ (.int .i64 lx)) ⟨pN, 1, none⟩ (.int .i64 hx) (pksq) (by show pksq ≠ pN; omega)] at zksq
                      have zkEq := hH.2.2.2.2
                      rw [← blk_set (X8) ⟨pN, 0, none⟩ (.int .i64 lx) (pkEq) (by show pkEq ≠ pN; omega), ← blk_set ((X8).setCell ⟨pN, 0, none⟩ (.int .i64 lx)) ⟨pN, 1, none⟩ (.int .i64 hx) (pkEq) (by show pkEq ≠ pN; omega)] at zkEq
                      obtain ⟨Z, hZ⟩ : ∃ z, ((X8.setCell ⟨pN, 0, none⟩ (.int .i64 lx)).setCell ⟨pN, 1, none⟩ (.int .i64 hx)) = z := ⟨_, rfl⟩
                      rw [hZ] at UZ kZ zkB zkN zksq zkEq 
                      try rw [hZ]
                      refine hK.out _ _ ⟨UZ, zkB, zkN, zksq, zkEq⟩ (fun _ hCl => ?_)
                      clear hK K hZ zf
                      try (dsimp only [List.getElem_toArray, List.getElem_cons_succ, List.getElem_cons_zero]
                           simp only [Act.put, List.setIfInBounds_toArray, List.set_cons_zero, List.set_cons_succ])
                      clear hCl
                      refine lastG (i := 13) (by kernel_rfl) rfl (by rfl) (by decide) (fun K hK => ?_)
                      go_simp
                      refine hK.out _ _ ?_
                      clear hK K
                      refine doneG (by kernel_rfl) ?_ _
                      refine S.nrm_intro ?_
                      obtain ⟨vb, hvb⟩ : ∃ v, BoV (N : Int) bl bh rl rh (.slice a6 ps.length c6) (.slice a7 qs.length c7) (.slice aL ls.length cL) = v := ⟨_, rfl⟩
                      rw [hvb]
                      exact HKey.out _ pN vb ⟨UZ, zkB, zkN, zksq, zkEq, kZ, trivial⟩
                  clear U kB kN ksq kEq
                  rintro Z413 pkxq v1 ⟨U, kB, kN, ksq, kEq, kxq, _⟩
                  clear kxq
                  clear HO HNa
                  go_wp2_with fail
                  by_cases he : ex = 0 <;> by_cases hj2 : j < 2
                  · skip
                    subst he
                    have dj : decide ((j : Int) < 2) = true := decide_eq_true (by omega)
                    have ij : (j : Int) < 2 := by omega
                    clear HX hj2
                    have F435 := Lib.hid (fun w (u : Up Z413 w) => u.blk kB)
                    have F436 := Lib.hid (fun w (u : Up Z413 w) => u.blk kN)
                    have F437 := Lib.hid (fun w (u : Up Z413 w) => u.blk ksq)
                    have F438 := Lib.hid (fun w (u : Up Z413 w) => u.blk kEq)
                    refine (wpIn_wide (n := 5)).1 ?_
                    refine wpIn_nrm ?_
                    refine T.regionQ (fun w' => Up Z413 w') 16 1 hmx (by kernel_rfl) (by kernel_rfl) ((Up.refl Z413).drew) (fun hCl => ?_)
                    refine T.qT 0 (some 148) ?v115 rfl rfl hCl ?hy115 (fun hCl' => ?_)
                    case hy115 => (intro w hSw; refine T.qVal ?_ hSw; (try dsimp only [List.getElem_toArray, List.getElem_cons_succ, List.getElem_cons_zero]); go_simp; try with_reducible rfl)
                    simp only [Act.put, List.setIfInBounds_toArray, List.set_cons_zero, List.set_cons_succ]; replace hCl := hCl'; clear hCl'
                    refine T.qT 2 (some 150) ?v116 rfl rfl hCl ?hy116 (fun hCl' => ?_)
                    case hy116 => (intro w hSw; refine T.qVal ?_ hSw; (try dsimp only [List.getElem_toArray, List.getElem_cons_succ, List.getElem_cons_zero]); go_simp; try with_reducible rfl)
                    simp only [Act.put, List.setIfInBounds_toArray, List.set_cons_zero, List.set_cons_succ]; replace hCl := hCl'; clear hCl'
                    refine T.qT 1 (some 149) ?v117 rfl rfl hCl ?hy117 (fun hCl' => ?_)
                    case hy117 => (intro w hSw; refine T.qVal ?_ hSw; (try dsimp only [List.getElem_toArray, List.getElem_cons_succ, List.getElem_cons_zero]); go_simp; try with_reducible rfl)
                    simp only [Act.put, List.setIfInBounds_toArray, List.set_cons_zero, List.set_cons_succ]; replace hCl := hCl'; clear hCl'
                    refine T.qT 3 (some 151) ?v118 rfl rfl hCl ?hy118 (fun hCl' => ?_)
                    case hy118 => (intro w hSw; refine T.qVal ?_ hSw; (try dsimp only [List.getElem_toArray, List.getElem_cons_succ, List.getElem_cons_zero]); go_simp; try with_reducible rfl)
                    simp only [Act.put, List.setIfInBounds_toArray, List.set_cons_zero, List.set_cons_succ]; replace hCl := hCl'; clear hCl'
                    refine T.qT 4 (some 152) ?v119 rfl rfl hCl ?hy119 (fun hCl' => ?_)
                    case hy119 => (intro w hSw; refine T.qVal ?_ hSw; (try dsimp only [List.getElem_toArray, List.getElem_cons_succ, List.getElem_cons_zero]); go_simp; try with_reducible rfl)
                    simp only [Act.put, List.setIfInBounds_toArray, List.set_cons_zero, List.set_cons_succ]; replace hCl := hCl'; clear hCl'
                    refine T.qT 5 (some 153) ?v120 rfl rfl hCl ?hy120 (fun hCl' => ?_)
                    case hy120 => (intro w hSw; refine T.qVal ?_ hSw; (try dsimp only [List.getElem_toArray, List.getElem_cons_succ, List.getElem_cons_zero]); go_simp; try with_reducible rfl)
                    simp only [Act.put, List.setIfInBounds_toArray, List.set_cons_zero, List.set_cons_succ]; replace hCl := hCl'; clear hCl'
                    refine T.qS 6 (some 154) rfl rfl hCl (fun hCl' => ?_)
                    simp only [Act.put, List.setIfInBounds_toArray, List.set_cons_zero, List.set_cons_succ]; replace hCl := hCl'; clear hCl'
                    refine T.qS 8 (some 156) rfl rfl hCl (fun hCl' => ?_)
                    simp only [Act.put, List.setIfInBounds_toArray, List.set_cons_zero, List.set_cons_succ]; replace hCl := hCl'; clear hCl'
                    refine T.qS 11 (some 159) rfl rfl hCl (fun hCl' => ?_)
                    simp only [Act.put, List.setIfInBounds_toArray, List.set_cons_zero, List.set_cons_succ]; replace hCl := hCl'; clear hCl'
                    refine T.qS 12 (some 160) rfl rfl hCl (fun hCl' => ?_)
                    simp only [Act.put, List.setIfInBounds_toArray, List.set_cons_zero, List.set_cons_succ]; replace hCl := hCl'; clear hCl'
                    refine T.qS 7 (some 155) rfl rfl hCl (fun hCl' => ?_)
                    simp only [Act.put, List.setIfInBounds_toArray, List.set_cons_zero, List.set_cons_succ]; replace hCl := hCl'; clear hCl'
                    refine T.qS 13 (some 161) rfl rfl hCl (fun hCl' => ?_)
                    simp only [Act.put, List.setIfInBounds_toArray, List.set_cons_zero, List.set_cons_succ]; replace hCl := hCl'; clear hCl'
                    refine T.qS 9 (some 157) rfl rfl hCl (fun hCl' => ?_)
                    simp only [Act.put, List.setIfInBounds_toArray, List.set_cons_zero, List.set_cons_succ]; replace hCl := hCl'; clear hCl'
                    refine T.qS 14 (some 162) rfl rfl hCl (fun hCl' => ?_)
                    simp only [Act.put, List.setIfInBounds_toArray, List.set_cons_zero, List.set_cons_succ]; replace hCl := hCl'; clear hCl'
                    refine T.qS 10 (some 158) rfl rfl hCl (fun hCl' => ?_)
                    simp only [Act.put, List.setIfInBounds_toArray, List.set_cons_zero, List.set_cons_succ]; replace hCl := hCl'; clear hCl'
                    refine T.qS 15 (some 163) rfl rfl hCl (fun hCl' => ?_)
                    simp only [Act.put, List.setIfInBounds_toArray, List.set_cons_zero, List.set_cons_succ]; replace hCl := hCl'; clear hCl'
                    refine T.tail_intro (by kernel_rfl) (fun Y434 hY434 => ?_)
                    replace U := U.trans hY434
                    replace kB := hY434.blk kB
                    replace kN := hY434.blk kN
                    replace ksq := hY434.blk ksq
                    replace kEq := hY434.blk kEq
                    clear F435 F436 F437 F438 hY434
                    refine lastG (i := 16) (by kernel_rfl) rfl (by rfl) (by decide) (fun K hK => ?_)
                    go_simp
                    refine hK.out _ _ ?_
                    clear hK K
                    refine doneG (by kernel_rfl) ?_ _
                    refine S.nrm_intro ?_
                    go_wp2_with fail
                    go_roundw
                    case rel => exact ⟨j + 1, by omega, by go_num, U, kB, kN, ksq, kEq⟩
                    case measure => (simp only [intOf]; omega)
                  · skip
                    subst he
                    have dj : decide ((j : Int) < 2) = false := decide_eq_false (by omega)
                    have ij : ¬ (j : Int) < 2 := by omega
                    have hin : inB (T.ends lq uq j) t0 t1 = false := by
                      rw [Bool.eq_false_iff]
                      intro q
                      have q' := HX.out (by rw [HSSq.out]; exact inB_iff.1 q)
                      omega
                    have HHa := Lib.hid (fun w => show Calls Try.prog 40 #[SpV t0 t1, .int .i64 (T.ends lq uq j)] w fun e w' => e = .returned (.bool false) ∧ Up w w' by rw [← hin]; exact B_Has_any _ _ _ w)
                    have HU := Lib.hid U
                    clear hin
                    clear HX hj2
                    have F435 := Lib.hid (fun w (u : Up Z413 w) => u.blk kB)
                    have F436 := Lib.hid (fun w (u : Up Z413 w) => u.blk kN)
                    have F437 := Lib.hid (fun w (u : Up Z413 w) => u.blk ksq)
                    have F438 := Lib.hid (fun w (u : Up Z413 w) => u.blk kEq)
                    refine (wpIn_wide (n := 5)).1 ?_
                    refine wpIn_nrm ?_
                    refine T.regionQ (fun w' => Up Z413 w') 16 1 hmx (by kernel_rfl) (by kernel_rfl) ((Up.refl Z413).drew) (fun hCl => ?_)
                    refine T.qT 0 (some 148) ?v131 rfl rfl hCl ?hy131 (fun hCl' => ?_)
                    case hy131 => (intro w hSw; refine T.qVal ?_ hSw; (try dsimp only [List.getElem_toArray, List.getElem_cons_succ, List.getElem_cons_zero]); go_simp; try with_reducible rfl)
                    simp only [Act.put, List.setIfInBounds_toArray, List.set_cons_zero, List.set_cons_succ]; replace hCl := hCl'; clear hCl'
                    refine T.qT 2 (some 150) ?v132 rfl rfl hCl ?hy132 (fun hCl' => ?_)
                    case hy132 => (intro w hSw; refine T.qVal ?_ hSw; (try dsimp only [List.getElem_toArray, List.getElem_cons_succ, List.getElem_cons_zero]); go_simp; try with_reducible rfl)
                    simp only [Act.put, List.setIfInBounds_toArray, List.set_cons_zero, List.set_cons_succ]; replace hCl := hCl'; clear hCl'
                    refine T.qT 1 (some 149) ?v133 rfl rfl hCl ?hy133 (fun hCl' => ?_)
                    case hy133 => (intro w hSw; refine T.qVal ?_ hSw; (try dsimp only [List.getElem_toArray, List.getElem_cons_succ, List.getElem_cons_zero]); go_simp; try with_reducible rfl)
                    simp only [Act.put, List.setIfInBounds_toArray, List.set_cons_zero, List.set_cons_succ]; replace hCl := hCl'; clear hCl'
                    refine T.qT 3 (some 151) ?v134 rfl rfl hCl ?hy134 (fun hCl' => ?_)
                    case hy134 => (intro w hSw; refine T.qVal ?_ hSw; (try dsimp only [List.getElem_toArray, List.getElem_cons_succ, List.getElem_cons_zero]); go_simp; try with_reducible rfl)
                    simp only [Act.put, List.setIfInBounds_toArray, List.set_cons_zero, List.set_cons_succ]; replace hCl := hCl'; clear hCl'
                    refine T.qT 4 (some 152) ?v135 rfl rfl hCl ?hy135 (fun hCl' => ?_)
                    case hy135 => (intro w hSw; refine T.qVal ?_ hSw; (try dsimp only [List.getElem_toArray, List.getElem_cons_succ, List.getElem_cons_zero]); go_simp; try with_reducible rfl)
                    simp only [Act.put, List.setIfInBounds_toArray, List.set_cons_zero, List.set_cons_succ]; replace hCl := hCl'; clear hCl'
                    refine T.qT 5 (some 153) ?v136 rfl rfl hCl ?hy136 (fun hCl' => ?_)
                    case hy136 => (intro w hSw; refine T.qVal ?_ hSw; (try dsimp only [List.getElem_toArray, List.getElem_cons_succ, List.getElem_cons_zero]); go_simp; try with_reducible rfl)
                    simp only [Act.put, List.setIfInBounds_toArray, List.set_cons_zero, List.set_cons_succ]; replace hCl := hCl'; clear hCl'
                    refine T.qT 6 (some 154) ?v137 rfl rfl hCl ?hy137 (fun hCl' => ?_)
                    case hy137 => (intro w hSw; refine T.qVal ?_ hSw; (try dsimp only [List.getElem_toArray, List.getElem_cons_succ, List.getElem_cons_zero]); go_simp; try with_reducible rfl)
                    simp only [Act.put, List.setIfInBounds_toArray, List.set_cons_zero, List.set_cons_succ]; replace hCl := hCl'; clear hCl'
                    refine T.qT 8 (some 156) ?v138 rfl rfl hCl ?hy138 (fun hCl' => ?_)
                    case hy138 => (intro w hSw; refine T.qVal ?_ hSw; (try dsimp only [List.getElem_toArray, List.getElem_cons_succ, List.getElem_cons_zero]); go_simp; try with_reducible rfl)
                    simp only [Act.put, List.setIfInBounds_toArray, List.set_cons_zero, List.set_cons_succ]; replace hCl := hCl'; clear hCl'
                    refine T.qT 11 (some 159) ?v139 rfl rfl hCl ?hy139 (fun hCl' => ?_)
                    case hy139 => (intro w hSw; refine T.qVal ?_ hSw; (try dsimp only [List.getElem_toArray, List.getElem_cons_succ, List.getElem_cons_zero]); go_simp; try with_reducible rfl)
                    simp only [Act.put, List.setIfInBounds_toArray, List.set_cons_zero, List.set_cons_succ]; replace hCl := hCl'; clear hCl'
                    refine T.qT 12 (some 160) ?v140 rfl rfl hCl ?hy140 (fun hCl' => ?_)
                    case hy140 => (intro w hSw; refine T.qVal ?_ hSw; (try dsimp only [List.getElem_toArray, List.getElem_cons_succ, List.getElem_cons_zero]); go_simp; try with_reducible rfl)
                    simp only [Act.put, List.setIfInBounds_toArray, List.set_cons_zero, List.set_cons_succ]; replace hCl := hCl'; clear hCl'
                    refine T.qT 7 (some 155) ?v141 rfl rfl hCl ?hy141 (fun hCl' => ?_)
                    case hy141 => (intro w hSw; refine T.qVal ?_ hSw; (have fF435 := F435.out w hSw; have fF436 := F436.out w hSw; have fF437 := F437.out w hSw; have fF438 := F438.out w hSw; obtain ⟨fd0, fd1⟩ := Hcq.out _ (HU.out.trans hSw)); (try dsimp only [List.getElem_toArray, List.getElem_cons_succ, List.getElem_cons_zero]); go_simp; try with_reducible rfl)
                    simp only [Act.put, List.setIfInBounds_toArray, List.set_cons_zero, List.set_cons_succ]; replace hCl := hCl'; clear hCl'
                    refine T.qT 13 (some 161) ?v142 rfl rfl hCl ?hy142 (fun hCl' => ?_)
                    case hy142 => (intro w hSw; refine T.qVal ?_ hSw; (try dsimp only [List.getElem_toArray, List.getElem_cons_succ, List.getElem_cons_zero]); go_simp; try with_reducible rfl)
                    simp only [Act.put, List.setIfInBounds_toArray, List.set_cons_zero, List.set_cons_succ]; replace hCl := hCl'; clear hCl'
                    refine T.qT 9 (some 157) ?v143 rfl rfl hCl ?hy143 (fun hCl' => ?_)
                    case hy143 => (intro w hSw; refine T.qVal ?_ hSw; (try dsimp only [List.getElem_toArray, List.getElem_cons_succ, List.getElem_cons_zero]); go_simp; try with_reducible rfl)
                    simp only [Act.put, List.setIfInBounds_toArray, List.set_cons_zero, List.set_cons_succ]; replace hCl := hCl'; clear hCl'
                    refine T.qT 14 (some 162) ?v144 rfl rfl hCl ?hy144 (fun hCl' => ?_)
                    case hy144 => (intro w hSw; refine T.qVal ?_ hSw; (have fF435 := F435.out w hSw; have fF436 := F436.out w hSw; have fF437 := F437.out w hSw; have fF438 := F438.out w hSw; obtain ⟨fd0, fd1⟩ := Hcq.out _ (HU.out.trans hSw)); (try dsimp only [List.getElem_toArray, List.getElem_cons_succ, List.getElem_cons_zero]); go_simp; try with_reducible rfl)
                    simp only [Act.put, List.setIfInBounds_toArray, List.set_cons_zero, List.set_cons_succ]; replace hCl := hCl'; clear hCl'
                    refine T.qT 10 (some 158) ?v145 rfl rfl hCl ?hy145 (fun hCl' => ?_)
                    case hy145 => (intro w hSw; refine T.qVal ?_ hSw; (have fF435 := F435.out w hSw; have fF436 := F436.out w hSw; have fF437 := F437.out w hSw; have fF438 := F438.out w hSw; obtain ⟨fd0, fd1⟩ := Hcq.out _ (HU.out.trans hSw)); (try dsimp only [List.getElem_toArray, List.getElem_cons_succ, List.getElem_cons_zero]); go_simp; try with_reducible rfl)
                    simp only [Act.put, List.setIfInBounds_toArray, List.set_cons_zero, List.set_cons_succ]; replace hCl := hCl'; clear hCl'
                    refine T.qT 15 (some 163) ((.bool false)) rfl rfl hCl ?hy146 (fun hCl' => ?_)
                    case hy146 => (intro w hSw; (have fF435 := F435.out w hSw; have fF436 := F436.out w hSw; have fF437 := F437.out w hSw; have fF438 := F438.out w hSw; obtain ⟨fd0, fd1⟩ := Hcq.out _ (HU.out.trans hSw)); (try dsimp only [List.getElem_toArray, List.getElem_cons_succ, List.getElem_cons_zero]); go_simp; (refine (callsIn_wide.2 (HHa.out w)).mono ?_; rintro e w3 ⟨rfl, u3⟩; exact ⟨rfl, hSw.trans u3⟩))
                    simp only [Act.put, List.setIfInBounds_toArray, List.set_cons_zero, List.set_cons_succ]
                    replace hCl := hCl'; clear hCl'
                    refine T.tail_intro (by kernel_rfl) (fun Y434 hY434 => ?_)
                    replace U := U.trans hY434
                    replace kB := hY434.blk kB
                    replace kN := hY434.blk kN
                    replace ksq := hY434.blk ksq
                    replace kEq := hY434.blk kEq
                    clear F435 F436 F437 F438 hY434
                    refine lastG (i := 16) (by kernel_rfl) rfl (by rfl) (by decide) (fun K hK => ?_)
                    go_simp
                    refine hK.out _ _ ?_
                    clear hK K
                    refine doneG (by kernel_rfl) ?_ _
                    refine S.nrm_intro ?_
                    clear HU HHa
                    go_wp2_with fail
                    go_roundw
                    case rel => exact ⟨j + 1, by omega, by go_num, U, kB, kN, ksq, kEq⟩
                    case measure => (simp only [intOf]; omega)
                  · skip
                    have he0 : (ex == 0) = false := by rw [beq_eq_false_iff_ne]; exact he
                    have dj : decide ((j : Int) < 2) = true := decide_eq_true (by omega)
                    have ij : (j : Int) < 2 := by omega
                    have hin : inB (T.ends lq uq j) t0 t1 = false := by
                      rw [Bool.eq_false_iff]
                      intro q
                      have q' := HX.out (by rw [HSSq.out]; exact inB_iff.1 q)
                      omega
                    have HHa := Lib.hid (fun w => show Calls Try.prog 40 #[SpV t0 t1, .int .i64 (T.ends lq uq j)] w fun e w' => e = .returned (.bool false) ∧ Up w w' by rw [← hin]; exact B_Has_any _ _ _ w)
                    have HU := Lib.hid U
                    clear hin
                    clear HX hj2 he
                    have F435 := Lib.hid (fun w (u : Up Z413 w) => u.blk kB)
                    have F436 := Lib.hid (fun w (u : Up Z413 w) => u.blk kN)
                    have F437 := Lib.hid (fun w (u : Up Z413 w) => u.blk ksq)
                    have F438 := Lib.hid (fun w (u : Up Z413 w) => u.blk kEq)
                    refine (wpIn_wide (n := 5)).1 ?_
                    refine wpIn_nrm ?_
                    refine T.regionQ (fun w' => Up Z413 w') 16 1 hmx (by kernel_rfl) (by kernel_rfl) ((Up.refl Z413).drew) (fun hCl => ?_)
                    refine T.qT 0 (some 148) ?v147 rfl rfl hCl ?hy147 (fun hCl' => ?_)
                    case hy147 => (intro w hSw; refine T.qVal ?_ hSw; (try dsimp only [List.getElem_toArray, List.getElem_cons_succ, List.getElem_cons_zero]); go_simp; try with_reducible rfl)
                    simp only [Act.put, List.setIfInBounds_toArray, List.set_cons_zero, List.set_cons_succ]; replace hCl := hCl'; clear hCl'
                    refine T.qT 2 (some 150) ?v148 rfl rfl hCl ?hy148 (fun hCl' => ?_)
                    case hy148 => (intro w hSw; refine T.qVal ?_ hSw; (try dsimp only [List.getElem_toArray, List.getElem_cons_succ, List.getElem_cons_zero]); go_simp; try with_reducible rfl)
                    simp only [Act.put, List.setIfInBounds_toArray, List.set_cons_zero, List.set_cons_succ]; replace hCl := hCl'; clear hCl'
                    refine T.qT 1 (some 149) ?v149 rfl rfl hCl ?hy149 (fun hCl' => ?_)
                    case hy149 => (intro w hSw; refine T.qVal ?_ hSw; (try dsimp only [List.getElem_toArray, List.getElem_cons_succ, List.getElem_cons_zero]); go_simp; try with_reducible rfl)
                    simp only [Act.put, List.setIfInBounds_toArray, List.set_cons_zero, List.set_cons_succ]; replace hCl := hCl'; clear hCl'
                    refine T.qT 3 (some 151) ?v150 rfl rfl hCl ?hy150 (fun hCl' => ?_)
                    case hy150 => (intro w hSw; refine T.qVal ?_ hSw; (try dsimp only [List.getElem_toArray, List.getElem_cons_succ, List.getElem_cons_zero]); go_simp; try with_reducible rfl)
                    simp only [Act.put, List.setIfInBounds_toArray, List.set_cons_zero, List.set_cons_succ]; replace hCl := hCl'; clear hCl'
                    refine T.qT 4 (some 152) ?v151 rfl rfl hCl ?hy151 (fun hCl' => ?_)
                    case hy151 => (intro w hSw; refine T.qVal ?_ hSw; (try dsimp only [List.getElem_toArray, List.getElem_cons_succ, List.getElem_cons_zero]); go_simp; try with_reducible rfl)
                    simp only [Act.put, List.setIfInBounds_toArray, List.set_cons_zero, List.set_cons_succ]; replace hCl := hCl'; clear hCl'
                    refine T.qT 5 (some 153) ?v152 rfl rfl hCl ?hy152 (fun hCl' => ?_)
                    case hy152 => (intro w hSw; refine T.qVal ?_ hSw; (try dsimp only [List.getElem_toArray, List.getElem_cons_succ, List.getElem_cons_zero]); go_simp; try with_reducible rfl)
                    simp only [Act.put, List.setIfInBounds_toArray, List.set_cons_zero, List.set_cons_succ]; replace hCl := hCl'; clear hCl'
                    refine T.qT 6 (some 154) ?v153 rfl rfl hCl ?hy153 (fun hCl' => ?_)
                    case hy153 => (intro w hSw; refine T.qVal ?_ hSw; (try dsimp only [List.getElem_toArray, List.getElem_cons_succ, List.getElem_cons_zero]); go_simp; try with_reducible rfl)
                    simp only [Act.put, List.setIfInBounds_toArray, List.set_cons_zero, List.set_cons_succ]; replace hCl := hCl'; clear hCl'
                    refine T.qT 8 (some 156) ?v154 rfl rfl hCl ?hy154 (fun hCl' => ?_)
                    case hy154 => (intro w hSw; refine T.qVal ?_ hSw; (try dsimp only [List.getElem_toArray, List.getElem_cons_succ, List.getElem_cons_zero]); go_simp; try with_reducible rfl)
                    simp only [Act.put, List.setIfInBounds_toArray, List.set_cons_zero, List.set_cons_succ]; replace hCl := hCl'; clear hCl'
                    refine T.qT 11 (some 159) ?v155 rfl rfl hCl ?hy155 (fun hCl' => ?_)
                    case hy155 => (intro w hSw; refine T.qVal ?_ hSw; (try dsimp only [List.getElem_toArray, List.getElem_cons_succ, List.getElem_cons_zero]); go_simp; try with_reducible rfl)
                    simp only [Act.put, List.setIfInBounds_toArray, List.set_cons_zero, List.set_cons_succ]; replace hCl := hCl'; clear hCl'
                    refine T.qT 12 (some 160) ?v156 rfl rfl hCl ?hy156 (fun hCl' => ?_)
                    case hy156 => (intro w hSw; refine T.qVal ?_ hSw; (try dsimp only [List.getElem_toArray, List.getElem_cons_succ, List.getElem_cons_zero]); go_simp; try with_reducible rfl)
                    simp only [Act.put, List.setIfInBounds_toArray, List.set_cons_zero, List.set_cons_succ]; replace hCl := hCl'; clear hCl'
                    refine T.qT 7 (some 155) ?v157 rfl rfl hCl ?hy157 (fun hCl' => ?_)
                    case hy157 => (intro w hSw; refine T.qVal ?_ hSw; (have fF435 := F435.out w hSw; have fF436 := F436.out w hSw; have fF437 := F437.out w hSw; have fF438 := F438.out w hSw; obtain ⟨fd0, fd1⟩ := Hcq.out _ (HU.out.trans hSw)); (try dsimp only [List.getElem_toArray, List.getElem_cons_succ, List.getElem_cons_zero]); go_simp; try with_reducible rfl)
                    simp only [Act.put, List.setIfInBounds_toArray, List.set_cons_zero, List.set_cons_succ]; replace hCl := hCl'; clear hCl'
                    refine T.qT 13 (some 161) ?v158 rfl rfl hCl ?hy158 (fun hCl' => ?_)
                    case hy158 => (intro w hSw; refine T.qVal ?_ hSw; (try dsimp only [List.getElem_toArray, List.getElem_cons_succ, List.getElem_cons_zero]); go_simp; try with_reducible rfl)
                    simp only [Act.put, List.setIfInBounds_toArray, List.set_cons_zero, List.set_cons_succ]; replace hCl := hCl'; clear hCl'
                    refine T.qT 9 (some 157) ?v159 rfl rfl hCl ?hy159 (fun hCl' => ?_)
                    case hy159 => (intro w hSw; refine T.qVal ?_ hSw; (try dsimp only [List.getElem_toArray, List.getElem_cons_succ, List.getElem_cons_zero]); go_simp; try with_reducible rfl)
                    simp only [Act.put, List.setIfInBounds_toArray, List.set_cons_zero, List.set_cons_succ]; replace hCl := hCl'; clear hCl'
                    refine T.qT 14 (some 162) ?v160 rfl rfl hCl ?hy160 (fun hCl' => ?_)
                    case hy160 => (intro w hSw; refine T.qVal ?_ hSw; (have fF435 := F435.out w hSw; have fF436 := F436.out w hSw; have fF437 := F437.out w hSw; have fF438 := F438.out w hSw; obtain ⟨fd0, fd1⟩ := Hcq.out _ (HU.out.trans hSw)); (try dsimp only [List.getElem_toArray, List.getElem_cons_succ, List.getElem_cons_zero]); go_simp; try with_reducible rfl)
                    simp only [Act.put, List.setIfInBounds_toArray, List.set_cons_zero, List.set_cons_succ]; replace hCl := hCl'; clear hCl'
                    refine T.qT 10 (some 158) ?v161 rfl rfl hCl ?hy161 (fun hCl' => ?_)
                    case hy161 => (intro w hSw; refine T.qVal ?_ hSw; (have fF435 := F435.out w hSw; have fF436 := F436.out w hSw; have fF437 := F437.out w hSw; have fF438 := F438.out w hSw; obtain ⟨fd0, fd1⟩ := Hcq.out _ (HU.out.trans hSw)); (try dsimp only [List.getElem_toArray, List.getElem_cons_succ, List.getElem_cons_zero]); go_simp; try with_reducible rfl)
                    simp only [Act.put, List.setIfInBounds_toArray, List.set_cons_zero, List.set_cons_succ]; replace hCl := hCl'; clear hCl'
                    refine T.qT 15 (some 163) ((.bool false)) rfl rfl hCl ?hy162 (fun hCl' => ?_)
                    case hy162 => (intro w hSw; (have fF435 := F435.out w hSw; have fF436 := F436.out w hSw; have fF437 := F437.out w hSw; have fF438 := F438.out w hSw; obtain ⟨fd0, fd1⟩ := Hcq.out _ (HU.out.trans hSw)); (try dsimp only [List.getElem_toArray, List.getElem_cons_succ, List.getElem_cons_zero]); go_simp; (refine (callsIn_wide.2 (HHa.out w)).mono ?_; rintro e w3 ⟨rfl, u3⟩; exact ⟨rfl, hSw.trans u3⟩))
                    simp only [Act.put, List.setIfInBounds_toArray, List.set_cons_zero, List.set_cons_succ]
                    replace hCl := hCl'; clear hCl'
                    refine T.tail_intro (by kernel_rfl) (fun Y434 hY434 => ?_)
                    replace U := U.trans hY434
                    replace kB := hY434.blk kB
                    replace kN := hY434.blk kN
                    replace ksq := hY434.blk ksq
                    replace kEq := hY434.blk kEq
                    clear F435 F436 F437 F438 hY434
                    refine lastG (i := 16) (by kernel_rfl) rfl (by rfl) (by decide) (fun K hK => ?_)
                    go_simp
                    refine hK.out _ _ ?_
                    clear hK K
                    refine doneG (by kernel_rfl) ?_ _
                    refine S.nrm_intro ?_
                    clear HU HHa
                    go_wp2_with fail
                    go_roundw
                    case rel => exact ⟨j + 1, by omega, by go_num, U, kB, kN, ksq, kEq⟩
                    case measure => (simp only [intOf]; omega)
                  · skip
                    have he0 : (ex == 0) = false := by rw [beq_eq_false_iff_ne]; exact he
                    have dj : decide ((j : Int) < 2) = false := decide_eq_false (by omega)
                    have ij : ¬ (j : Int) < 2 := by omega
                    clear HX hj2 he
                    have F435 := Lib.hid (fun w (u : Up Z413 w) => u.blk kB)
                    have F436 := Lib.hid (fun w (u : Up Z413 w) => u.blk kN)
                    have F437 := Lib.hid (fun w (u : Up Z413 w) => u.blk ksq)
                    have F438 := Lib.hid (fun w (u : Up Z413 w) => u.blk kEq)
                    refine (wpIn_wide (n := 5)).1 ?_
                    refine wpIn_nrm ?_
                    refine T.regionQ (fun w' => Up Z413 w') 16 1 hmx (by kernel_rfl) (by kernel_rfl) ((Up.refl Z413).drew) (fun hCl => ?_)
                    refine T.qT 0 (some 148) ?v163 rfl rfl hCl ?hy163 (fun hCl' => ?_)
                    case hy163 => (intro w hSw; refine T.qVal ?_ hSw; (try dsimp only [List.getElem_toArray, List.getElem_cons_succ, List.getElem_cons_zero]); go_simp; try with_reducible rfl)
                    simp only [Act.put, List.setIfInBounds_toArray, List.set_cons_zero, List.set_cons_succ]; replace hCl := hCl'; clear hCl'
                    refine T.qT 2 (some 150) ?v164 rfl rfl hCl ?hy164 (fun hCl' => ?_)
                    case hy164 => (intro w hSw; refine T.qVal ?_ hSw; (try dsimp only [List.getElem_toArray, List.getElem_cons_succ, List.getElem_cons_zero]); go_simp; try with_reducible rfl)
                    simp only [Act.put, List.setIfInBounds_toArray, List.set_cons_zero, List.set_cons_succ]; replace hCl := hCl'; clear hCl'
                    refine T.qT 1 (some 149) ?v165 rfl rfl hCl ?hy165 (fun hCl' => ?_)
                    case hy165 => (intro w hSw; refine T.qVal ?_ hSw; (try dsimp only [List.getElem_toArray, List.getElem_cons_succ, List.getElem_cons_zero]); go_simp; try with_reducible rfl)
                    simp only [Act.put, List.setIfInBounds_toArray, List.set_cons_zero, List.set_cons_succ]; replace hCl := hCl'; clear hCl'
                    refine T.qT 3 (some 151) ?v166 rfl rfl hCl ?hy166 (fun hCl' => ?_)
                    case hy166 => (intro w hSw; refine T.qVal ?_ hSw; (try dsimp only [List.getElem_toArray, List.getElem_cons_succ, List.getElem_cons_zero]); go_simp; try with_reducible rfl)
                    simp only [Act.put, List.setIfInBounds_toArray, List.set_cons_zero, List.set_cons_succ]; replace hCl := hCl'; clear hCl'
                    refine T.qT 4 (some 152) ?v167 rfl rfl hCl ?hy167 (fun hCl' => ?_)
                    case hy167 => (intro w hSw; refine T.qVal ?_ hSw; (try dsimp only [List.getElem_toArray, List.getElem_cons_succ, List.getElem_cons_zero]); go_simp; try with_reducible rfl)
                    simp only [Act.put, List.setIfInBounds_toArray, List.set_cons_zero, List.set_cons_succ]; replace hCl := hCl'; clear hCl'
                    refine T.qT 5 (some 153) ?v168 rfl rfl hCl ?hy168 (fun hCl' => ?_)
                    case hy168 => (intro w hSw; refine T.qVal ?_ hSw; (try dsimp only [List.getElem_toArray, List.getElem_cons_succ, List.getElem_cons_zero]); go_simp; try with_reducible rfl)
                    simp only [Act.put, List.setIfInBounds_toArray, List.set_cons_zero, List.set_cons_succ]; replace hCl := hCl'; clear hCl'
                    refine T.qS 6 (some 154) rfl rfl hCl (fun hCl' => ?_)
                    simp only [Act.put, List.setIfInBounds_toArray, List.set_cons_zero, List.set_cons_succ]; replace hCl := hCl'; clear hCl'
                    refine T.qS 8 (some 156) rfl rfl hCl (fun hCl' => ?_)
                    simp only [Act.put, List.setIfInBounds_toArray, List.set_cons_zero, List.set_cons_succ]; replace hCl := hCl'; clear hCl'
                    refine T.qS 11 (some 159) rfl rfl hCl (fun hCl' => ?_)
                    simp only [Act.put, List.setIfInBounds_toArray, List.set_cons_zero, List.set_cons_succ]; replace hCl := hCl'; clear hCl'
                    refine T.qS 12 (some 160) rfl rfl hCl (fun hCl' => ?_)
                    simp only [Act.put, List.setIfInBounds_toArray, List.set_cons_zero, List.set_cons_succ]; replace hCl := hCl'; clear hCl'
                    refine T.qS 7 (some 155) rfl rfl hCl (fun hCl' => ?_)
                    simp only [Act.put, List.setIfInBounds_toArray, List.set_cons_zero, List.set_cons_succ]; replace hCl := hCl'; clear hCl'
                    refine T.qS 13 (some 161) rfl rfl hCl (fun hCl' => ?_)
                    simp only [Act.put, List.setIfInBounds_toArray, List.set_cons_zero, List.set_cons_succ]; replace hCl := hCl'; clear hCl'
                    refine T.qS 9 (some 157) rfl rfl hCl (fun hCl' => ?_)
                    simp only [Act.put, List.setIfInBounds_toArray, List.set_cons_zero, List.set_cons_succ]; replace hCl := hCl'; clear hCl'
                    refine T.qS 14 (some 162) rfl rfl hCl (fun hCl' => ?_)
                    simp only [Act.put, List.setIfInBounds_toArray, List.set_cons_zero, List.set_cons_succ]; replace hCl := hCl'; clear hCl'
                    refine T.qS 10 (some 158) rfl rfl hCl (fun hCl' => ?_)
                    simp only [Act.put, List.setIfInBounds_toArray, List.set_cons_zero, List.set_cons_succ]; replace hCl := hCl'; clear hCl'
                    refine T.qS 15 (some 163) rfl rfl hCl (fun hCl' => ?_)
                    simp only [Act.put, List.setIfInBounds_toArray, List.set_cons_zero, List.set_cons_succ]; replace hCl := hCl'; clear hCl'
                    refine T.tail_intro (by kernel_rfl) (fun Y434 hY434 => ?_)
                    replace U := U.trans hY434
                    replace kB := hY434.blk kB
                    replace kN := hY434.blk kN
                    replace ksq := hY434.blk ksq
                    replace kEq := hY434.blk kEq
                    clear F435 F436 F437 F438 hY434
                    refine lastG (i := 16) (by kernel_rfl) rfl (by rfl) (by decide) (fun K hK => ?_)
                    go_simp
                    refine hK.out _ _ ?_
                    clear hK K
                    refine doneG (by kernel_rfl) ?_ _
                    refine S.nrm_intro ?_
                    go_wp2_with fail
                    go_roundw
                    case rel => exact ⟨j + 1, by omega, by go_num, U, kB, kN, ksq, kEq⟩
                    case measure => (simp only [intOf]; omega)
                · skip
                  obtain rfl : j = 4 := by omega
                  have dk : decide (((4 : Nat) : Int) < 4) = false := by decide
                  clear hj hlt
                  clear ksq kEq
                  go_wp2_with fail
                  refine (HW.out _).mono ?_
                  rintro e x613 ⟨rfl, u614⟩
                  replace U := U.trans u614
                  replace kB := u614.blk kB
                  replace kN := u614.blk kN
                  clear u614 
                  go_wp2
                  go_ret
                  exact ⟨rfl, U⟩
            · skip
              have dq1 : decide ((qs.length : Int) > 0) = false := decide_eq_false (by omega)
              have iq1 : ¬ (0 : Int) < (qs.length : Int) := by omega
              clear hq0
              go_wp2_with fail
              refine (HW.out _).mono ?_
              rintro e x308 ⟨rfl, u309⟩
              replace U := U.trans u309
              replace kB := u309.blk kB
              replace kN := u309.blk kN
              clear u309 
              go_wp2
              go_ret
              exact ⟨rfl, U⟩
      · skip
        clear tp
        go_wp2_with fail
        refine (HRp.out _).mono ?_
        rintro e x3 ⟨rfl, rfl⟩
        clear HRp
        go_wp2_with fail
        refine (Cp.out _ U).mono ?_
        rintro e x4 ⟨rfl, u5⟩
        replace U := U.trans u5
        replace kB := u5.blk kB
        replace kN := u5.blk kN
        clear u5 
        have dkBksp := blk_lt kB
        have dkNksp := blk_lt kN
        have gksp := U.size
        have ksp := blk_new x4 (.cells #[.int .i64 0, .int .i64 0] 23) _ rfl
        replace kB := blk_keep (.cells #[.int .i64 0, .int .i64 0] 23) kB
        replace kN := blk_keep (.cells #[.int .i64 0, .int .i64 0] 23) kN
        replace U := U.alloc (.cells #[.int .i64 0, .int .i64 0] 23)
        go_wp2_with fail
        obtain ⟨pksp, hpksp⟩ : ∃ z, x4.heap.size = z := ⟨_, rfl⟩
        obtain ⟨W6, hW6⟩ : ∃ z, x4.alloc (.cells #[.int .i64 0, .int .i64 0] 23) = z := ⟨_, rfl⟩
        rw [hpksp] at ksp dkBksp dkNksp gksp
        rw [hW6] at ksp U kB kN
        rw [hW6, hpksp]
        go_wp2_with fail
        clear hpksp hW6
        have F8 := Lib.hid (fun w (u : Up W6 w) => cellB (u.blk kB))
        have F9 := Lib.hid (fun w (u : Up W6 w) => cellB (u.blk kN))
        have F10 := Lib.hid (fun w (u : Up W6 w) => cellB (u.blk ksp))
        refine (wpIn_wide (n := 5)).1 ?_
        refine wpIn_nrm ?_
        refine T.regionQ (fun w' => Up W6 w') 10 1 hmx (by kernel_rfl) (by kernel_rfl) ((Up.refl W6).drew) (fun hCl => ?_)
        refine T.qT 0 (some 41) ?v179 rfl rfl hCl ?hy179 (fun hCl' => ?_)
        case hy179 => (intro w hSw; refine T.qVal ?_ hSw; (try dsimp only [List.getElem_toArray, List.getElem_cons_succ, List.getElem_cons_zero]); go_simp; try with_reducible rfl)
        simp only [Act.put, List.setIfInBounds_toArray, List.set_cons_zero, List.set_cons_succ]; replace hCl := hCl'; clear hCl'
        refine T.qT 1 (some 42) ?v180 rfl rfl hCl ?hy180 (fun hCl' => ?_)
        case hy180 => (intro w hSw; refine T.qVal ?_ hSw; (try dsimp only [List.getElem_toArray, List.getElem_cons_succ, List.getElem_cons_zero]); go_simp; try with_reducible rfl)
        simp only [Act.put, List.setIfInBounds_toArray, List.set_cons_zero, List.set_cons_succ]; replace hCl := hCl'; clear hCl'
        refine T.qT 2 (some 43) ?v181 rfl rfl hCl ?hy181 (fun hCl' => ?_)
        case hy181 => (intro w hSw; refine T.qVal ?_ hSw; (try dsimp only [List.getElem_toArray, List.getElem_cons_succ, List.getElem_cons_zero]); go_simp; try with_reducible rfl)
        simp only [Act.put, List.setIfInBounds_toArray, List.set_cons_zero, List.set_cons_succ]; replace hCl := hCl'; clear hCl'
        refine T.qT 3 (some 44) ?v182 rfl rfl hCl ?hy182 (fun hCl' => ?_)
        case hy182 => (intro w hSw; refine T.qVal ?_ hSw; (have fF8 := F8.out w hSw; have fF9 := F9.out w hSw; have fF10 := F10.out w hSw); (try dsimp only [List.getElem_toArray, List.getElem_cons_succ, List.getElem_cons_zero]); go_simp; try with_reducible rfl)
        simp only [Act.put, List.setIfInBounds_toArray, List.set_cons_zero, List.set_cons_succ]; replace hCl := hCl'; clear hCl'
        refine T.qT 4 (some 45) ((SpV 0 0)) rfl rfl hCl ?hy183 (fun hCl' => ?_)
        case hy183 => (intro w hSw; (have fF8 := F8.out w hSw; have fF9 := F9.out w hSw; have fF10 := F10.out w hSw); (try dsimp only [List.getElem_toArray, List.getElem_cons_succ, List.getElem_cons_zero]); go_simp; (refine (callsIn_wide.2 (HTo.out 0 0 w)).mono ?_; rintro e w3 ⟨rfl, u3⟩; exact ⟨rfl, hSw.trans u3⟩))
        simp only [Act.put, List.setIfInBounds_toArray, List.set_cons_zero, List.set_cons_succ]
        replace hCl := hCl'; clear hCl'
        refine T.qT 5 (some 46) ?v184 rfl rfl hCl ?hy184 (fun hCl' => ?_)
        case hy184 => (intro w hSw; refine T.qVal ?_ hSw; (try dsimp only [List.getElem_toArray, List.getElem_cons_succ, List.getElem_cons_zero]); go_simp; try with_reducible rfl)
        simp only [Act.put, List.setIfInBounds_toArray, List.set_cons_zero, List.set_cons_succ]; replace hCl := hCl'; clear hCl'
        refine T.qT 6 (some 47) ?v185 rfl rfl hCl ?hy185 (fun hCl' => ?_)
        case hy185 => (intro w hSw; refine T.qVal ?_ hSw; (try dsimp only [List.getElem_toArray, List.getElem_cons_succ, List.getElem_cons_zero]); go_simp; try with_reducible rfl)
        simp only [Act.put, List.setIfInBounds_toArray, List.set_cons_zero, List.set_cons_succ]; replace hCl := hCl'; clear hCl'
        refine T.qT 7 (some 48) ?v186 rfl rfl hCl ?hy186 (fun hCl' => ?_)
        case hy186 => (intro w hSw; refine T.qVal ?_ hSw; (try dsimp only [List.getElem_toArray, List.getElem_cons_succ, List.getElem_cons_zero]); go_simp; try with_reducible rfl)
        simp only [Act.put, List.setIfInBounds_toArray, List.set_cons_zero, List.set_cons_succ]; replace hCl := hCl'; clear hCl'
        refine T.qT 8 (some 49) ((.bool true)) rfl rfl hCl ?hy187 (fun hCl' => ?_)
        case hy187 => (intro w hSw; (have fF8 := F8.out w hSw; have fF9 := F9.out w hSw; have fF10 := F10.out w hSw); (try dsimp only [List.getElem_toArray, List.getElem_cons_succ, List.getElem_cons_zero]); go_simp; (refine (callsIn_wide.2 (HW.out w)).mono ?_; rintro e w3 ⟨rfl, u3⟩; exact ⟨rfl, hSw.trans u3⟩))
        simp only [Act.put, List.setIfInBounds_toArray, List.set_cons_zero, List.set_cons_succ]
        replace hCl := hCl'; clear hCl'
        refine T.qT 9 (some 50) ?v188 rfl rfl hCl ?hy188 (fun hCl' => ?_)
        case hy188 => (intro w hSw; refine T.qVal ?_ hSw; (try dsimp only [List.getElem_toArray, List.getElem_cons_succ, List.getElem_cons_zero]); go_simp; try with_reducible rfl)
        simp only [Act.put, List.setIfInBounds_toArray, List.set_cons_zero, List.set_cons_succ]; replace hCl := hCl'; clear hCl'
        refine T.tail_intro (by kernel_rfl) (fun Y7 hY7 => ?_)
        replace U := U.trans hY7
        replace kB := hY7.blk kB
        replace kN := hY7.blk kN
        replace ksp := hY7.blk ksp
        clear F8 F9 F10 hY7
        refine lastG (i := 10) (by kernel_rfl) rfl (by rfl) (by decide) (fun K hK => ?_)
        go_simp
        refine hK.out _ _ ?_
        clear hK K
        refine doneG (by kernel_rfl) ?_ _
        refine S.nrm_intro ?_
        go_wp2
        go_ret
        exact ⟨rfl, U⟩
    · skip
      have dp1 : decide ((ps.length : Int) > 0) = false := decide_eq_false (by omega)
      have ip1 : ¬ (0 : Int) < (ps.length : Int) := by omega
      clear hp0
      by_cases hq0 : 0 < qs.length
      · skip
        have dq1 : decide ((qs.length : Int) > 0) = true := decide_eq_true (by omega)
        have iq1 : (0 : Int) < (qs.length : Int) := by omega
        have HRq := Lib.hid (fun w => B_Rest_any n1 (qs.length : Int) w (by omega) (by omega))
        have aq := Int.emod_nonneg n1 (b := (qs.length : Int)) (by omega)
        have bq := Int.emod_lt_of_pos n1 (b := (qs.length : Int)) (by omega)
        generalize n1 % (qs.length : Int) = kq at *
        obtain ⟨kq, rfl⟩ := Int.eq_ofNat_of_zero_le aq
        have hkq : kq < qs.length := by omega
        have ikq : (kq : Int) < (qs.length : Int) := by omega
        obtain ⟨⟨t0, t1⟩, hssq⟩ : ∃ s, qs.getD kq (0, 0) = s := ⟨_, rfl⟩
        obtain ⟨a'', c'', e'', _, _, hm⟩ := (HJ.out w (Up.refl w)).is
        injection e'' with ea eb ec
        clear eb ec
        obtain ⟨gF, oF, ga, glq, hxq⟩ := hm (by omega)
        subst ea ga
        clear hm
        have Hcq := Lib.hid (fun w' (u : Up w w') => And.intro (show w'.cell? ⟨gF, oF + kq * 2, none⟩ = some (.int .i64 t0) by have := hxq kq hkq 0 (by omega); rw [hssq] at this; exact (u.facts.1 gF _ glq).trans this) (show w'.cell? ⟨gF, oF + kq * 2 + 1, none⟩ = some (.int .i64 t1) by have := hxq kq hkq 1 (by omega); rw [hssq] at this; exact (u.facts.1 gF _ glq).trans this))
        clear hxq glq aq bq
        obtain ⟨lq, uq, eq, tq, vq, wq, xq⟩ := T.Tells.ex (o := T.o0) (m := 0) (i := (13 + (kq : Int))) HV.out T.al_0 (T.al_pth (n := (kq : Int)) ⟨by omega, by omega⟩)
        have Cq := Lib.hid (fun w' (u : Up w w') => Path_tells HV.out ⟨by omega, by omega⟩ tq (HI.out _ u) (HJ.out _ u) (HK.out _ u))
        have zq0 : IntKind.i64.wrap (lq - 1) = lq - 1 := IntWalk.i64_in _ (by omega)
        have zq1 : IntKind.i64.wrap (uq + 1) = uq + 1 := IntWalk.i64_in _ (by omega)
        have HSSq := Lib.hid hssq
        clear vq wq xq hssq
        rcases tq.err with rfl | ⟨rfl, rfl, rfl⟩
        · skip
          go_wp2_with fail
          refine (HRq.out _).mono ?_
          rintro e x3 ⟨rfl, rfl⟩
          clear HRq
          go_wp2_with fail
          refine (Cq.out _ U).mono ?_
          rintro e x4 ⟨rfl, u5⟩
          replace U := U.trans u5
          replace kB := u5.blk kB
          replace kN := u5.blk kN
          clear u5 
          have dkBksq := blk_lt kB
          have dkNksq := blk_lt kN
          have gksq := U.size
          have ksq := blk_new x4 (.cells #[.int .i64 lq, .int .i64 uq] 23) _ rfl
          replace kB := blk_keep (.cells #[.int .i64 lq, .int .i64 uq] 23) kB
          replace kN := blk_keep (.cells #[.int .i64 lq, .int .i64 uq] 23) kN
          replace U := U.alloc (.cells #[.int .i64 lq, .int .i64 uq] 23)
          obtain ⟨pksq, hpksq⟩ : ∃ z, x4.heap.size = z := ⟨_, rfl⟩
          obtain ⟨W6, hW6⟩ : ∃ z, x4.alloc (.cells #[.int .i64 lq, .int .i64 uq] 23) = z := ⟨_, rfl⟩
          rw [hpksq] at ksq dkBksq dkNksq gksq
          rw [hW6] at ksq U kB kN
          go_upto_region 20 with fail
          clear hpksq hW6
          have i0 := ksq
          have dkBkEq := blk_lt kB
          have dkNkEq := blk_lt kN
          have dksqkEq := blk_lt ksq
          have gkEq := U.size
          have kEq := blk_new W6 (.cells #[.int .i64 lq, .int .i64 uq, .int .i64 (lq - 1), .int .i64 (uq + 1)] 3) _ rfl
          replace kB := blk_keep (.cells #[.int .i64 lq, .int .i64 uq, .int .i64 (lq - 1), .int .i64 (uq + 1)] 3) kB
          replace kN := blk_keep (.cells #[.int .i64 lq, .int .i64 uq, .int .i64 (lq - 1), .int .i64 (uq + 1)] 3) kN
          replace ksq := blk_keep (.cells #[.int .i64 lq, .int .i64 uq, .int .i64 (lq - 1), .int .i64 (uq + 1)] 3) ksq
          replace U := U.alloc (.cells #[.int .i64 lq, .int .i64 uq, .int .i64 (lq - 1), .int .i64 (uq + 1)] 3)
          obtain ⟨pkEq, hpkEq⟩ : ∃ z, W6.heap.size = z := ⟨_, rfl⟩
          obtain ⟨W7, hW7⟩ : ∃ z, W6.alloc (.cells #[.int .i64 lq, .int .i64 uq, .int .i64 (lq - 1), .int .i64 (uq + 1)] 3) = z := ⟨_, rfl⟩
          rw [hpkEq] at kEq dkBkEq dkNkEq dksqkEq gkEq
          rw [hW7] at kEq U kB kN ksq
          go_wp2_with fail
          clear hpkEq hW7
          clear i0
          have HTq := Lib.hid tq
          clear tq zq0 zq1 Cq
          go_loopw [16] (fun m wr => ∃ j : Nat, j ≤ 4 ∧ m = .int .i64 j ∧ Up w wr ∧ mblk wr (q0) = some (.cells (BoC (N : Int) bl bh rl rh (.slice aP ps.length cP) (.slice (some ⟨gF, oF, none⟩) qs.length cQ) (.slice aL ls.length cL)) 27 (0, 0)) ∧ mblk wr (q0 + 1) = some (.cells #[.int .i64 n0, .int .i64 n1] 31 (0, 0)) ∧ mblk wr (pksq) = some (.cells #[.int .i64 lq, .int .i64 uq] 23 (0, 0)) ∧ mblk wr (pkEq) = some (.cells #[.int .i64 lq, .int .i64 uq, .int .i64 (lq - 1), .int .i64 (uq + 1)] 3 (0, 0))) (fun m _ => 4 - (intOf m).toNat)
          case atStart => exact ⟨0, by omega, rfl, U, kB, kN, ksq, kEq⟩
          case round =>
            clear U kB kN ksq kEq
            obtain ⟨j, hj, rfl, U, kB, kN, ksq, kEq⟩ := hrel
            by_cases hlt : j < 4
            · skip
              have ew : IntKind.i64.wrap ((j : Int) + 1) = (j : Int) + 1 := IntWalk.i64_in _ (by omega)
              have ilt : (j : Int) < 4 := by omega
              have dk : decide ((j : Int) < 4) = true := decide_eq_true (by omega)
              obtain ⟨lx, hx, ex, px, cx⟩ := T.end_pth HV.out hkq HTq.out hlt
              have HO := Lib.hid cx
              have HX := Lib.hid px
              have HNa := Lib.hid (fun w' (u : Up w w') => l_narrowed_q (M := (N : Int)) (bl := bl) (bh := bh) (rl := rl) (rh := rh) (n := T.ends lq uq j) (HI.out _ u) (HJ.out _ u) (HK.out _ u) hkq l4 l5)
              clear cx px
              go_wp2_with fail
              apply T.mergeV1 (fun w' b v1 => Up w w' ∧ mblk w' (q0) = some (.cells (BoC (N : Int) bl bh rl rh (.slice aP ps.length cP) (.slice (some ⟨gF, oF, none⟩) qs.length cQ) (.slice aL ls.length cL)) 27 (0, 0)) ∧ mblk w' (q0 + 1) = some (.cells #[.int .i64 n0, .int .i64 n1] 31 (0, 0)) ∧ mblk w' (pksq) = some (.cells #[.int .i64 lq, .int .i64 uq] 23 (0, 0)) ∧ mblk w' (pkEq) = some (.cells #[.int .i64 lq, .int .i64 uq, .int .i64 (lq - 1), .int .i64 (uq + 1)] 3 (0, 0)) ∧ mblk w' b = some (.cells #[.int .i64 lx, .int .i64 hx] 23 (0, 0)) ∧ True)
              · intro HKey
                refine (wpIn_wide (n := 5)).1 ?_
                refine wpIn_nrm ?_
                refine regionG (fun w' => Up w w' ∧ mblk w' (q0) = some (.cells (BoC (N : Int) bl bh rl rh (.slice aP ps.length cP) (.slice (some ⟨gF, oF, none⟩) qs.length cQ) (.slice aL ls.length cL)) 27 (0, 0)) ∧ mblk w' (q0 + 1) = some (.cells #[.int .i64 n0, .int .i64 n1] 31 (0, 0)) ∧ mblk w' (pksq) = some (.cells #[.int .i64 lq, .int .i64 uq] 23 (0, 0)) ∧ mblk w' (pkEq) = some (.cells #[.int .i64 lq, .int .i64 uq, .int .i64 (lq - 1), .int .i64 (uq + 1)] 3 (0, 0))) 13 hmx ⟨U.drew, (by rw [blk_drew]; exact kB), (by rw [blk_drew]; exact kN), (by rw [blk_drew]; exact ksq), (by rw [blk_drew]; exact kEq)⟩ (fun hHeld hCl => ?_)
                refine takeG (i := 0) (d := (some 138)) (v := ?v189) rfl rfl (by kernel_rfl) (by kernel_rfl) (by decide) hCl (by kernel_rfl) (by kernel_rfl) (by kernel_rfl) (fun _ _ _ h => h) (by rfl) ?hy189 (fun _ _ _ => trivial) (by assumption) (fun hCl' => ?_)
                case hy189 => ((intro w hSw; (try dsimp only at hSw); (try go_split_ands); go_simp); try with_reducible rfl)
                simp only [Act.put, List.setIfInBounds_toArray, List.set_cons_zero, List.set_cons_succ]
                replace hCl := hCl'; clear hCl'
                refine takeG (i := 1) (d := (some 139)) (v := ?v190) rfl rfl (by kernel_rfl) (by kernel_rfl) (by decide) hCl (by kernel_rfl) (by kernel_rfl) (by kernel_rfl) (fun _ _ _ h => h) (by rfl) ?hy190 (fun _ _ _ => trivial) (by assumption) (fun hCl' => ?_)
                case hy190 => ((intro w hSw; (try dsimp only at hSw); (try go_split_ands); go_simp); try with_reducible rfl)
                simp only [Act.put, List.setIfInBounds_toArray, List.set_cons_zero, List.set_cons_succ]
                replace hCl := hCl'; clear hCl'
                refine takeG (i := 2) (d := (some 140)) (v := ?v191) rfl rfl (by kernel_rfl) (by kernel_rfl) (by decide) hCl (by kernel_rfl) (by kernel_rfl) (by kernel_rfl) (fun _ _ _ h => h) (by rfl) ?hy191 (fun _ _ _ => trivial) (by assumption) (fun hCl' => ?_)
                case hy191 => ((intro w hSw; (try dsimp only at hSw); (try go_split_ands); go_simp); try with_reducible rfl)
                simp only [Act.put, List.setIfInBounds_toArray, List.set_cons_zero, List.set_cons_succ]
                replace hCl := hCl'; clear hCl'
                refine takeG (i := 3) (d := (some 141)) (v := ?v192) rfl rfl (by kernel_rfl) (by kernel_rfl) (by decide) hCl (by kernel_rfl) (by kernel_rfl) (by kernel_rfl) (fun _ _ _ h => h) (by rfl) ?hy192 (fun _ _ _ => trivial) (by assumption) (fun hCl' => ?_)
                case hy192 => ((intro w hSw; (try dsimp only at hSw); (try go_split_ands); go_simp); try with_reducible rfl)
                simp only [Act.put, List.setIfInBounds_toArray, List.set_cons_zero, List.set_cons_succ]
                replace hCl := hCl'; clear hCl'
                refine takeG (i := 4) (d := (some 142)) (v := ?v193) rfl rfl (by kernel_rfl) (by kernel_rfl) (by decide) hCl (by kernel_rfl) (by kernel_rfl) (by kernel_rfl) (fun _ _ _ h => h) (by rfl) ?hy193 (fun _ _ _ => trivial) (by assumption) (fun hCl' => ?_)
                case hy193 => ((intro w hSw; (try dsimp only at hSw); (try go_split_ands); go_simp); try with_reducible rfl)
                simp only [Act.put, List.setIfInBounds_toArray, List.set_cons_zero, List.set_cons_succ]
                replace hCl := hCl'; clear hCl'
                refine takeG (i := 5) (d := (some 143)) (v := ?v194) rfl rfl (by kernel_rfl) (by kernel_rfl) (by decide) hCl (by kernel_rfl) (by kernel_rfl) (by kernel_rfl) (fun _ _ _ h => h) (by rfl) ?hy194 (fun _ _ _ => trivial) (by assumption) (fun hCl' => ?_)
                case hy194 => ((intro w hSw; (try dsimp only at hSw); (try go_split_ands); go_simp); try with_reducible rfl)
                simp only [Act.put, List.setIfInBounds_toArray, List.set_cons_zero, List.set_cons_succ]
                replace hCl := hCl'; clear hCl'
                obtain ⟨X0, hX0⟩ : ∃ z, wr.drew = z := ⟨_, rfl⟩
                rw [hX0] at hHeld ⊢
                clear hX0
                refine nextG2 (i := 6) (j := 11) (by kernel_rfl) rfl rfl (by rfl) (by rfl) hCl ?_ ?_
                · skip
                  refine (fun K hK => ?_)
                  go_simp
                  refine ⟨trivial, (callsIn_wide.2 (HNa.out _ hHeld.1)).mono ?_⟩
                  rintro e X1 ⟨⟨a6, c6, a7, c7, rfl, I6, J6⟩, u⟩
                  refine hK.out _ _ ⟨hHeld.1.trans u, u.blk hHeld.2.1, u.blk hHeld.2.2.1, u.blk hHeld.2.2.2.1, u.blk hHeld.2.2.2.2⟩ (fun hHeld hCl => ?_)
                  clear hK K u
                  try (dsimp only [List.getElem_toArray, List.getElem_cons_succ, List.getElem_cons_zero]
                       simp only [Act.put, List.setIfInBounds_toArray, List.set_cons_zero, List.set_cons_succ])
                  refine nextG2 (i := 7) (j := 11) (by kernel_rfl) rfl rfl (by rfl) (by rfl) hCl ?_ ?_
                  · skip
                    refine (fun K hK => ?_)
                    go_simp
                    refine ⟨trivial, (callsIn_wide.2 (HO.out _ _ _ _ _ _ _ _ _ _ I6 J6 (HK.out _ hHeld.1))).mono ?_⟩
                    rintro e X2 ⟨rfl, u⟩
                    replace I6 := I6.up u
                    replace J6 := J6.up u
                    refine hK.out _ _ ⟨hHeld.1.trans u, u.blk hHeld.2.1, u.blk hHeld.2.2.1, u.blk hHeld.2.2.2.1, u.blk hHeld.2.2.2.2⟩ (fun hHeld hCl => ?_)
                    clear hK K u
                    try (dsimp only [List.getElem_toArray, List.getElem_cons_succ, List.getElem_cons_zero]
                         simp only [Act.put, List.setIfInBounds_toArray, List.set_cons_zero, List.set_cons_succ])
                    refine takeG (i := 8) (d := (some 137)) (v := ?v195) rfl rfl (by kernel_rfl) (by kernel_rfl) (by decide) hCl (by kernel_rfl) (by kernel_rfl) (by kernel_rfl) (fun _ _ _ h => h) (by rfl) ?hy195 (fun _ _ _ => trivial) (by assumption) (fun hCl' => ?_)
                    case hy195 => ((intro w hSw; (try dsimp only at hSw); (try go_split_ands); go_simp); try with_reducible rfl)
                    simp only [Act.put, List.setIfInBounds_toArray, List.set_cons_zero, List.set_cons_succ]
                    replace hCl := hCl'; clear hCl'
                    refine takeG (i := 9) (d := (some 146)) (v := ?v196) rfl rfl (by kernel_rfl) (by kernel_rfl) (by decide) hCl (by kernel_rfl) (by kernel_rfl) (by kernel_rfl) (fun _ _ _ h => h) (by rfl) ?hy196 (fun _ _ _ => trivial) (by assumption) (fun hCl' => ?_)
                    case hy196 => ((intro w hSw; (try dsimp only at hSw); (try go_split_ands); go_simp); try with_reducible rfl)
                    simp only [Act.put, List.setIfInBounds_toArray, List.set_cons_zero, List.set_cons_succ]
                    replace hCl := hCl'; clear hCl'
                    refine takeG (i := 10) (d := (some 147)) (v := ?v197) rfl rfl (by kernel_rfl) (by kernel_rfl) (by decide) hCl (by kernel_rfl) (by kernel_rfl) (by kernel_rfl) (fun _ _ _ h => h) (by rfl) ?hy197 (fun _ _ _ => trivial) (by assumption) (fun hCl' => ?_)
                    case hy197 => ((intro w hSw; (try dsimp only at hSw); (try go_split_ands); go_simp); try with_reducible rfl)
                    simp only [Act.put, List.setIfInBounds_toArray, List.set_cons_zero, List.set_cons_succ]
                    replace hCl := hCl'; clear hCl'
                    refine nextG (i := 11) (by kernel_rfl) rfl (by rfl) hCl (fun K hK => ?_)
                    go_simp
                    have u : Up X2 (X2.alloc (.cells #[.int .i64 0, .int .i64 0] 23)) := (Up.refl X2).alloc _
                    have kN := blk_new X2 (.cells #[.int .i64 0, .int .i64 0] 23) _ rfl
                    have gN : w.heap.size ≤ X2.heap.size := hHeld.1.size
                    have dN0 := blk_lt hHeld.2.1
                    have dN1 := blk_lt hHeld.2.2.1
                    have dN2 := blk_lt hHeld.2.2.2.1
                    have dN3 := blk_lt hHeld.2.2.2.2
                    obtain ⟨pN, hpN⟩ : ∃ q, X2.heap.size = q := ⟨_, rfl⟩
                    obtain ⟨X3, hX⟩ : ∃ z, X2.alloc (.cells #[.int .i64 0, .int .i64 0] 23) = z := ⟨_, rfl⟩
                    rw [hX] at u kN
                    rw [hpN] at kN gN dN0 dN1 dN2 dN3
                    replace I6 := I6.up u
                    replace J6 := J6.up u
                    try rw [hX]
                    try rw [hpN]
                    refine hK.out _ _ ⟨hHeld.1.trans u, u.blk hHeld.2.1, u.blk hHeld.2.2.1, u.blk hHeld.2.2.2.1, u.blk hHeld.2.2.2.2⟩ (fun hHeld hCl => ?_)
                    clear hK K u hX hpN
                    try (dsimp only [List.getElem_toArray, List.getElem_cons_succ, List.getElem_cons_zero]
                         simp only [Act.put, List.setIfInBounds_toArray, List.set_cons_zero, List.set_cons_succ])
                    have zf := frozB kN
                    have hH := hHeld
                    clear hHeld
                    refine nextG (i := 12) (by kernel_rfl) rfl (by rfl) hCl (fun K hK => ?_)
                    go_simp
                    have UZ := ((hH.1.set (p := ⟨pN, 0, none⟩) (show w.heap.size ≤ pN by omega) (.int .i64 lx)).set (p := ⟨pN, 1, none⟩) (show w.heap.size ≤ pN by omega) (.int .i64 hx))
                    have kZ : mblk ((X3.setCell ⟨pN, 0, none⟩ (.int .i64 lx)).setCell ⟨pN, 1, none⟩ (.int .i64 hx)) pN = some (.cells #[.int .i64 lx, .int .i64 hx] 23 (0, 0)) := (blk_put (blk_put kN 0 (.int .i64 lx)) 1 (.int .i64 hx))
                    have zkB := hH.2.1
                    rw [← blk_set (X3) ⟨pN, 0, none⟩ (.int .i64 lx) (q0) (by show q0 ≠ pN; omega), ← blk_set ((X3).setCell ⟨pN, 0, none⟩ (.int .i64 lx)) ⟨pN, 1, none⟩ (.int .i64 hx) (q0) (by show q0 ≠ pN; omega)] at zkB
                    have zkN := hH.2.2.1
                    rw [← blk_set (X3) ⟨pN, 0, none⟩ (.int .i64 lx) (q0 + 1) (by show q0 + 1 ≠ pN; omega), ← blk_set ((X3).setCell ⟨pN, 0, none⟩ (.int .i64 lx)) ⟨pN, 1, none⟩ (.int .i64 hx) (q0 + 1) (by show q0 + 1 ≠ pN; omega)] at zkN
                    have zksq := hH.2.2.2.1
                    rw [← blk_set (X3) ⟨pN, 0, none⟩ (.int .i64 lx) (pksq) (by show pksq ≠ pN; omega), ← blk_set ((X3).setCell ⟨pN, 0, none⟩ (.int .i64 lx)) ⟨pN, 1, none⟩ (.int .i64 hx) (pksq) (by show pksq ≠ pN; omega)] at zksq
                    have zkEq := hH.2.2.2.2
                    rw [← blk_set (X3) ⟨pN, 0, none⟩ (.int .i64 lx) (pkEq) (by show pkEq ≠ pN; omega), ← blk_set ((X3).setCell ⟨pN, 0, none⟩ (.int .i64 lx)) ⟨pN, 1, none⟩ (.int .i64 hx) (pkEq) (by show pkEq ≠ pN; omega)] at zkEq
                    obtain ⟨Z, hZ⟩ : ∃ z, ((X3.setCell ⟨pN, 0, none⟩ (.int .i64 lx)).setCell ⟨pN, 1, none⟩ (.int .i64 hx)) = z := ⟨_, rfl⟩
                    rw [hZ] at UZ kZ zkB zkN zksq zkEq 
                    try rw [hZ]
                    refine hK.out _ _ ⟨UZ, zkB, zkN, zksq, zkEq⟩ (fun _ hCl => ?_)
                    clear hK K hZ zf
                    try (dsimp only [List.getElem_toArray, List.getElem_cons_succ, List.getElem_cons_zero]
                         simp only [Act.put, List.setIfInBounds_toArray, List.set_cons_zero, List.set_cons_succ])
                    clear hCl
                    refine lastG (i := 13) (by kernel_rfl) rfl (by rfl) (by decide) (fun K hK => ?_)
                    go_simp
                    refine hK.out _ _ ?_
                    clear hK K
                    refine doneG (by kernel_rfl) ?_ _
                    refine S.nrm_intro ?_
                    obtain ⟨vb, hvb⟩ : ∃ v, BoV (N : Int) bl bh rl rh (.slice a6 ps.length c6) (.slice a7 qs.length c7) (.slice aL ls.length cL) = v := ⟨_, rfl⟩
                    rw [hvb]
                    exact HKey.out _ pN vb ⟨UZ, zkB, zkN, zksq, zkEq, kZ, trivial⟩
                  · skip
                    refine (fun K hK => ?_)
                    go_simp
                    have u : Up X1 (X1.alloc (.cells #[.int .i64 0, .int .i64 0] 23)) := (Up.refl X1).alloc _
                    have kN := blk_new X1 (.cells #[.int .i64 0, .int .i64 0] 23) _ rfl
                    have gN : w.heap.size ≤ X1.heap.size := hHeld.1.size
                    have dN0 := blk_lt hHeld.2.1
                    have dN1 := blk_lt hHeld.2.2.1
                    have dN2 := blk_lt hHeld.2.2.2.1
                    have dN3 := blk_lt hHeld.2.2.2.2
                    obtain ⟨pN, hpN⟩ : ∃ q, X1.heap.size = q := ⟨_, rfl⟩
                    obtain ⟨X4, hX⟩ : ∃ z, X1.alloc (.cells #[.int .i64 0, .int .i64 0] 23) = z := ⟨_, rfl⟩
                    rw [hX] at u kN
                    rw [hpN] at kN gN dN0 dN1 dN2 dN3
                    replace I6 := I6.up u
                    replace J6 := J6.up u
                    try rw [hX]
                    try rw [hpN]
                    refine hK.out _ _ ⟨hHeld.1.trans u, u.blk hHeld.2.1, u.blk hHeld.2.2.1, u.blk hHeld.2.2.2.1, u.blk hHeld.2.2.2.2⟩ (fun hHeld hCl => ?_)
                    clear hK K u hX hpN
                    try (dsimp only [List.getElem_toArray, List.getElem_cons_succ, List.getElem_cons_zero]
                         simp only [Act.put, List.setIfInBounds_toArray, List.set_cons_zero, List.set_cons_succ])
                    refine nextG (i := 7) (by kernel_rfl) rfl (by rfl) hCl (fun K hK => ?_)
                    go_simp
                    refine ⟨trivial, (callsIn_wide.2 (HO.out _ _ _ _ _ _ _ _ _ _ I6 J6 (HK.out _ hHeld.1))).mono ?_⟩
                    rintro e X5 ⟨rfl, u⟩
                    replace I6 := I6.up u
                    replace J6 := J6.up u
                    replace kN := u.blk kN
                    refine hK.out _ _ ⟨hHeld.1.trans u, u.blk hHeld.2.1, u.blk hHeld.2.2.1, u.blk hHeld.2.2.2.1, u.blk hHeld.2.2.2.2⟩ (fun hHeld hCl => ?_)
                    clear hK K u
                    try (dsimp only [List.getElem_toArray, List.getElem_cons_succ, List.getElem_cons_zero]
                         simp only [Act.put, List.setIfInBounds_toArray, List.set_cons_zero, List.set_cons_succ])
                    refine takeG (i := 8) (d := (some 137)) (v := ?v202) rfl rfl (by kernel_rfl) (by kernel_rfl) (by decide) hCl (by kernel_rfl) (by kernel_rfl) (by kernel_rfl) (fun _ _ _ h => h) (by rfl) ?hy202 (fun _ _ _ => trivial) (by assumption) (fun hCl' => ?_)
                    case hy202 => ((intro w hSw; (try dsimp only at hSw); (try go_split_ands); go_simp); try with_reducible rfl)
                    simp only [Act.put, List.setIfInBounds_toArray, List.set_cons_zero, List.set_cons_succ]
                    replace hCl := hCl'; clear hCl'
                    refine takeG (i := 9) (d := (some 146)) (v := ?v203) rfl rfl (by kernel_rfl) (by kernel_rfl) (by decide) hCl (by kernel_rfl) (by kernel_rfl) (by kernel_rfl) (fun _ _ _ h => h) (by rfl) ?hy203 (fun _ _ _ => trivial) (by assumption) (fun hCl' => ?_)
                    case hy203 => ((intro w hSw; (try dsimp only at hSw); (try go_split_ands); go_simp); try with_reducible rfl)
                    simp only [Act.put, List.setIfInBounds_toArray, List.set_cons_zero, List.set_cons_succ]
                    replace hCl := hCl'; clear hCl'
                    refine takeG (i := 10) (d := (some 147)) (v := ?v204) rfl rfl (by kernel_rfl) (by kernel_rfl) (by decide) hCl (by kernel_rfl) (by kernel_rfl) (by kernel_rfl) (fun _ _ _ h => h) (by rfl) ?hy204 (fun _ _ _ => trivial) (by assumption) (fun hCl' => ?_)
                    case hy204 => ((intro w hSw; (try dsimp only at hSw); (try go_split_ands); go_simp); try with_reducible rfl)
                    simp only [Act.put, List.setIfInBounds_toArray, List.set_cons_zero, List.set_cons_succ]
                    replace hCl := hCl'; clear hCl'
                    have zf := frozB kN
                    have hH := hHeld
                    clear hHeld
                    refine nextG (i := 12) (by kernel_rfl) rfl (by rfl) hCl (fun K hK => ?_)
                    go_simp
                    have UZ := ((hH.1.set (p := ⟨pN, 0, none⟩) (show w.heap.size ≤ pN by omega) (.int .i64 lx)).set (p := ⟨pN, 1, none⟩) (show w.heap.size ≤ pN by omega) (.int .i64 hx))
                    have kZ : mblk ((X5.setCell ⟨pN, 0, none⟩ (.int .i64 lx)).setCell ⟨pN, 1, none⟩ (.int .i64 hx)) pN = some (.cells #[.int .i64 lx, .int .i64 hx] 23 (0, 0)) := (blk_put (blk_put kN 0 (.int .i64 lx)) 1 (.int .i64 hx))
                    have zkB := hH.2.1
                    rw [← blk_set (X5) ⟨pN, 0, none⟩ (.int .i64 lx) (q0) (by show q0 ≠ pN; omega), ← blk_set ((X5).setCell ⟨pN, 0, none⟩ (.int .i64 lx)) ⟨pN, 1, none⟩ (.int .i64 hx) (q0) (by show q0 ≠ pN; omega)] at zkB
                    have zkN := hH.2.2.1
                    rw [← blk_set (X5) ⟨pN, 0, none⟩ (.int .i64 lx) (q0 + 1) (by show q0 + 1 ≠ pN; omega), ← blk_set ((X5).setCell ⟨pN, 0, none⟩ (.int .i64 lx)) ⟨pN, 1, none⟩ (.int .i64 hx) (q0 + 1) (by show q0 + 1 ≠ pN; omega)] at zkN
                    have zksq := hH.2.2.2.1
                    rw [← blk_set (X5) ⟨pN, 0, none⟩ (.int .i64 lx) (pksq) (by show pksq ≠ pN; omega), ← blk_set ((X5).setCell ⟨pN, 0, none⟩ (.int .i64 lx)) ⟨pN, 1, none⟩ (.int .i64 hx) (pksq) (by show pksq ≠ pN; omega)] at zksq
                    have zkEq := hH.2.2.2.2
                    rw [← blk_set (X5) ⟨pN, 0, none⟩ (.int .i64 lx) (pkEq) (by show pkEq ≠ pN; omega), ← blk_set ((X5).setCell ⟨pN, 0, none⟩ (.int .i64 lx)) ⟨pN, 1, none⟩ (.int .i64 hx) (pkEq) (by show pkEq ≠ pN; omega)] at zkEq
                    obtain ⟨Z, hZ⟩ : ∃ z, ((X5.setCell ⟨pN, 0, none⟩ (.int .i64 lx)).setCell ⟨pN, 1, none⟩ (.int .i64 hx)) = z := ⟨_, rfl⟩
                    rw [hZ] at UZ kZ zkB zkN zksq zkEq 
                    try rw [hZ]
                    refine hK.out _ _ ⟨UZ, zkB, zkN, zksq, zkEq⟩ (fun _ hCl => ?_)
                    clear hK K hZ zf
                    try (dsimp only [List.getElem_toArray, List.getElem_cons_succ, List.getElem_cons_zero]
                         simp only [Act.put, List.setIfInBounds_toArray, List.set_cons_zero, List.set_cons_succ])
                    clear hCl
                    refine lastG (i := 13) (by kernel_rfl) rfl (by rfl) (by decide) (fun K hK => ?_)
                    go_simp
                    refine hK.out _ _ ?_
                    clear hK K
                    refine doneG (by kernel_rfl) ?_ _
                    refine S.nrm_intro ?_
                    obtain ⟨vb, hvb⟩ : ∃ v, BoV (N : Int) bl bh rl rh (.slice a6 ps.length c6) (.slice a7 qs.length c7) (.slice aL ls.length cL) = v := ⟨_, rfl⟩
                    rw [hvb]
                    exact HKey.out _ pN vb ⟨UZ, zkB, zkN, zksq, zkEq, kZ, trivial⟩
                · skip
                  refine (fun K hK => ?_)
                  go_simp
                  have u : Up X0 (X0.alloc (.cells #[.int .i64 0, .int .i64 0] 23)) := (Up.refl X0).alloc _
                  have kN := blk_new X0 (.cells #[.int .i64 0, .int .i64 0] 23) _ rfl
                  have gN : w.heap.size ≤ X0.heap.size := hHeld.1.size
                  have dN0 := blk_lt hHeld.2.1
                  have dN1 := blk_lt hHeld.2.2.1
                  have dN2 := blk_lt hHeld.2.2.2.1
                  have dN3 := blk_lt hHeld.2.2.2.2
                  obtain ⟨pN, hpN⟩ : ∃ q, X0.heap.size = q := ⟨_, rfl⟩
                  obtain ⟨X6, hX⟩ : ∃ z, X0.alloc (.cells #[.int .i64 0, .int .i64 0] 23) = z := ⟨_, rfl⟩
                  rw [hX] at u kN
                  rw [hpN] at kN gN dN0 dN1 dN2 dN3
                  try rw [hX]
                  try rw [hpN]
                  refine hK.out _ _ ⟨hHeld.1.trans u, u.blk hHeld.2.1, u.blk hHeld.2.2.1, u.blk hHeld.2.2.2.1, u.blk hHeld.2.2.2.2⟩ (fun hHeld hCl => ?_)
                  clear hK K u hX hpN
                  try (dsimp only [List.getElem_toArray, List.getElem_cons_succ, List.getElem_cons_zero]
                       simp only [Act.put, List.setIfInBounds_toArray, List.set_cons_zero, List.set_cons_succ])
                  refine nextG (i := 6) (by kernel_rfl) rfl (by rfl) hCl (fun K hK => ?_)
                  go_simp
                  refine ⟨trivial, (callsIn_wide.2 (HNa.out _ hHeld.1)).mono ?_⟩
                  rintro e X7 ⟨⟨a6, c6, a7, c7, rfl, I6, J6⟩, u⟩
                  replace kN := u.blk kN
                  refine hK.out _ _ ⟨hHeld.1.trans u, u.blk hHeld.2.1, u.blk hHeld.2.2.1, u.blk hHeld.2.2.2.1, u.blk hHeld.2.2.2.2⟩ (fun hHeld hCl => ?_)
                  clear hK K u
                  try (dsimp only [List.getElem_toArray, List.getElem_cons_succ, List.getElem_cons_zero]
                       simp only [Act.put, List.setIfInBounds_toArray, List.set_cons_zero, List.set_cons_succ])
                  refine nextG (i := 7) (by kernel_rfl) rfl (by rfl) hCl (fun K hK => ?_)
                  go_simp
                  refine ⟨trivial, (callsIn_wide.2 (HO.out _ _ _ _ _ _ _ _ _ _ I6 J6 (HK.out _ hHeld.1))).mono ?_⟩
                  rintro e X8 ⟨rfl, u⟩
                  replace kN := u.blk kN
                  replace I6 := I6.up u
                  replace J6 := J6.up u
                  refine hK.out _ _ ⟨hHeld.1.trans u, u.blk hHeld.2.1, u.blk hHeld.2.2.1, u.blk hHeld.2.2.2.1, u.blk hHeld.2.2.2.2⟩ (fun hHeld hCl => ?_)
                  clear hK K u
                  try (dsimp only [List.getElem_toArray, List.getElem_cons_succ, List.getElem_cons_zero]
                       simp only [Act.put, List.setIfInBounds_toArray, List.set_cons_zero, List.set_cons_succ])
                  refine takeG (i := 8) (d := (some 137)) (v := ?v209) rfl rfl (by kernel_rfl) (by kernel_rfl) (by decide) hCl (by kernel_rfl) (by kernel_rfl) (by kernel_rfl) (fun _ _ _ h => h) (by rfl) ?hy209 (fun _ _ _ => trivial) (by assumption) (fun hCl' => ?_)
                  case hy209 => ((intro w hSw; (try dsimp only at hSw); (try go_split_ands); go_simp); try with_reducible rfl)
                  simp only [Act.put, List.setIfInBounds_toArray, List.set_cons_zero, List.set_cons_succ]
                  replace hCl := hCl'; clear hCl'
                  refine takeG (i := 9) (d := (some 146)) (v := ?v210) rfl rfl (by kernel_rfl) (by kernel_rfl) (by decide) hCl (by kernel_rfl) (by kernel_rfl) (by kernel_rfl) (fun _ _ _ h => h) (by rfl) ?hy210 (fun _ _ _ => trivial) (by assumption) (fun hCl' => ?_)
                  case hy210 => ((intro w hSw; (try dsimp only at hSw); (try go_split_ands); go_simp); try with_reducible rfl)
                  simp only [Act.put, List.setIfInBounds_toArray, List.set_cons_zero, List.set_cons_succ]
                  replace hCl := hCl'; clear hCl'
                  refine takeG (i := 10) (d := (some 147)) (v := ?v211) rfl rfl (by kernel_rfl) (by kernel_rfl) (by decide) hCl (by kernel_rfl) (by kernel_rfl) (by kernel_rfl) (fun _ _ _ h => h) (by rfl) ?hy211 (fun _ _ _ => trivial) (by assumption) (fun hCl' => ?_)
                  case hy211 => ((intro w hSw; (try dsimp only at hSw); (try go_split_ands); go_simp); try with_reducible rfl)
                  simp only [Act.put, List.setIfInBounds_toArray, List.set_cons_zero, List.set_cons_succ]
                  replace hCl := hCl'; clear hCl'
                  have zf := frozB kN
                  have hH := hHeld
                  clear hHeld
                  refine nextG (i := 12) (by kernel_rfl) rfl (by rfl) hCl (fun K hK => ?_)
                  go_simp
                  have UZ := ((hH.1.set (p := ⟨pN, 0, none⟩) (show w.heap.size ≤ pN by omega) (.int .i64 lx)).set (p := ⟨pN, 1, none⟩) (show w.heap.size ≤ pN by omega) (.int .i64 hx))
                  have kZ : mblk ((X8.setCell ⟨pN, 0, none⟩ (.int .i64 lx)).setCell ⟨pN, 1, none⟩ (.int .i64 hx)) pN = some (.cells #[.int .i64 lx, .int .i64 hx] 23 (0, 0)) := (blk_put (blk_put kN 0 (.int .i64 lx)) 1 (.int .i64 hx))
                  have zkB := hH.2.1
                  rw [← blk_set (X8) ⟨pN, 0, none⟩ (.int .i64 lx) (q0) (by show q0 ≠ pN; omega), ← blk_set ((X8).setCell ⟨pN, 0, none⟩ (.int .i64 lx)) ⟨pN, 1, none⟩ (.int .i64 hx) (q0) (by show q0 ≠ pN; omega)] at zkB
                  have zkN := hH.2.2.1
                  rw [← blk_set (X8) ⟨pN, 0, none⟩ (.int .i64 lx) (q0 + 1) (by show q0 + 1 ≠ pN; omega), ← blk_set ((X8).setCell ⟨pN, 0, none⟩ (.int .i64 lx)) ⟨pN, 1, none⟩ (.int .i64 hx) (q0 + 1) (by show q0 + 1 ≠ pN; omega)] at zkN
                  have zksq := hH.2.2.2.1
                  rw [← blk_set (X8) ⟨pN, 0, none⟩ (.int .i64 lx) (pksq) (by show pksq ≠ pN; omega), ← blk_set ((X8).setCell ⟨pN, 0, none⟩ (.int .i64 lx)) ⟨pN, 1, none⟩ (.int .i64 hx) (pksq) (by show pksq ≠ pN; omega)] at zksq
                  have zkEq := hH.2.2.2.2
                  rw [← blk_set (X8) ⟨pN, 0, none⟩ (.int .i64 lx) (pkEq) (by show pkEq ≠ pN; omega), ← blk_set ((X8).setCell ⟨pN, 0, none⟩ (.int .i64 lx)) ⟨pN, 1, none⟩ (.int .i64 hx) (pkEq) (by show pkEq ≠ pN; omega)] at zkEq
                  obtain ⟨Z, hZ⟩ : ∃ z, ((X8.setCell ⟨pN, 0, none⟩ (.int .i64 lx)).setCell ⟨pN, 1, none⟩ (.int .i64 hx)) = z := ⟨_, rfl⟩
                  rw [hZ] at UZ kZ zkB zkN zksq zkEq 
                  try rw [hZ]
                  refine hK.out _ _ ⟨UZ, zkB, zkN, zksq, zkEq⟩ (fun _ hCl => ?_)
                  clear hK K hZ zf
                  try (dsimp only [List.getElem_toArray, List.getElem_cons_succ, List.getElem_cons_zero]
                       simp only [Act.put, List.setIfInBounds_toArray, List.set_cons_zero, List.set_cons_succ])
                  clear hCl
                  refine lastG (i := 13) (by kernel_rfl) rfl (by rfl) (by decide) (fun K hK => ?_)
                  go_simp
                  refine hK.out _ _ ?_
                  clear hK K
                  refine doneG (by kernel_rfl) ?_ _
                  refine S.nrm_intro ?_
                  obtain ⟨vb, hvb⟩ : ∃ v, BoV (N : Int) bl bh rl rh (.slice a6 ps.length c6) (.slice a7 qs.length c7) (.slice aL ls.length cL) = v := ⟨_, rfl⟩
                  rw [hvb]
                  exact HKey.out _ pN vb ⟨UZ, zkB, zkN, zksq, zkEq, kZ, trivial⟩
              clear U kB kN ksq kEq
              rintro Z108 pkxq v1 ⟨U, kB, kN, ksq, kEq, kxq, _⟩
              clear kxq
              clear HO HNa
              go_wp2_with fail
              by_cases he : ex = 0 <;> by_cases hj2 : j < 2
              · skip
                subst he
                have dj : decide ((j : Int) < 2) = true := decide_eq_true (by omega)
                have ij : (j : Int) < 2 := by omega
                clear HX hj2
                have F130 := Lib.hid (fun w (u : Up Z108 w) => u.blk kB)
                have F131 := Lib.hid (fun w (u : Up Z108 w) => u.blk kN)
                have F132 := Lib.hid (fun w (u : Up Z108 w) => u.blk ksq)
                have F133 := Lib.hid (fun w (u : Up Z108 w) => u.blk kEq)
                refine (wpIn_wide (n := 5)).1 ?_
                refine wpIn_nrm ?_
                refine T.regionQ (fun w' => Up Z108 w') 16 1 hmx (by kernel_rfl) (by kernel_rfl) ((Up.refl Z108).drew) (fun hCl => ?_)
                refine T.qT 0 (some 148) ?v214 rfl rfl hCl ?hy214 (fun hCl' => ?_)
                case hy214 => (intro w hSw; refine T.qVal ?_ hSw; (try dsimp only [List.getElem_toArray, List.getElem_cons_succ, List.getElem_cons_zero]); go_simp; try with_reducible rfl)
                simp only [Act.put, List.setIfInBounds_toArray, List.set_cons_zero, List.set_cons_succ]; replace hCl := hCl'; clear hCl'
                refine T.qT 2 (some 150) ?v215 rfl rfl hCl ?hy215 (fun hCl' => ?_)
                case hy215 => (intro w hSw; refine T.qVal ?_ hSw; (try dsimp only [List.getElem_toArray, List.getElem_cons_succ, List.getElem_cons_zero]); go_simp; try with_reducible rfl)
                simp only [Act.put, List.setIfInBounds_toArray, List.set_cons_zero, List.set_cons_succ]; replace hCl := hCl'; clear hCl'
                refine T.qT 1 (some 149) ?v216 rfl rfl hCl ?hy216 (fun hCl' => ?_)
                case hy216 => (intro w hSw; refine T.qVal ?_ hSw; (try dsimp only [List.getElem_toArray, List.getElem_cons_succ, List.getElem_cons_zero]); go_simp; try with_reducible rfl)
                simp only [Act.put, List.setIfInBounds_toArray, List.set_cons_zero, List.set_cons_succ]; replace hCl := hCl'; clear hCl'
                refine T.qT 3 (some 151) ?v217 rfl rfl hCl ?hy217 (fun hCl' => ?_)
                case hy217 => (intro w hSw; refine T.qVal ?_ hSw; (try dsimp only [List.getElem_toArray, List.getElem_cons_succ, List.getElem_cons_zero]); go_simp; try with_reducible rfl)
                simp only [Act.put, List.setIfInBounds_toArray, List.set_cons_zero, List.set_cons_succ]; replace hCl := hCl'; clear hCl'
                refine T.qT 4 (some 152) ?v218 rfl rfl hCl ?hy218 (fun hCl' => ?_)
                case hy218 => (intro w hSw; refine T.qVal ?_ hSw; (try dsimp only [List.getElem_toArray, List.getElem_cons_succ, List.getElem_cons_zero]); go_simp; try with_reducible rfl)
                simp only [Act.put, List.setIfInBounds_toArray, List.set_cons_zero, List.set_cons_succ]; replace hCl := hCl'; clear hCl'
                refine T.qT 5 (some 153) ?v219 rfl rfl hCl ?hy219 (fun hCl' => ?_)
                case hy219 => (intro w hSw; refine T.qVal ?_ hSw; (try dsimp only [List.getElem_toArray, List.getElem_cons_succ, List.getElem_cons_zero]); go_simp; try with_reducible rfl)
                simp only [Act.put, List.setIfInBounds_toArray, List.set_cons_zero, List.set_cons_succ]; replace hCl := hCl'; clear hCl'
                refine T.qS 6 (some 154) rfl rfl hCl (fun hCl' => ?_)
                simp only [Act.put, List.setIfInBounds_toArray, List.set_cons_zero, List.set_cons_succ]; replace hCl := hCl'; clear hCl'
                refine T.qS 8 (some 156) rfl rfl hCl (fun hCl' => ?_)
                simp only [Act.put, List.setIfInBounds_toArray, List.set_cons_zero, List.set_cons_succ]; replace hCl := hCl'; clear hCl'
                refine T.qS 11 (some 159) rfl rfl hCl (fun hCl' => ?_)
                simp only [Act.put, List.setIfInBounds_toArray, List.set_cons_zero, List.set_cons_succ]; replace hCl := hCl'; clear hCl'
                refine T.qS 12 (some 160) rfl rfl hCl (fun hCl' => ?_)
                simp only [Act.put, List.setIfInBounds_toArray, List.set_cons_zero, List.set_cons_succ]; replace hCl := hCl'; clear hCl'
                refine T.qS 7 (some 155) rfl rfl hCl (fun hCl' => ?_)
                simp only [Act.put, List.setIfInBounds_toArray, List.set_cons_zero, List.set_cons_succ]; replace hCl := hCl'; clear hCl'
                refine T.qS 13 (some 161) rfl rfl hCl (fun hCl' => ?_)
                simp only [Act.put, List.setIfInBounds_toArray, List.set_cons_zero, List.set_cons_succ]; replace hCl := hCl'; clear hCl'
                refine T.qS 9 (some 157) rfl rfl hCl (fun hCl' => ?_)
                simp only [Act.put, List.setIfInBounds_toArray, List.set_cons_zero, List.set_cons_succ]; replace hCl := hCl'; clear hCl'
                refine T.qS 14 (some 162) rfl rfl hCl (fun hCl' => ?_)
                simp only [Act.put, List.setIfInBounds_toArray, List.set_cons_zero, List.set_cons_succ]; replace hCl := hCl'; clear hCl'
                refine T.qS 10 (some 158) rfl rfl hCl (fun hCl' => ?_)
                simp only [Act.put, List.setIfInBounds_toArray, List.set_cons_zero, List.set_cons_succ]; replace hCl := hCl'; clear hCl'
                refine T.qS 15 (some 163) rfl rfl hCl (fun hCl' => ?_)
                simp only [Act.put, List.setIfInBounds_toArray, List.set_cons_zero, List.set_cons_succ]; replace hCl := hCl'; clear hCl'
                refine T.tail_intro (by kernel_rfl) (fun Y129 hY129 => ?_)
                replace U := U.trans hY129
                replace kB := hY129.blk kB
                replace kN := hY129.blk kN
                replace ksq := hY129.blk ksq
                replace kEq := hY129.blk kEq
                clear F130 F131 F132 F133 hY129
                refine lastG (i := 16) (by kernel_rfl) rfl (by rfl) (by decide) (fun K hK => ?_)
                go_simp
                refine hK.out _ _ ?_
                clear hK K
                refine doneG (by kernel_rfl) ?_ _
                refine S.nrm_intro ?_
                go_wp2_with fail
                go_roundw
                case rel => exact ⟨j + 1, by omega, by go_num, U, kB, kN, ksq, kEq⟩
                case measure => (simp only [intOf]; omega)
              · skip
                subst he
                have dj : decide ((j : Int) < 2) = false := decide_eq_false (by omega)
                have ij : ¬ (j : Int) < 2 := by omega
                have hin : inB (T.ends lq uq j) t0 t1 = false := by
                  rw [Bool.eq_false_iff]
                  intro q
                  have q' := HX.out (by rw [HSSq.out]; exact inB_iff.1 q)
                  omega
                have HHa := Lib.hid (fun w => show Calls Try.prog 40 #[SpV t0 t1, .int .i64 (T.ends lq uq j)] w fun e w' => e = .returned (.bool false) ∧ Up w w' by rw [← hin]; exact B_Has_any _ _ _ w)
                have HU := Lib.hid U
                clear hin
                clear HX hj2
                have F130 := Lib.hid (fun w (u : Up Z108 w) => u.blk kB)
                have F131 := Lib.hid (fun w (u : Up Z108 w) => u.blk kN)
                have F132 := Lib.hid (fun w (u : Up Z108 w) => u.blk ksq)
                have F133 := Lib.hid (fun w (u : Up Z108 w) => u.blk kEq)
                refine (wpIn_wide (n := 5)).1 ?_
                refine wpIn_nrm ?_
                refine T.regionQ (fun w' => Up Z108 w') 16 1 hmx (by kernel_rfl) (by kernel_rfl) ((Up.refl Z108).drew) (fun hCl => ?_)
                refine T.qT 0 (some 148) ?v230 rfl rfl hCl ?hy230 (fun hCl' => ?_)
                case hy230 => (intro w hSw; refine T.qVal ?_ hSw; (try dsimp only [List.getElem_toArray, List.getElem_cons_succ, List.getElem_cons_zero]); go_simp; try with_reducible rfl)
                simp only [Act.put, List.setIfInBounds_toArray, List.set_cons_zero, List.set_cons_succ]; replace hCl := hCl'; clear hCl'
                refine T.qT 2 (some 150) ?v231 rfl rfl hCl ?hy231 (fun hCl' => ?_)
                case hy231 => (intro w hSw; refine T.qVal ?_ hSw; (try dsimp only [List.getElem_toArray, List.getElem_cons_succ, List.getElem_cons_zero]); go_simp; try with_reducible rfl)
                simp only [Act.put, List.setIfInBounds_toArray, List.set_cons_zero, List.set_cons_succ]; replace hCl := hCl'; clear hCl'
                refine T.qT 1 (some 149) ?v232 rfl rfl hCl ?hy232 (fun hCl' => ?_)
                case hy232 => (intro w hSw; refine T.qVal ?_ hSw; (try dsimp only [List.getElem_toArray, List.getElem_cons_succ, List.getElem_cons_zero]); go_simp; try with_reducible rfl)
                simp only [Act.put, List.setIfInBounds_toArray, List.set_cons_zero, List.set_cons_succ]; replace hCl := hCl'; clear hCl'
                refine T.qT 3 (some 151) ?v233 rfl rfl hCl ?hy233 (fun hCl' => ?_)
                case hy233 => (intro w hSw; refine T.qVal ?_ hSw; (try dsimp only [List.getElem_toArray, List.getElem_cons_succ, List.getElem_cons_zero]); go_simp; try with_reducible rfl)
                simp only [Act.put, List.setIfInBounds_toArray, List.set_cons_zero, List.set_cons_succ]; replace hCl := hCl'; clear hCl'
                refine T.qT 4 (some 152) ?v234 rfl rfl hCl ?hy234 (fun hCl' => ?_)
                case hy234 => (intro w hSw; refine T.qVal ?_ hSw; (try dsimp only [List.getElem_toArray, List.getElem_cons_succ, List.getElem_cons_zero]); go_simp; try with_reducible rfl)
                simp only [Act.put, List.setIfInBounds_toArray, List.set_cons_zero, List.set_cons_succ]; replace hCl := hCl'; clear hCl'
                refine T.qT 5 (some 153) ?v235 rfl rfl hCl ?hy235 (fun hCl' => ?_)
                case hy235 => (intro w hSw; refine T.qVal ?_ hSw; (try dsimp only [List.getElem_toArray, List.getElem_cons_succ, List.getElem_cons_zero]); go_simp; try with_reducible rfl)
                simp only [Act.put, List.setIfInBounds_toArray, List.set_cons_zero, List.set_cons_succ]; replace hCl := hCl'; clear hCl'
                refine T.qT 6 (some 154) ?v236 rfl rfl hCl ?hy236 (fun hCl' => ?_)
                case hy236 => (intro w hSw; refine T.qVal ?_ hSw; (try dsimp only [List.getElem_toArray, List.getElem_cons_succ, List.getElem_cons_zero]); go_simp; try with_reducible rfl)
                simp only [Act.put, List.setIfInBounds_toArray, List.set_cons_zero, List.set_cons_succ]; replace hCl := hCl'; clear hCl'
                refine T.qT 8 (some 156) ?v237 rfl rfl hCl ?hy237 (fun hCl' => ?_)
                case hy237 => (intro w hSw; refine T.qVal ?_ hSw; (try dsimp only [List.getElem_toArray, List.getElem_cons_succ, List.getElem_cons_zero]); go_simp; try with_reducible rfl)
                simp only [Act.put, List.setIfInBounds_toArray, List.set_cons_zero, List.set_cons_succ]; replace hCl := hCl'; clear hCl'
                refine T.qT 11 (some 159) ?v238 rfl rfl hCl ?hy238 (fun hCl' => ?_)
                case hy238 => (intro w hSw; refine T.qVal ?_ hSw; (try dsimp only [List.getElem_toArray, List.getElem_cons_succ, List.getElem_cons_zero]); go_simp; try with_reducible rfl)
                simp only [Act.put, List.setIfInBounds_toArray, List.set_cons_zero, List.set_cons_succ]; replace hCl := hCl'; clear hCl'
                refine T.qT 12 (some 160) ?v239 rfl rfl hCl ?hy239 (fun hCl' => ?_)
                case hy239 => (intro w hSw; refine T.qVal ?_ hSw; (try dsimp only [List.getElem_toArray, List.getElem_cons_succ, List.getElem_cons_zero]); go_simp; try with_reducible rfl)
                simp only [Act.put, List.setIfInBounds_toArray, List.set_cons_zero, List.set_cons_succ]; replace hCl := hCl'; clear hCl'
                refine T.qT 7 (some 155) ?v240 rfl rfl hCl ?hy240 (fun hCl' => ?_)
                case hy240 => (intro w hSw; refine T.qVal ?_ hSw; (have fF130 := F130.out w hSw; have fF131 := F131.out w hSw; have fF132 := F132.out w hSw; have fF133 := F133.out w hSw; obtain ⟨fd0, fd1⟩ := Hcq.out _ (HU.out.trans hSw)); (try dsimp only [List.getElem_toArray, List.getElem_cons_succ, List.getElem_cons_zero]); go_simp; try with_reducible rfl)
                simp only [Act.put, List.setIfInBounds_toArray, List.set_cons_zero, List.set_cons_succ]; replace hCl := hCl'; clear hCl'
                refine T.qT 13 (some 161) ?v241 rfl rfl hCl ?hy241 (fun hCl' => ?_)
                case hy241 => (intro w hSw; refine T.qVal ?_ hSw; (try dsimp only [List.getElem_toArray, List.getElem_cons_succ, List.getElem_cons_zero]); go_simp; try with_reducible rfl)
                simp only [Act.put, List.setIfInBounds_toArray, List.set_cons_zero, List.set_cons_succ]; replace hCl := hCl'; clear hCl'
                refine T.qT 9 (some 157) ?v242 rfl rfl hCl ?hy242 (fun hCl' => ?_)
                case hy242 => (intro w hSw; refine T.qVal ?_ hSw; (try dsimp only [List.getElem_toArray, List.getElem_cons_succ, List.getElem_cons_zero]); go_simp; try with_reducible rfl)
                simp only [Act.put, List.setIfInBounds_toArray, List.set_cons_zero, List.set_cons_succ]; replace hCl := hCl'; clear hCl'
                refine T.qT 14 (some 162) ?v243 rfl rfl hCl ?hy243 (fun hCl' => ?_)
                case hy243 => (intro w hSw; refine T.qVal ?_ hSw; (have fF130 := F130.out w hSw; have fF131 := F131.out w hSw; have fF132 := F132.out w hSw; have fF133 := F133.out w hSw; obtain ⟨fd0, fd1⟩ := Hcq.out _ (HU.out.trans hSw)); (try dsimp only [List.getElem_toArray, List.getElem_cons_succ, List.getElem_cons_zero]); go_simp; try with_reducible rfl)
                simp only [Act.put, List.setIfInBounds_toArray, List.set_cons_zero, List.set_cons_succ]; replace hCl := hCl'; clear hCl'
                refine T.qT 10 (some 158) ?v244 rfl rfl hCl ?hy244 (fun hCl' => ?_)
                case hy244 => (intro w hSw; refine T.qVal ?_ hSw; (have fF130 := F130.out w hSw; have fF131 := F131.out w hSw; have fF132 := F132.out w hSw; have fF133 := F133.out w hSw; obtain ⟨fd0, fd1⟩ := Hcq.out _ (HU.out.trans hSw)); (try dsimp only [List.getElem_toArray, List.getElem_cons_succ, List.getElem_cons_zero]); go_simp; try with_reducible rfl)
                simp only [Act.put, List.setIfInBounds_toArray, List.set_cons_zero, List.set_cons_succ]; replace hCl := hCl'; clear hCl'
                refine T.qT 15 (some 163) ((.bool false)) rfl rfl hCl ?hy245 (fun hCl' => ?_)
                case hy245 => (intro w hSw; (have fF130 := F130.out w hSw; have fF131 := F131.out w hSw; have fF132 := F132.out w hSw; have fF133 := F133.out w hSw; obtain ⟨fd0, fd1⟩ := Hcq.out _ (HU.out.trans hSw)); (try dsimp only [List.getElem_toArray, List.getElem_cons_succ, List.getElem_cons_zero]); go_simp; (refine (callsIn_wide.2 (HHa.out w)).mono ?_; rintro e w3 ⟨rfl, u3⟩; exact ⟨rfl, hSw.trans u3⟩))
                simp only [Act.put, List.setIfInBounds_toArray, List.set_cons_zero, List.set_cons_succ]
                replace hCl := hCl'; clear hCl'
                refine T.tail_intro (by kernel_rfl) (fun Y129 hY129 => ?_)
                replace U := U.trans hY129
                replace kB := hY129.blk kB
                replace kN := hY129.blk kN
                replace ksq := hY129.blk ksq
                replace kEq := hY129.blk kEq
                clear F130 F131 F132 F133 hY129
                refine lastG (i := 16) (by kernel_rfl) rfl (by rfl) (by decide) (fun K hK => ?_)
                go_simp
                refine hK.out _ _ ?_
                clear hK K
                refine doneG (by kernel_rfl) ?_ _
                refine S.nrm_intro ?_
                clear HU HHa
                go_wp2_with fail
                go_roundw
                case rel => exact ⟨j + 1, by omega, by go_num, U, kB, kN, ksq, kEq⟩
                case measure => (simp only [intOf]; omega)
              · skip
                have he0 : (ex == 0) = false := by rw [beq_eq_false_iff_ne]; exact he
                have dj : decide ((j : Int) < 2) = true := decide_eq_true (by omega)
                have ij : (j : Int) < 2 := by omega
                have hin : inB (T.ends lq uq j) t0 t1 = false := by
                  rw [Bool.eq_false_iff]
                  intro q
                  have q' := HX.out (by rw [HSSq.out]; exact inB_iff.1 q)
                  omega
                have HHa := Lib.hid (fun w => show Calls Try.prog 40 #[SpV t0 t1, .int .i64 (T.ends lq uq j)] w fun e w' => e = .returned (.bool false) ∧ Up w w' by rw [← hin]; exact B_Has_any _ _ _ w)
                have HU := Lib.hid U
                clear hin
                clear HX hj2 he
                have F130 := Lib.hid (fun w (u : Up Z108 w) => u.blk kB)
                have F131 := Lib.hid (fun w (u : Up Z108 w) => u.blk kN)
                have F132 := Lib.hid (fun w (u : Up Z108 w) => u.blk ksq)
                have F133 := Lib.hid (fun w (u : Up Z108 w) => u.blk kEq)
                refine (wpIn_wide (n := 5)).1 ?_
                refine wpIn_nrm ?_
                refine T.regionQ (fun w' => Up Z108 w') 16 1 hmx (by kernel_rfl) (by kernel_rfl) ((Up.refl Z108).drew) (fun hCl => ?_)
                refine T.qT 0 (some 148) ?v246 rfl rfl hCl ?hy246 (fun hCl' => ?_)
                case hy246 => (intro w hSw; refine T.qVal ?_ hSw; (try dsimp only [List.getElem_toArray, List.getElem_cons_succ, List.getElem_cons_zero]); go_simp; try with_reducible rfl)
                simp only [Act.put, List.setIfInBounds_toArray, List.set_cons_zero, List.set_cons_succ]; replace hCl := hCl'; clear hCl'
                refine T.qT 2 (some 150) ?v247 rfl rfl hCl ?hy247 (fun hCl' => ?_)
                case hy247 => (intro w hSw; refine T.qVal ?_ hSw; (try dsimp only [List.getElem_toArray, List.getElem_cons_succ, List.getElem_cons_zero]); go_simp; try with_reducible rfl)
                simp only [Act.put, List.setIfInBounds_toArray, List.set_cons_zero, List.set_cons_succ]; replace hCl := hCl'; clear hCl'
                refine T.qT 1 (some 149) ?v248 rfl rfl hCl ?hy248 (fun hCl' => ?_)
                case hy248 => (intro w hSw; refine T.qVal ?_ hSw; (try dsimp only [List.getElem_toArray, List.getElem_cons_succ, List.getElem_cons_zero]); go_simp; try with_reducible rfl)
                simp only [Act.put, List.setIfInBounds_toArray, List.set_cons_zero, List.set_cons_succ]; replace hCl := hCl'; clear hCl'
                refine T.qT 3 (some 151) ?v249 rfl rfl hCl ?hy249 (fun hCl' => ?_)
                case hy249 => (intro w hSw; refine T.qVal ?_ hSw; (try dsimp only [List.getElem_toArray, List.getElem_cons_succ, List.getElem_cons_zero]); go_simp; try with_reducible rfl)
                simp only [Act.put, List.setIfInBounds_toArray, List.set_cons_zero, List.set_cons_succ]; replace hCl := hCl'; clear hCl'
                refine T.qT 4 (some 152) ?v250 rfl rfl hCl ?hy250 (fun hCl' => ?_)
                case hy250 => (intro w hSw; refine T.qVal ?_ hSw; (try dsimp only [List.getElem_toArray, List.getElem_cons_succ, List.getElem_cons_zero]); go_simp; try with_reducible rfl)
                simp only [Act.put, List.setIfInBounds_toArray, List.set_cons_zero, List.set_cons_succ]; replace hCl := hCl'; clear hCl'
                refine T.qT 5 (some 153) ?v251 rfl rfl hCl ?hy251 (fun hCl' => ?_)
                case hy251 => (intro w hSw; refine T.qVal ?_ hSw; (try dsimp only [List.getElem_toArray, List.getElem_cons_succ, List.getElem_cons_zero]); go_simp; try with_reducible rfl)
                simp only [Act.put, List.setIfInBounds_toArray, List.set_cons_zero, List.set_cons_succ]; replace hCl := hCl'; clear hCl'
                refine T.qT 6 (some 154) ?v252 rfl rfl hCl ?hy252 (fun hCl' => ?_)
                case hy252 => (intro w hSw; refine T.qVal ?_ hSw; (try dsimp only [List.getElem_toArray, List.getElem_cons_succ, List.getElem_cons_zero]); go_simp; try with_reducible rfl)
                simp only [Act.put, List.setIfInBounds_toArray, List.set_cons_zero, List.set_cons_succ]; replace hCl := hCl'; clear hCl'
                refine T.qT 8 (some 156) ?v253 rfl rfl hCl ?hy253 (fun hCl' => ?_)
                case hy253 => (intro w hSw; refine T.qVal ?_ hSw; (try dsimp only [List.getElem_toArray, List.getElem_cons_succ, List.getElem_cons_zero]); go_simp; try with_reducible rfl)
                simp only [Act.put, List.setIfInBounds_toArray, List.set_cons_zero, List.set_cons_succ]; replace hCl := hCl'; clear hCl'
                refine T.qT 11 (some 159) ?v254 rfl rfl hCl ?hy254 (fun hCl' => ?_)
                case hy254 => (intro w hSw; refine T.qVal ?_ hSw; (try dsimp only [List.getElem_toArray, List.getElem_cons_succ, List.getElem_cons_zero]); go_simp; try with_reducible rfl)
                simp only [Act.put, List.setIfInBounds_toArray, List.set_cons_zero, List.set_cons_succ]; replace hCl := hCl'; clear hCl'
                refine T.qT 12 (some 160) ?v255 rfl rfl hCl ?hy255 (fun hCl' => ?_)
                case hy255 => (intro w hSw; refine T.qVal ?_ hSw; (try dsimp only [List.getElem_toArray, List.getElem_cons_succ, List.getElem_cons_zero]); go_simp; try with_reducible rfl)
                simp only [Act.put, List.setIfInBounds_toArray, List.set_cons_zero, List.set_cons_succ]; replace hCl := hCl'; clear hCl'
                refine T.qT 7 (some 155) ?v256 rfl rfl hCl ?hy256 (fun hCl' => ?_)
                case hy256 => (intro w hSw; refine T.qVal ?_ hSw; (have fF130 := F130.out w hSw; have fF131 := F131.out w hSw; have fF132 := F132.out w hSw; have fF133 := F133.out w hSw; obtain ⟨fd0, fd1⟩ := Hcq.out _ (HU.out.trans hSw)); (try dsimp only [List.getElem_toArray, List.getElem_cons_succ, List.getElem_cons_zero]); go_simp; try with_reducible rfl)
                simp only [Act.put, List.setIfInBounds_toArray, List.set_cons_zero, List.set_cons_succ]; replace hCl := hCl'; clear hCl'
                refine T.qT 13 (some 161) ?v257 rfl rfl hCl ?hy257 (fun hCl' => ?_)
                case hy257 => (intro w hSw; refine T.qVal ?_ hSw; (try dsimp only [List.getElem_toArray, List.getElem_cons_succ, List.getElem_cons_zero]); go_simp; try with_reducible rfl)
                simp only [Act.put, List.setIfInBounds_toArray, List.set_cons_zero, List.set_cons_succ]; replace hCl := hCl'; clear hCl'
                refine T.qT 9 (some 157) ?v258 rfl rfl hCl ?hy258 (fun hCl' => ?_)
                case hy258 => (intro w hSw; refine T.qVal ?_ hSw; (try dsimp only [List.getElem_toArray, List.getElem_cons_succ, List.getElem_cons_zero]); go_simp; try with_reducible rfl)
                simp only [Act.put, List.setIfInBounds_toArray, List.set_cons_zero, List.set_cons_succ]; replace hCl := hCl'; clear hCl'
                refine T.qT 14 (some 162) ?v259 rfl rfl hCl ?hy259 (fun hCl' => ?_)
                case hy259 => (intro w hSw; refine T.qVal ?_ hSw; (have fF130 := F130.out w hSw; have fF131 := F131.out w hSw; have fF132 := F132.out w hSw; have fF133 := F133.out w hSw; obtain ⟨fd0, fd1⟩ := Hcq.out _ (HU.out.trans hSw)); (try dsimp only [List.getElem_toArray, List.getElem_cons_succ, List.getElem_cons_zero]); go_simp; try with_reducible rfl)
                simp only [Act.put, List.setIfInBounds_toArray, List.set_cons_zero, List.set_cons_succ]; replace hCl := hCl'; clear hCl'
                refine T.qT 10 (some 158) ?v260 rfl rfl hCl ?hy260 (fun hCl' => ?_)
                case hy260 => (intro w hSw; refine T.qVal ?_ hSw; (have fF130 := F130.out w hSw; have fF131 := F131.out w hSw; have fF132 := F132.out w hSw; have fF133 := F133.out w hSw; obtain ⟨fd0, fd1⟩ := Hcq.out _ (HU.out.trans hSw)); (try dsimp only [List.getElem_toArray, List.getElem_cons_succ, List.getElem_cons_zero]); go_simp; try with_reducible rfl)
                simp only [Act.put, List.setIfInBounds_toArray, List.set_cons_zero, List.set_cons_succ]; replace hCl := hCl'; clear hCl'
                refine T.qT 15 (some 163) ((.bool false)) rfl rfl hCl ?hy261 (fun hCl' => ?_)
                case hy261 => (intro w hSw; (have fF130 := F130.out w hSw; have fF131 := F131.out w hSw; have fF132 := F132.out w hSw; have fF133 := F133.out w hSw; obtain ⟨fd0, fd1⟩ := Hcq.out _ (HU.out.trans hSw)); (try dsimp only [List.getElem_toArray, List.getElem_cons_succ, List.getElem_cons_zero]); go_simp; (refine (callsIn_wide.2 (HHa.out w)).mono ?_; rintro e w3 ⟨rfl, u3⟩; exact ⟨rfl, hSw.trans u3⟩))
                simp only [Act.put, List.setIfInBounds_toArray, List.set_cons_zero, List.set_cons_succ]
                replace hCl := hCl'; clear hCl'
                refine T.tail_intro (by kernel_rfl) (fun Y129 hY129 => ?_)
                replace U := U.trans hY129
                replace kB := hY129.blk kB
                replace kN := hY129.blk kN
                replace ksq := hY129.blk ksq
                replace kEq := hY129.blk kEq
                clear F130 F131 F132 F133 hY129
                refine lastG (i := 16) (by kernel_rfl) rfl (by rfl) (by decide) (fun K hK => ?_)
                go_simp
                refine hK.out _ _ ?_
                clear hK K
                refine doneG (by kernel_rfl) ?_ _
                refine S.nrm_intro ?_
                clear HU HHa
                go_wp2_with fail
                go_roundw
                case rel => exact ⟨j + 1, by omega, by go_num, U, kB, kN, ksq, kEq⟩
                case measure => (simp only [intOf]; omega)
              · skip
                have he0 : (ex == 0) = false := by rw [beq_eq_false_iff_ne]; exact he
                have dj : decide ((j : Int) < 2) = false := decide_eq_false (by omega)
                have ij : ¬ (j : Int) < 2 := by omega
                clear HX hj2 he
                have F130 := Lib.hid (fun w (u : Up Z108 w) => u.blk kB)
                have F131 := Lib.hid (fun w (u : Up Z108 w) => u.blk kN)
                have F132 := Lib.hid (fun w (u : Up Z108 w) => u.blk ksq)
                have F133 := Lib.hid (fun w (u : Up Z108 w) => u.blk kEq)
                refine (wpIn_wide (n := 5)).1 ?_
                refine wpIn_nrm ?_
                refine T.regionQ (fun w' => Up Z108 w') 16 1 hmx (by kernel_rfl) (by kernel_rfl) ((Up.refl Z108).drew) (fun hCl => ?_)
                refine T.qT 0 (some 148) ?v262 rfl rfl hCl ?hy262 (fun hCl' => ?_)
                case hy262 => (intro w hSw; refine T.qVal ?_ hSw; (try dsimp only [List.getElem_toArray, List.getElem_cons_succ, List.getElem_cons_zero]); go_simp; try with_reducible rfl)
                simp only [Act.put, List.setIfInBounds_toArray, List.set_cons_zero, List.set_cons_succ]; replace hCl := hCl'; clear hCl'
                refine T.qT 2 (some 150) ?v263 rfl rfl hCl ?hy263 (fun hCl' => ?_)
                case hy263 => (intro w hSw; refine T.qVal ?_ hSw; (try dsimp only [List.getElem_toArray, List.getElem_cons_succ, List.getElem_cons_zero]); go_simp; try with_reducible rfl)
                simp only [Act.put, List.setIfInBounds_toArray, List.set_cons_zero, List.set_cons_succ]; replace hCl := hCl'; clear hCl'
                refine T.qT 1 (some 149) ?v264 rfl rfl hCl ?hy264 (fun hCl' => ?_)
                case hy264 => (intro w hSw; refine T.qVal ?_ hSw; (try dsimp only [List.getElem_toArray, List.getElem_cons_succ, List.getElem_cons_zero]); go_simp; try with_reducible rfl)
                simp only [Act.put, List.setIfInBounds_toArray, List.set_cons_zero, List.set_cons_succ]; replace hCl := hCl'; clear hCl'
                refine T.qT 3 (some 151) ?v265 rfl rfl hCl ?hy265 (fun hCl' => ?_)
                case hy265 => (intro w hSw; refine T.qVal ?_ hSw; (try dsimp only [List.getElem_toArray, List.getElem_cons_succ, List.getElem_cons_zero]); go_simp; try with_reducible rfl)
                simp only [Act.put, List.setIfInBounds_toArray, List.set_cons_zero, List.set_cons_succ]; replace hCl := hCl'; clear hCl'
                refine T.qT 4 (some 152) ?v266 rfl rfl hCl ?hy266 (fun hCl' => ?_)
                case hy266 => (intro w hSw; refine T.qVal ?_ hSw; (try dsimp only [List.getElem_toArray, List.getElem_cons_succ, List.getElem_cons_zero]); go_simp; try with_reducible rfl)
                simp only [Act.put, List.setIfInBounds_toArray, List.set_cons_zero, List.set_cons_succ]; replace hCl := hCl'; clear hCl'
                refine T.qT 5 (some 153) ?v267 rfl rfl hCl ?hy267 (fun hCl' => ?_)
                case hy267 => (intro w hSw; refine T.qVal ?_ hSw; (try dsimp only [List.getElem_toArray, List.getElem_cons_succ, List.getElem_cons_zero]); go_simp; try with_reducible rfl)
                simp only [Act.put, List.setIfInBounds_toArray, List.set_cons_zero, List.set_cons_succ]; replace hCl := hCl'; clear hCl'
                refine T.qS 6 (some 154) rfl rfl hCl (fun hCl' => ?_)
                simp only [Act.put, List.setIfInBounds_toArray, List.set_cons_zero, List.set_cons_succ]; replace hCl := hCl'; clear hCl'
                refine T.qS 8 (some 156) rfl rfl hCl (fun hCl' => ?_)
                simp only [Act.put, List.setIfInBounds_toArray, List.set_cons_zero, List.set_cons_succ]; replace hCl := hCl'; clear hCl'
                refine T.qS 11 (some 159) rfl rfl hCl (fun hCl' => ?_)
                simp only [Act.put, List.setIfInBounds_toArray, List.set_cons_zero, List.set_cons_succ]; replace hCl := hCl'; clear hCl'
                refine T.qS 12 (some 160) rfl rfl hCl (fun hCl' => ?_)
                simp only [Act.put, List.setIfInBounds_toArray, List.set_cons_zero, List.set_cons_succ]; replace hCl := hCl'; clear hCl'
                refine T.qS 7 (some 155) rfl rfl hCl (fun hCl' => ?_)
                simp only [Act.put, List.setIfInBounds_toArray, List.set_cons_zero, List.set_cons_succ]; replace hCl := hCl'; clear hCl'
                refine T.qS 13 (some 161) rfl rfl hCl (fun hCl' => ?_)
                simp only [Act.put, List.setIfInBounds_toArray, List.set_cons_zero, List.set_cons_succ]; replace hCl := hCl'; clear hCl'
                refine T.qS 9 (some 157) rfl rfl hCl (fun hCl' => ?_)
                simp only [Act.put, List.setIfInBounds_toArray, List.set_cons_zero, List.set_cons_succ]; replace hCl := hCl'; clear hCl'
                refine T.qS 14 (some 162) rfl rfl hCl (fun hCl' => ?_)
                simp only [Act.put, List.setIfInBounds_toArray, List.set_cons_zero, List.set_cons_succ]; replace hCl := hCl'; clear hCl'
                refine T.qS 10 (some 158) rfl rfl hCl (fun hCl' => ?_)
                simp only [Act.put, List.setIfInBounds_toArray, List.set_cons_zero, List.set_cons_succ]; replace hCl := hCl'; clear hCl'
                refine T.qS 15 (some 163) rfl rfl hCl (fun hCl' => ?_)
                simp only [Act.put, List.setIfInBounds_toArray, List.set_cons_zero, List.set_cons_succ]; replace hCl := hCl'; clear hCl'
                refine T.tail_intro (by kernel_rfl) (fun Y129 hY129 => ?_)
                replace U := U.trans hY129
                replace kB := hY129.blk kB
                replace kN := hY129.blk kN
                replace ksq := hY129.blk ksq
                replace kEq := hY129.blk kEq
                clear F130 F131 F132 F133 hY129
                refine lastG (i := 16) (by kernel_rfl) rfl (by rfl) (by decide) (fun K hK => ?_)
                go_simp
                refine hK.out _ _ ?_
                clear hK K
                refine doneG (by kernel_rfl) ?_ _
                refine S.nrm_intro ?_
                go_wp2_with fail
                go_roundw
                case rel => exact ⟨j + 1, by omega, by go_num, U, kB, kN, ksq, kEq⟩
                case measure => (simp only [intOf]; omega)
            · skip
              obtain rfl : j = 4 := by omega
              have dk : decide (((4 : Nat) : Int) < 4) = false := by decide
              clear hj hlt
              clear ksq kEq
              go_wp2_with fail
              refine (HW.out _).mono ?_
              rintro e x308 ⟨rfl, u309⟩
              replace U := U.trans u309
              replace kB := u309.blk kB
              replace kN := u309.blk kN
              clear u309 
              go_wp2
              go_ret
              exact ⟨rfl, U⟩
        · skip
          clear tq
          go_wp2_with fail
          refine (HRq.out _).mono ?_
          rintro e x3 ⟨rfl, rfl⟩
          clear HRq
          go_wp2_with fail
          refine (Cq.out _ U).mono ?_
          rintro e x4 ⟨rfl, u5⟩
          replace U := U.trans u5
          replace kB := u5.blk kB
          replace kN := u5.blk kN
          clear u5 
          have dkBksq := blk_lt kB
          have dkNksq := blk_lt kN
          have gksq := U.size
          have ksq := blk_new x4 (.cells #[.int .i64 0, .int .i64 0] 23) _ rfl
          replace kB := blk_keep (.cells #[.int .i64 0, .int .i64 0] 23) kB
          replace kN := blk_keep (.cells #[.int .i64 0, .int .i64 0] 23) kN
          replace U := U.alloc (.cells #[.int .i64 0, .int .i64 0] 23)
          go_wp2_with fail
          obtain ⟨pksq, hpksq⟩ : ∃ z, x4.heap.size = z := ⟨_, rfl⟩
          obtain ⟨W6, hW6⟩ : ∃ z, x4.alloc (.cells #[.int .i64 0, .int .i64 0] 23) = z := ⟨_, rfl⟩
          rw [hpksq] at ksq dkBksq dkNksq gksq
          rw [hW6] at ksq U kB kN
          rw [hW6, hpksq]
          go_wp2_with fail
          clear hpksq hW6
          have F8 := Lib.hid (fun w (u : Up W6 w) => cellB (u.blk kB))
          have F9 := Lib.hid (fun w (u : Up W6 w) => cellB (u.blk kN))
          have F10 := Lib.hid (fun w (u : Up W6 w) => cellB (u.blk ksq))
          refine (wpIn_wide (n := 5)).1 ?_
          refine wpIn_nrm ?_
          refine T.regionQ (fun w' => Up W6 w') 10 1 hmx (by kernel_rfl) (by kernel_rfl) ((Up.refl W6).drew) (fun hCl => ?_)
          refine T.qT 0 (some 112) ?v278 rfl rfl hCl ?hy278 (fun hCl' => ?_)
          case hy278 => (intro w hSw; refine T.qVal ?_ hSw; (try dsimp only [List.getElem_toArray, List.getElem_cons_succ, List.getElem_cons_zero]); go_simp; try with_reducible rfl)
          simp only [Act.put, List.setIfInBounds_toArray, List.set_cons_zero, List.set_cons_succ]; replace hCl := hCl'; clear hCl'
          refine T.qT 1 (some 113) ?v279 rfl rfl hCl ?hy279 (fun hCl' => ?_)
          case hy279 => (intro w hSw; refine T.qVal ?_ hSw; (try dsimp only [List.getElem_toArray, List.getElem_cons_succ, List.getElem_cons_zero]); go_simp; try with_reducible rfl)
          simp only [Act.put, List.setIfInBounds_toArray, List.set_cons_zero, List.set_cons_succ]; replace hCl := hCl'; clear hCl'
          refine T.qT 2 (some 114) ?v280 rfl rfl hCl ?hy280 (fun hCl' => ?_)
          case hy280 => (intro w hSw; refine T.qVal ?_ hSw; (try dsimp only [List.getElem_toArray, List.getElem_cons_succ, List.getElem_cons_zero]); go_simp; try with_reducible rfl)
          simp only [Act.put, List.setIfInBounds_toArray, List.set_cons_zero, List.set_cons_succ]; replace hCl := hCl'; clear hCl'
          refine T.qT 3 (some 115) ?v281 rfl rfl hCl ?hy281 (fun hCl' => ?_)
          case hy281 => (intro w hSw; refine T.qVal ?_ hSw; (have fF8 := F8.out w hSw; have fF9 := F9.out w hSw; have fF10 := F10.out w hSw); (try dsimp only [List.getElem_toArray, List.getElem_cons_succ, List.getElem_cons_zero]); go_simp; try with_reducible rfl)
          simp only [Act.put, List.setIfInBounds_toArray, List.set_cons_zero, List.set_cons_succ]; replace hCl := hCl'; clear hCl'
          refine T.qT 4 (some 116) ((SpV 0 0)) rfl rfl hCl ?hy282 (fun hCl' => ?_)
          case hy282 => (intro w hSw; (have fF8 := F8.out w hSw; have fF9 := F9.out w hSw; have fF10 := F10.out w hSw); (try dsimp only [List.getElem_toArray, List.getElem_cons_succ, List.getElem_cons_zero]); go_simp; (refine (callsIn_wide.2 (HTo.out 0 0 w)).mono ?_; rintro e w3 ⟨rfl, u3⟩; exact ⟨rfl, hSw.trans u3⟩))
          simp only [Act.put, List.setIfInBounds_toArray, List.set_cons_zero, List.set_cons_succ]
          replace hCl := hCl'; clear hCl'
          refine T.qT 5 (some 117) ?v283 rfl rfl hCl ?hy283 (fun hCl' => ?_)
          case hy283 => (intro w hSw; refine T.qVal ?_ hSw; (try dsimp only [List.getElem_toArray, List.getElem_cons_succ, List.getElem_cons_zero]); go_simp; try with_reducible rfl)
          simp only [Act.put, List.setIfInBounds_toArray, List.set_cons_zero, List.set_cons_succ]; replace hCl := hCl'; clear hCl'
          refine T.qT 6 (some 118) ?v284 rfl rfl hCl ?hy284 (fun hCl' => ?_)
          case hy284 => (intro w hSw; refine T.qVal ?_ hSw; (try dsimp only [List.getElem_toArray, List.getElem_cons_succ, List.getElem_cons_zero]); go_simp; try with_reducible rfl)
          simp only [Act.put, List.setIfInBounds_toArray, List.set_cons_zero, List.set_cons_succ]; replace hCl := hCl'; clear hCl'
          refine T.qT 7 (some 119) ?v285 rfl rfl hCl ?hy285 (fun hCl' => ?_)
          case hy285 => (intro w hSw; refine T.qVal ?_ hSw; (try dsimp only [List.getElem_toArray, List.getElem_cons_succ, List.getElem_cons_zero]); go_simp; try with_reducible rfl)
          simp only [Act.put, List.setIfInBounds_toArray, List.set_cons_zero, List.set_cons_succ]; replace hCl := hCl'; clear hCl'
          refine T.qT 8 (some 120) ((.bool true)) rfl rfl hCl ?hy286 (fun hCl' => ?_)
          case hy286 => (intro w hSw; (have fF8 := F8.out w hSw; have fF9 := F9.out w hSw; have fF10 := F10.out w hSw); (try dsimp only [List.getElem_toArray, List.getElem_cons_succ, List.getElem_cons_zero]); go_simp; (refine (callsIn_wide.2 (HW.out w)).mono ?_; rintro e w3 ⟨rfl, u3⟩; exact ⟨rfl, hSw.trans u3⟩))
          simp only [Act.put, List.setIfInBounds_toArray, List.set_cons_zero, List.set_cons_succ]
          replace hCl := hCl'; clear hCl'
          refine T.qT 9 (some 121) ?v287 rfl rfl hCl ?hy287 (fun hCl' => ?_)
          case hy287 => (intro w hSw; refine T.qVal ?_ hSw; (try dsimp only [List.getElem_toArray, List.getElem_cons_succ, List.getElem_cons_zero]); go_simp; try with_reducible rfl)
          simp only [Act.put, List.setIfInBounds_toArray, List.set_cons_zero, List.set_cons_succ]; replace hCl := hCl'; clear hCl'
          refine T.tail_intro (by kernel_rfl) (fun Y7 hY7 => ?_)
          replace U := U.trans hY7
          replace kB := hY7.blk kB
          replace kN := hY7.blk kN
          replace ksq := hY7.blk ksq
          clear F8 F9 F10 hY7
          refine lastG (i := 10) (by kernel_rfl) rfl (by rfl) (by decide) (fun K hK => ?_)
          go_simp
          refine hK.out _ _ ?_
          clear hK K
          refine doneG (by kernel_rfl) ?_ _
          refine S.nrm_intro ?_
          go_wp2
          go_ret
          exact ⟨rfl, U⟩
      · skip
        have dq1 : decide ((qs.length : Int) > 0) = false := decide_eq_false (by omega)
        have iq1 : ¬ (0 : Int) < (qs.length : Int) := by omega
        clear hq0
        go_wp2_with fail
        refine (HW.out _).mono ?_
        rintro e x3 ⟨rfl, u4⟩
        replace U := U.trans u4
        replace kB := u4.blk kB
        replace kN := u4.blk kN
        clear u4 
        go_wp2
        go_ret
        exact ⟨rfl, U⟩
end

end Go.Proofs.Ytlpkheoljbdajaa
