import Derived.Test.YtlpkheoljbdajaaWaS
import Derived.Test.YtlpkheoljbdajaaFws
import Derived.Test.YtlpkheoljbdajaaLsW
import Derived.Test.YtlpkheoljbdajaaLws
import Derived.Test.YtlpkheoljbdajaaHeQ
/- The law StarTrue. -/
namespace Go.Proofs.Ytlpkheoljbdajaa
open Go.RowKit Go.Shelf
attribute [local go_sem] Oper.semAt_some

section
variable {bl bh rl rh : Int} {aP aQ aL : Option Addr} {nP cP nQ cQ nL cL : Nat} {ps qs : List (Int × Int)} {ls : List T.T5}
/-- no look of a book that can be true must be wrong -/
theorem Wrong_none {N : Nat} {w : World} (hv : T.valid (N : Int) bl bh rl rh ps qs ls = true) (hy : ∃ y, T.Tr N bl bh rl rh ps qs ls y) (I : Sps w (.slice aP nP cP) ps) (J : Sps w (.slice aQ nQ cQ) qs) (K : Lks w (.slice aL nL cL) ls) :
    Calls Try.prog 31 #[BoV (N : Int) bl bh rl rh (.slice aP nP cP) (.slice aQ nQ cQ) (.slice aL nL cL)] w fun e w' => (∃ a c, e = .returned (.tuple #[.slice a 0 c, .int .i64 0])) ∧ Up w w' := by
  obtain ⟨_, q, _⟩ := T.left hv rfl (t := fun _ => false) (fun _ _ => rfl)
  have h0 := q.2 hy
  refine (Wrong_ok I J K hv).mono ?_
  rintro e w' ⟨⟨v, rfl, IW⟩, u⟩
  obtain ⟨a, c, rfl, _⟩ := IW.is
  rw [h0]
  exact ⟨⟨a, c, rfl⟩, u⟩
set_option maxRecDepth 100000 in
set_option maxHeartbeats 8000000 in
theorem starTrue_any {M  : Int} {vx : Value} {xs : List Int} {w : World} (I : Sps w (.slice aP nP cP) ps) (J : Sps w (.slice aQ nQ cQ) qs) (K : Lks w (.slice aL nL cL) ls) (IX : Ints w vx xs) :
    Calls Try.prog 7 #[BoV M bl bh rl rh (.slice aP nP cP) (.slice aQ nQ cQ) (.slice aL nL cL), vx] w fun e w' => e = .returned (.bool true) ∧ Up w w' := by
  have U := ((Up.refl w).alloc (.cells (BoC M bl bh rl rh (.slice aP nP cP) (.slice aQ nQ cQ) (.slice aL nL cL)) 27))
  have HW := Lib.hid (fun w => l_works_any w)
  cases hv : T.valid M bl bh rl rh ps qs ls with
  | false =>
    have HS := Lib.hid (fun w' (u : Up w w') => l_sound_no (I.up u) (J.up u) (K.up u) hv)
    clear hv I J K IX
    go_enter Try.func7, Try.ntmps7
    go_wp2_with fail
    refine (HS.out _ U).mono ?_
    rintro e w1 ⟨rfl, u1⟩
    go_wp2_with fail
    refine (HW.out _).mono ?_
    rintro e w2 ⟨rfl, u2⟩
    go_wp2
    go_ret
    exact ⟨rfl, (U.trans u1).trans u2⟩
  | true =>
    obtain ⟨N, rfl⟩ := T.valid_N hv
    obtain ⟨⟨hN, hB, hR⟩, ⟨h4, h5, h10⟩, hP, hQ, hL⟩ := T.valid_parts hv
    have HS := Lib.hid (fun w' (u : Up w w') => l_sound_yes (I.up u) (J.up u) (K.up u) hv)
    have hn := I.len
    have hno := J.len
    have hnp := K.len
    have hmx : Try.prog.follows .mixedOrders = true := by kernel_rfl
    have HWs := Lib.hid (fun w' (u : Up w w') => l_was_any (I.up u) (J.up u) (K.up u) (IX.up u) hv)
    have HI := Lib.hid (fun w' (u : Up w w') => I.up u)
    have HJ := Lib.hid (fun w' (u : Up w w') => J.up u)
    have HPQ := Lib.hid (And.intro hP hQ)
    subst hn hno hnp
    clear hv I J K IX hP hQ hL hB hR
    go_enter Try.func7, Try.ntmps7
    obtain ⟨q0, e0⟩ : ∃ x, w.heap.size = x := ⟨_, rfl⟩
    have kB := (blk_new w (.cells (BoC (N : Int) bl bh rl rh (.slice aP ps.length cP) (.slice aQ qs.length cQ) (.slice aL ls.length cL)) 27) q0 e0.symm)
    go_wp2_with fail
    refine (HS.out _ U).mono ?_
    rintro e x1 ⟨rfl, u2⟩
    replace U := U.trans u2
    replace kB := u2.blk kB
    clear u2 HS
    go_wp2_with fail
    refine (HWs.out _ U).mono ?_
    rintro e x3 ⟨⟨y, ls', aO, aE, aA, aL', cO, cE, cA, cL', rfl, IL, IO, IE, IA, hv', hy, y0⟩, u4⟩
    replace U := U.trans u4
    replace kB := u4.blk kB
    clear u4 HWs
    have hI := HI.out _ U
    have hJ := HJ.out _ U
    have CI := Lib.hid (fun w' (u : Up x3 w') => IsTruth_told hv' hy y0 (hI.up u) (hJ.up u) (IL.up u) (IO.up u) (IE.up u) (IA.up u))
    have CW := Lib.hid (fun w' (u : Up x3 w') => Wrong_none hv' ⟨y, hy⟩ (hI.up u) (hJ.up u) (IL.up u))
    have HY := Lib.hid (And.intro hv' (And.intro hy y0))
    have HL3 := Lib.hid (fun w' (u : Up x3 w') => And.intro (IO.up u) (And.intro (IE.up u) (IA.up u)))
    have HB3 := Lib.hid (fun w' (u : Up x3 w') => And.intro (hI.up u) (And.intro (hJ.up u) (IL.up u)))
    have Ux := Up.refl x3
    clear hI hJ IL IO IE IA hv' hy y0
    obtain ⟨qt, hqt⟩ : ∃ z, x3.heap.size = z := ⟨_, rfl⟩
    have lq : q0 < qt := by have := blk_lt kB; omega
    have kt := blk_keep (.cells (BoC (N : Int) bl bh rl rh (.slice aP ps.length cP) (.slice aQ qs.length cQ) (.slice aL' ls'.length cL')) 27) (blk_new x3 (.cells #[.slice aO N cO, .slice aE ps.length cE, .slice aA qs.length cA] 30) qt hqt.symm)
    have ky := blk_new (x3.alloc (.cells #[.slice aO N cO, .slice aE ps.length cE, .slice aA qs.length cA] 30)) (.cells (BoC (N : Int) bl bh rl rh (.slice aP ps.length cP) (.slice aQ qs.length cQ) (.slice aL' ls'.length cL')) 27) (qt + 1) (by simp [hqt])
    replace kB := blk_keep (.cells (BoC (N : Int) bl bh rl rh (.slice aP ps.length cP) (.slice aQ qs.length cQ) (.slice aL' ls'.length cL')) 27) (blk_keep (.cells #[.slice aO N cO, .slice aE ps.length cE, .slice aA qs.length cA] 30) kB)
    replace U := (U.alloc (.cells #[.slice aO N cO, .slice aE ps.length cE, .slice aA qs.length cA] 30)).alloc (.cells (BoC (N : Int) bl bh rl rh (.slice aP ps.length cP) (.slice aQ qs.length cQ) (.slice aL' ls'.length cL')) 27)
    replace Ux := (Ux.alloc (.cells #[.slice aO N cO, .slice aE ps.length cE, .slice aA qs.length cA] 30)).alloc (.cells (BoC (N : Int) bl bh rl rh (.slice aP ps.length cP) (.slice aQ qs.length cQ) (.slice aL' ls'.length cL')) 27)
    go_wp2_with fail
    obtain ⟨W2, hW2⟩ : ∃ z, (x3.alloc (.cells #[.slice aO N cO, .slice aE ps.length cE, .slice aA qs.length cA] 30)).alloc (.cells (BoC (N : Int) bl bh rl rh (.slice aP ps.length cP) (.slice aQ qs.length cQ) (.slice aL' ls'.length cL')) 27) = z := ⟨_, rfl⟩
    rw [hW2] at kt ky kB U Ux
    try rw [hW2]
    try rw [hqt]
    clear hW2 hqt
    refine (CI.out _ Ux).mono ?_
    rintro e x5 ⟨rfl, u6⟩
    replace U := U.trans u6
    replace kB := u6.blk kB
    replace kt := u6.blk kt
    replace ky := u6.blk ky
    replace Ux := Ux.trans u6
    clear u6 CI
    go_wp2_with fail
    refine (CW.out _ Ux).mono ?_
    rintro e x7 ⟨⟨aw, cw, rfl⟩, u8⟩
    replace U := U.trans u8
    replace kB := u8.blk kB
    replace kt := u8.blk kt
    replace ky := u8.blk ky
    replace Ux := Ux.trans u8
    clear u8 CW
    go_wp2_with fail
    go_loopw [11] (fun i wr => ∃ k : Nat, k ≤ N ∧ i = .int .i64 k ∧ Up w wr ∧ Up x3 wr ∧ mblk wr q0 = some (.cells (BoC (N : Int) bl bh rl rh (.slice aP ps.length cP) (.slice aQ qs.length cQ) (.slice aL ls.length cL)) 27 (0, 0)) ∧ mblk wr qt = some (.cells #[.slice aO N cO, .slice aE ps.length cE, .slice aA qs.length cA] 30 (0, 0)) ∧ mblk wr (qt + 1) = some (.cells (BoC (N : Int) bl bh rl rh (.slice aP ps.length cP) (.slice aQ qs.length cQ) (.slice aL' ls'.length cL')) 27 (0, 0))) (fun i _ => N - (intOf i).toNat)
    case atStart => exact ⟨0, Nat.zero_le _, rfl, U, Ux, kB, kt, ky⟩
    case round =>
      clear U Ux kB kt ky
      obtain ⟨k, hk, rfl, U, Ux, kB, kt, ky⟩ := hrel
      by_cases hlt : k < N
      · skip
        obtain ⟨l1, h1, e1, t1, b1, _, b2⟩ := T.Tells.ex (o := T.o0) HY.out.1 T.al_0 (T.al_night (n := (k : Int)) ⟨by omega, by omega⟩)
        obtain rfl : e1 = 0 := t1.has HY.out.2.1
        obtain ⟨l2, h2, e2, t2, _⟩ := T.Tells.ex (o := T.o0) HY.out.1 (T.al_night (n := 0) ⟨by omega, by omega⟩) (T.al_night (n := (k : Int)) ⟨by omega, by omega⟩)
        obtain rfl : e2 = 0 := t2.has HY.out.2.1
        have p1 := t1.yes.1 y HY.out.2.1
        have p2 := t2.yes.1 y HY.out.2.1
        rw [HY.out.2.2, Int.sub_zero] at p1
        have d0 := T.tru_bd HY.out.1 HY.out.2.1 (T.al_night (n := 0) ⟨by omega, by omega⟩)
        have dk0 := T.tru_bd HY.out.1 HY.out.2.1 (T.al_night (n := (k : Int)) ⟨by omega, by omega⟩)
        rw [HY.out.2.2, Int.sub_zero] at d0 dk0
        have C1 := Lib.hid (fun w' (u : Up x3 w') => Offset_tells (n := (k : Int)) HY.out.1 ⟨by omega, by omega⟩ t1 (HB3.out _ u).1 (HB3.out _ u).2.1 (HB3.out _ u).2.2)
        have C2 := Lib.hid (fun w' (u : Up x3 w') => Between_tells (n := 0) (j := (k : Int)) HY.out.1 ⟨by omega, by omega⟩ ⟨by omega, by omega⟩ t2 (HB3.out _ u).1 (HB3.out _ u).2.1 (HB3.out _ u).2.2)
        obtain ⟨a', c', e', _, _, hm⟩ := (HL3.out _ Ux).1.is
        injection e' with ea eb ec
        clear eb ec
        obtain ⟨g, off, ga, gl, hx⟩ := hm (by rw [T.out_len]; omega)
        subst ea ga
        clear hm
        have ck := hx k (by rw [T.out_len]; omega)
        have c0 := hx 0 (by rw [T.out_len]; omega)
        rw [T.out_at (by omega)] at ck c0
        replace ck : wr.cell? ⟨g, off + k, none⟩ = some (.int .i64 (y (1 + (k : Int)))) := ck
        replace c0 : wr.cell? ⟨g, off, none⟩ = some (.int .i64 (y (1 + 0))) := c0
        obtain ⟨yk, hyk⟩ : ∃ z, y (1 + (k : Int)) = z := ⟨_, rfl⟩
        obtain ⟨yz, hyz⟩ : ∃ z, y (1 + 0) = z := ⟨_, rfl⟩
        rw [hyk] at ck p1 p2 dk0
        rw [hyz] at c0 p2 d0
        have Uz := Up.refl wr
        have HX := Lib.hid (fun w' (u : Up wr w') => And.intro (u.cell2 ck) (u.cell2 c0))
        have H1 := Lib.hid (fun w => show Calls Try.prog 40 #[SpV l1 h1, .int .i64 yk] w fun e w' => e = .returned (.bool true) ∧ Up w w' by rw [← inB_yes p1.1 p1.2]; exact B_Has_any _ _ _ w)
        have H2 := Lib.hid (fun w => show Calls Try.prog 40 #[SpV l2 h2, .int .i64 (yk - yz)] w fun e w' => e = .returned (.bool true) ∧ Up w w' by rw [← inB_yes p2.1 p2.2]; exact B_Has_any _ _ _ w)
        have ws : IntKind.i64.wrap (yk - yz) = yk - yz := IntWalk.i64_in _ (by omega)
        have ew : IntKind.i64.wrap ((k : Int) + 1) = (k : Int) + 1 := IntWalk.i64_in _ (by omega)
        have dk : decide ((k : Int) < (N : Int)) = true := decide_eq_true (by omega)
        have ilt : (k : Int) < (N : Int) := by omega
        have i0 : 0 < N := by omega
        clear t1 t2 p1 p2 d0 dk0 hyk hyz hx gl ck c0 b1 b2
        go_wp2_with fail
        refine (C1.out _ Ux).mono ?_
        rintro e x101 ⟨rfl, u102⟩
        replace U := U.trans u102
        replace kB := u102.blk kB
        replace kt := u102.blk kt
        replace ky := u102.blk ky
        replace Ux := Ux.trans u102
        replace Uz := Uz.trans u102
        clear u102 C1
        have dkBk1 := blk_lt kB
        have dktk1 := blk_lt kt
        have dkyk1 := blk_lt ky
        have gk1 := U.size
        have k1 := blk_new x101 (.cells #[.int .i64 l1, .int .i64 h1] 23) _ rfl
        replace kB := blk_keep (.cells #[.int .i64 l1, .int .i64 h1] 23) kB
        replace kt := blk_keep (.cells #[.int .i64 l1, .int .i64 h1] 23) kt
        replace ky := blk_keep (.cells #[.int .i64 l1, .int .i64 h1] 23) ky
        replace U := U.alloc (.cells #[.int .i64 l1, .int .i64 h1] 23)
        replace Ux := Ux.alloc (.cells #[.int .i64 l1, .int .i64 h1] 23)
        replace Uz := Uz.alloc (.cells #[.int .i64 l1, .int .i64 h1] 23)
        obtain ⟨pk1, hpk1⟩ : ∃ z, x101.heap.size = z := ⟨_, rfl⟩
        obtain ⟨W103, hW103⟩ : ∃ z, x101.alloc (.cells #[.int .i64 l1, .int .i64 h1] 23) = z := ⟨_, rfl⟩
        rw [hpk1] at k1 dkBk1 dktk1 dkyk1 gk1
        rw [hW103] at k1 U kB kt ky Ux Uz
        go_wp2_with fail
        clear hpk1 hW103
        refine (C2.out _ Ux).mono ?_
        rintro e x104 ⟨rfl, u105⟩
        replace U := U.trans u105
        replace kB := u105.blk kB
        replace kt := u105.blk kt
        replace ky := u105.blk ky
        replace k1 := u105.blk k1
        replace Ux := Ux.trans u105
        replace Uz := Uz.trans u105
        clear u105 C2
        have dkBk2 := blk_lt kB
        have dktk2 := blk_lt kt
        have dkyk2 := blk_lt ky
        have dk1k2 := blk_lt k1
        have gk2 := U.size
        have k2 := blk_new x104 (.cells #[.int .i64 l2, .int .i64 h2] 23) _ rfl
        replace kB := blk_keep (.cells #[.int .i64 l2, .int .i64 h2] 23) kB
        replace kt := blk_keep (.cells #[.int .i64 l2, .int .i64 h2] 23) kt
        replace ky := blk_keep (.cells #[.int .i64 l2, .int .i64 h2] 23) ky
        replace k1 := blk_keep (.cells #[.int .i64 l2, .int .i64 h2] 23) k1
        replace U := U.alloc (.cells #[.int .i64 l2, .int .i64 h2] 23)
        replace Ux := Ux.alloc (.cells #[.int .i64 l2, .int .i64 h2] 23)
        replace Uz := Uz.alloc (.cells #[.int .i64 l2, .int .i64 h2] 23)
        obtain ⟨pk2, hpk2⟩ : ∃ z, x104.heap.size = z := ⟨_, rfl⟩
        obtain ⟨W106, hW106⟩ : ∃ z, x104.alloc (.cells #[.int .i64 l2, .int .i64 h2] 23) = z := ⟨_, rfl⟩
        rw [hpk2] at k2 dkBk2 dktk2 dkyk2 dk1k2 gk2
        rw [hW106] at k2 U kB kt ky k1 Ux Uz
        go_wp2_with fail
        clear hpk2 hW106
        have F108 := Lib.hid (fun w (u : Up W106 w) => cellB (u.blk kB))
        have F109 := Lib.hid (fun w (u : Up W106 w) => cellB (u.blk kt))
        have F110 := Lib.hid (fun w (u : Up W106 w) => cellB (u.blk ky))
        have F111 := Lib.hid (fun w (u : Up W106 w) => cellB (u.blk k1))
        have F112 := Lib.hid (fun w (u : Up W106 w) => cellB (u.blk k2))
        refine (wpIn_wide (n := 5)).1 ?_
        refine wpIn_nrm ?_
        refine T.regionQ (fun w' => Up W106 w') 30 1 hmx (by kernel_rfl) (by kernel_rfl) ((Up.refl W106).drew) (fun hCl => ?_)
        refine T.qT 0 (some 76) ?v1 rfl rfl hCl ?hy1 (fun hCl' => ?_)
        case hy1 => (intro w hSw; refine T.qVal ?_ hSw; (try dsimp only [List.getElem_toArray, List.getElem_cons_succ, List.getElem_cons_zero]); go_simp; try with_reducible rfl)
        simp only [Act.put, List.setIfInBounds_toArray, List.set_cons_zero, List.set_cons_succ]; replace hCl := hCl'; clear hCl'
        refine T.qT 1 (some 77) ?v2 rfl rfl hCl ?hy2 (fun hCl' => ?_)
        case hy2 => (intro w hSw; refine T.qVal ?_ hSw; (try dsimp only [List.getElem_toArray, List.getElem_cons_succ, List.getElem_cons_zero]); go_simp; try with_reducible rfl)
        simp only [Act.put, List.setIfInBounds_toArray, List.set_cons_zero, List.set_cons_succ]; replace hCl := hCl'; clear hCl'
        refine T.qT 2 (some 78) ?v3 rfl rfl hCl ?hy3 (fun hCl' => ?_)
        case hy3 => (intro w hSw; refine T.qVal ?_ hSw; (try dsimp only [List.getElem_toArray, List.getElem_cons_succ, List.getElem_cons_zero]); go_simp; try with_reducible rfl)
        simp only [Act.put, List.setIfInBounds_toArray, List.set_cons_zero, List.set_cons_succ]; replace hCl := hCl'; clear hCl'
        refine T.qT 3 (some 79) ?v4 rfl rfl hCl ?hy4 (fun hCl' => ?_)
        case hy4 => (intro w hSw; refine T.qVal ?_ hSw; (try dsimp only [List.getElem_toArray, List.getElem_cons_succ, List.getElem_cons_zero]); go_simp; try with_reducible rfl)
        simp only [Act.put, List.setIfInBounds_toArray, List.set_cons_zero, List.set_cons_succ]; replace hCl := hCl'; clear hCl'
        refine T.qT 4 (some 80) ?v5 rfl rfl hCl ?hy5 (fun hCl' => ?_)
        case hy5 => (intro w hSw; refine T.qVal ?_ hSw; (try dsimp only [List.getElem_toArray, List.getElem_cons_succ, List.getElem_cons_zero]); go_simp; try with_reducible rfl)
        simp only [Act.put, List.setIfInBounds_toArray, List.set_cons_zero, List.set_cons_succ]; replace hCl := hCl'; clear hCl'
        refine T.qT 5 (some 81) ?v6 rfl rfl hCl ?hy6 (fun hCl' => ?_)
        case hy6 => (intro w hSw; refine T.qVal ?_ hSw; (try dsimp only [List.getElem_toArray, List.getElem_cons_succ, List.getElem_cons_zero]); go_simp; try with_reducible rfl)
        simp only [Act.put, List.setIfInBounds_toArray, List.set_cons_zero, List.set_cons_succ]; replace hCl := hCl'; clear hCl'
        refine T.qT 6 (some 82) ?v7 rfl rfl hCl ?hy7 (fun hCl' => ?_)
        case hy7 => (intro w hSw; refine T.qVal ?_ hSw; (try dsimp only [List.getElem_toArray, List.getElem_cons_succ, List.getElem_cons_zero]); go_simp; try with_reducible rfl)
        simp only [Act.put, List.setIfInBounds_toArray, List.set_cons_zero, List.set_cons_succ]; replace hCl := hCl'; clear hCl'
        refine T.qT 7 (some 83) ?v8 rfl rfl hCl ?hy8 (fun hCl' => ?_)
        case hy8 => (intro w hSw; refine T.qVal ?_ hSw; (have fF108 := F108.out w hSw; have fF109 := F109.out w hSw; have fF110 := F110.out w hSw; have fF111 := F111.out w hSw; have fF112 := F112.out w hSw; obtain ⟨z1, z2⟩ := HX.out w (Uz.trans hSw)); (try dsimp only [List.getElem_toArray, List.getElem_cons_succ, List.getElem_cons_zero]); go_simp; try with_reducible rfl)
        simp only [Act.put, List.setIfInBounds_toArray, List.set_cons_zero, List.set_cons_succ]; replace hCl := hCl'; clear hCl'
        refine T.qT 8 (some 84) ?v9 rfl rfl hCl ?hy9 (fun hCl' => ?_)
        case hy9 => (intro w hSw; refine T.qVal ?_ hSw; (try dsimp only [List.getElem_toArray, List.getElem_cons_succ, List.getElem_cons_zero]); go_simp; try with_reducible rfl)
        simp only [Act.put, List.setIfInBounds_toArray, List.set_cons_zero, List.set_cons_succ]; replace hCl := hCl'; clear hCl'
        refine T.qT 10 (some 86) ?v10 rfl rfl hCl ?hy10 (fun hCl' => ?_)
        case hy10 => (intro w hSw; refine T.qVal ?_ hSw; (try dsimp only [List.getElem_toArray, List.getElem_cons_succ, List.getElem_cons_zero]); go_simp; try with_reducible rfl)
        simp only [Act.put, List.setIfInBounds_toArray, List.set_cons_zero, List.set_cons_succ]; replace hCl := hCl'; clear hCl'
        refine T.qT 9 (some 85) ?v11 rfl rfl hCl ?hy11 (fun hCl' => ?_)
        case hy11 => (intro w hSw; refine T.qVal ?_ hSw; (have fF108 := F108.out w hSw; have fF109 := F109.out w hSw; have fF110 := F110.out w hSw; have fF111 := F111.out w hSw; have fF112 := F112.out w hSw; obtain ⟨z1, z2⟩ := HX.out w (Uz.trans hSw)); (try dsimp only [List.getElem_toArray, List.getElem_cons_succ, List.getElem_cons_zero]); go_simp; try with_reducible rfl)
        simp only [Act.put, List.setIfInBounds_toArray, List.set_cons_zero, List.set_cons_succ]; replace hCl := hCl'; clear hCl'
        refine T.qT 11 (some 87) ?v12 rfl rfl hCl ?hy12 (fun hCl' => ?_)
        case hy12 => (intro w hSw; refine T.qVal ?_ hSw; (try dsimp only [List.getElem_toArray, List.getElem_cons_succ, List.getElem_cons_zero]); go_simp; try with_reducible rfl)
        simp only [Act.put, List.setIfInBounds_toArray, List.set_cons_zero, List.set_cons_succ]; replace hCl := hCl'; clear hCl'
        refine T.qT 12 (some 88) ?v13 rfl rfl hCl ?hy13 (fun hCl' => ?_)
        case hy13 => (intro w hSw; refine T.qVal ?_ hSw; (have fF108 := F108.out w hSw; have fF109 := F109.out w hSw; have fF110 := F110.out w hSw; have fF111 := F111.out w hSw; have fF112 := F112.out w hSw; obtain ⟨z1, z2⟩ := HX.out w (Uz.trans hSw)); (try dsimp only [List.getElem_toArray, List.getElem_cons_succ, List.getElem_cons_zero]); go_simp; try with_reducible rfl)
        simp only [Act.put, List.setIfInBounds_toArray, List.set_cons_zero, List.set_cons_succ]; replace hCl := hCl'; clear hCl'
        refine T.qT 13 (some 89) ((.bool true)) rfl rfl hCl ?hy14 (fun hCl' => ?_)
        case hy14 => (intro w hSw; (have fF108 := F108.out w hSw; have fF109 := F109.out w hSw; have fF110 := F110.out w hSw; have fF111 := F111.out w hSw; have fF112 := F112.out w hSw; obtain ⟨z1, z2⟩ := HX.out w (Uz.trans hSw)); (try dsimp only [List.getElem_toArray, List.getElem_cons_succ, List.getElem_cons_zero]); go_simp; (refine (callsIn_wide.2 (H1.out w)).mono ?_; rintro e w3 ⟨rfl, u3⟩; exact ⟨rfl, hSw.trans u3⟩))
        simp only [Act.put, List.setIfInBounds_toArray, List.set_cons_zero, List.set_cons_succ]
        replace hCl := hCl'; clear hCl'
        refine T.qT 14 (some 90) ?v15 rfl rfl hCl ?hy15 (fun hCl' => ?_)
        case hy15 => (intro w hSw; refine T.qVal ?_ hSw; (try dsimp only [List.getElem_toArray, List.getElem_cons_succ, List.getElem_cons_zero]); go_simp; try with_reducible rfl)
        simp only [Act.put, List.setIfInBounds_toArray, List.set_cons_zero, List.set_cons_succ]; replace hCl := hCl'; clear hCl'
        refine T.qT 15 (some 91) ?v16 rfl rfl hCl ?hy16 (fun hCl' => ?_)
        case hy16 => (intro w hSw; refine T.qVal ?_ hSw; (try dsimp only [List.getElem_toArray, List.getElem_cons_succ, List.getElem_cons_zero]); go_simp; try with_reducible rfl)
        simp only [Act.put, List.setIfInBounds_toArray, List.set_cons_zero, List.set_cons_succ]; replace hCl := hCl'; clear hCl'
        refine T.qT 16 (some 92) ?v17 rfl rfl hCl ?hy17 (fun hCl' => ?_)
        case hy17 => (intro w hSw; refine T.qVal ?_ hSw; (try dsimp only [List.getElem_toArray, List.getElem_cons_succ, List.getElem_cons_zero]); go_simp; try with_reducible rfl)
        simp only [Act.put, List.setIfInBounds_toArray, List.set_cons_zero, List.set_cons_succ]; replace hCl := hCl'; clear hCl'
        refine T.qT 17 (some 93) ?v18 rfl rfl hCl ?hy18 (fun hCl' => ?_)
        case hy18 => (intro w hSw; refine T.qVal ?_ hSw; (have fF108 := F108.out w hSw; have fF109 := F109.out w hSw; have fF110 := F110.out w hSw; have fF111 := F111.out w hSw; have fF112 := F112.out w hSw; obtain ⟨z1, z2⟩ := HX.out w (Uz.trans hSw)); (try dsimp only [List.getElem_toArray, List.getElem_cons_succ, List.getElem_cons_zero]); go_simp; try with_reducible rfl)
        simp only [Act.put, List.setIfInBounds_toArray, List.set_cons_zero, List.set_cons_succ]; replace hCl := hCl'; clear hCl'
        refine T.qT 18 (some 94) ?v19 rfl rfl hCl ?hy19 (fun hCl' => ?_)
        case hy19 => (intro w hSw; refine T.qVal ?_ hSw; (try dsimp only [List.getElem_toArray, List.getElem_cons_succ, List.getElem_cons_zero]); go_simp; try with_reducible rfl)
        simp only [Act.put, List.setIfInBounds_toArray, List.set_cons_zero, List.set_cons_succ]; replace hCl := hCl'; clear hCl'
        refine T.qT 20 (some 96) ?v20 rfl rfl hCl ?hy20 (fun hCl' => ?_)
        case hy20 => (intro w hSw; refine T.qVal ?_ hSw; (try dsimp only [List.getElem_toArray, List.getElem_cons_succ, List.getElem_cons_zero]); go_simp; try with_reducible rfl)
        simp only [Act.put, List.setIfInBounds_toArray, List.set_cons_zero, List.set_cons_succ]; replace hCl := hCl'; clear hCl'
        refine T.qT 23 (some 99) ?v21 rfl rfl hCl ?hy21 (fun hCl' => ?_)
        case hy21 => (intro w hSw; refine T.qVal ?_ hSw; (try dsimp only [List.getElem_toArray, List.getElem_cons_succ, List.getElem_cons_zero]); go_simp; try with_reducible rfl)
        simp only [Act.put, List.setIfInBounds_toArray, List.set_cons_zero, List.set_cons_succ]; replace hCl := hCl'; clear hCl'
        refine T.qT 19 (some 95) ?v22 rfl rfl hCl ?hy22 (fun hCl' => ?_)
        case hy22 => (intro w hSw; refine T.qVal ?_ hSw; (have fF108 := F108.out w hSw; have fF109 := F109.out w hSw; have fF110 := F110.out w hSw; have fF111 := F111.out w hSw; have fF112 := F112.out w hSw; obtain ⟨z1, z2⟩ := HX.out w (Uz.trans hSw)); (try dsimp only [List.getElem_toArray, List.getElem_cons_succ, List.getElem_cons_zero]); go_simp; try with_reducible rfl)
        simp only [Act.put, List.setIfInBounds_toArray, List.set_cons_zero, List.set_cons_succ]; replace hCl := hCl'; clear hCl'
        refine T.qT 24 (some 100) ?v23 rfl rfl hCl ?hy23 (fun hCl' => ?_)
        case hy23 => (intro w hSw; refine T.qVal ?_ hSw; (have fF108 := F108.out w hSw; have fF109 := F109.out w hSw; have fF110 := F110.out w hSw; have fF111 := F111.out w hSw; have fF112 := F112.out w hSw; obtain ⟨z1, z2⟩ := HX.out w (Uz.trans hSw)); (try dsimp only [List.getElem_toArray, List.getElem_cons_succ, List.getElem_cons_zero]); go_simp; try with_reducible rfl)
        simp only [Act.put, List.setIfInBounds_toArray, List.set_cons_zero, List.set_cons_succ]; replace hCl := hCl'; clear hCl'
        refine T.qT 21 (some 97) ?v24 rfl rfl hCl ?hy24 (fun hCl' => ?_)
        case hy24 => (intro w hSw; refine T.qVal ?_ hSw; (try dsimp only [List.getElem_toArray, List.getElem_cons_succ, List.getElem_cons_zero]); go_simp; try with_reducible rfl)
        simp only [Act.put, List.setIfInBounds_toArray, List.set_cons_zero, List.set_cons_succ]; replace hCl := hCl'; clear hCl'
        refine T.qT 25 (some 101) ?v25 rfl rfl hCl ?hy25 (fun hCl' => ?_)
        case hy25 => (intro w hSw; refine T.qVal ?_ hSw; (try dsimp only [List.getElem_toArray, List.getElem_cons_succ, List.getElem_cons_zero]); go_simp; try with_reducible rfl)
        simp only [Act.put, List.setIfInBounds_toArray, List.set_cons_zero, List.set_cons_succ]; replace hCl := hCl'; clear hCl'
        refine T.qT 22 (some 98) ?v26 rfl rfl hCl ?hy26 (fun hCl' => ?_)
        case hy26 => (intro w hSw; refine T.qVal ?_ hSw; (have fF108 := F108.out w hSw; have fF109 := F109.out w hSw; have fF110 := F110.out w hSw; have fF111 := F111.out w hSw; have fF112 := F112.out w hSw; obtain ⟨z1, z2⟩ := HX.out w (Uz.trans hSw)); (try dsimp only [List.getElem_toArray, List.getElem_cons_succ, List.getElem_cons_zero]); go_simp; try with_reducible rfl)
        simp only [Act.put, List.setIfInBounds_toArray, List.set_cons_zero, List.set_cons_succ]; replace hCl := hCl'; clear hCl'
        refine T.qT 26 (some 102) ?v27 rfl rfl hCl ?hy27 (fun hCl' => ?_)
        case hy27 => (intro w hSw; refine T.qVal ?_ hSw; (have fF108 := F108.out w hSw; have fF109 := F109.out w hSw; have fF110 := F110.out w hSw; have fF111 := F111.out w hSw; have fF112 := F112.out w hSw; obtain ⟨z1, z2⟩ := HX.out w (Uz.trans hSw)); (try dsimp only [List.getElem_toArray, List.getElem_cons_succ, List.getElem_cons_zero]); go_simp; try with_reducible rfl)
        simp only [Act.put, List.setIfInBounds_toArray, List.set_cons_zero, List.set_cons_succ]; replace hCl := hCl'; clear hCl'
        refine T.qT 27 (some 103) ?v28 rfl rfl hCl ?hy28 (fun hCl' => ?_)
        case hy28 => (intro w hSw; refine T.qVal ?_ hSw; (try dsimp only [List.getElem_toArray, List.getElem_cons_succ, List.getElem_cons_zero]); go_simp; try with_reducible rfl)
        simp only [Act.put, List.setIfInBounds_toArray, List.set_cons_zero, List.set_cons_succ]; replace hCl := hCl'; clear hCl'
        refine T.qT 28 (some 104) ((.bool true)) rfl rfl hCl ?hy29 (fun hCl' => ?_)
        case hy29 => (intro w hSw; (have fF108 := F108.out w hSw; have fF109 := F109.out w hSw; have fF110 := F110.out w hSw; have fF111 := F111.out w hSw; have fF112 := F112.out w hSw; obtain ⟨z1, z2⟩ := HX.out w (Uz.trans hSw)); (try dsimp only [List.getElem_toArray, List.getElem_cons_succ, List.getElem_cons_zero]); go_simp; (refine (callsIn_wide.2 (H2.out w)).mono ?_; rintro e w3 ⟨rfl, u3⟩; exact ⟨rfl, hSw.trans u3⟩))
        simp only [Act.put, List.setIfInBounds_toArray, List.set_cons_zero, List.set_cons_succ]
        replace hCl := hCl'; clear hCl'
        refine T.qT 29 (some 105) ?v30 rfl rfl hCl ?hy30 (fun hCl' => ?_)
        case hy30 => (intro w hSw; refine T.qVal ?_ hSw; (try dsimp only [List.getElem_toArray, List.getElem_cons_succ, List.getElem_cons_zero]); go_simp; try with_reducible rfl)
        simp only [Act.put, List.setIfInBounds_toArray, List.set_cons_zero, List.set_cons_succ]; replace hCl := hCl'; clear hCl'
        refine T.tail_intro (by kernel_rfl) (fun Y107 hY107 => ?_)
        replace U := U.trans hY107
        replace kB := hY107.blk kB
        replace kt := hY107.blk kt
        replace ky := hY107.blk ky
        replace k1 := hY107.blk k1
        replace k2 := hY107.blk k2
        replace Ux := Ux.trans hY107
        replace Uz := Uz.trans hY107
        clear F108 F109 F110 F111 F112 hY107
        refine lastG (i := 30) (by kernel_rfl) rfl (by rfl) (by decide) (fun K hK => ?_)
        go_simp
        refine hK.out _ _ ?_
        clear hK K
        refine doneG (by kernel_rfl) ?_ _
        refine S.nrm_intro ?_
        clear HX H1 H2 Uz
        go_wp2_with fail
        go_roundw
        case rel => exact ⟨k + 1, by omega, by go_num, U, Ux, kB, kt, ky⟩
        case measure => (simp only [intOf]; omega)
      · skip
        have hkE : N = k := by omega
        subst hkE
        have dk : decide ((N : Int) < (N : Int)) = false := decide_eq_false (by omega)
        clear hlt hk
        go_wp2_with fail
        go_loopw [16] (fun i wr => ∃ k : Nat, k ≤ ps.length ∧ i = .int .i64 k ∧ Up w wr ∧ Up x3 wr ∧ mblk wr q0 = some (.cells (BoC (N : Int) bl bh rl rh (.slice aP ps.length cP) (.slice aQ qs.length cQ) (.slice aL ls.length cL)) 27 (0, 0)) ∧ mblk wr qt = some (.cells #[.slice aO N cO, .slice aE ps.length cE, .slice aA qs.length cA] 30 (0, 0)) ∧ mblk wr (qt + 1) = some (.cells (BoC (N : Int) bl bh rl rh (.slice aP ps.length cP) (.slice aQ qs.length cQ) (.slice aL' ls'.length cL')) 27 (0, 0))) (fun i _ => ps.length - (intOf i).toNat)
        case atStart => exact ⟨0, Nat.zero_le _, rfl, U, Ux, kB, kt, ky⟩
        case round =>
          clear U Ux kB kt ky dk
          obtain ⟨k, hk, rfl, U, Ux, kB, kt, ky⟩ := hrel
          by_cases hlt : k < ps.length
          · skip
            obtain ⟨l1, h1, e1, t1, b1, _, b2⟩ := T.Tells.ex (o := T.o0) HY.out.1 (T.al_per (n := (k : Int)) ⟨by omega, by omega⟩) T.al_0
            obtain rfl : e1 = 0 := t1.has HY.out.2.1
            have p1 := t1.yes.1 y HY.out.2.1
            have hin : (ps.getD k (0, 0)).1 ≤ l1 ∧ h1 ≤ (ps.getD k (0, 0)).2 := by
              obtain ⟨_, ⟨z1, hz1, f1⟩, z2, hz2, f2⟩ := t1.yes
              have g1 := hz1.per k hlt
              have g2 := hz2.per k hlt
              omega
            rw [HY.out.2.2] at p1
            have C1 := Lib.hid (fun w' (u : Up x3 w') => Person_tells (n := (k : Int)) HY.out.1 ⟨by omega, by omega⟩ t1 (HB3.out _ u).1 (HB3.out _ u).2.1 (HB3.out _ u).2.2)
            obtain ⟨a', c', e', _, _, hm⟩ := ((HL3.out _ Ux).2.1).is
            injection e' with ea eb ec
            clear eb ec
            obtain ⟨g, off, ga, gl, hx⟩ := hm (by rw [T.out_len]; omega)
            subst ea ga
            clear hm
            have ck := hx k (by rw [T.out_len]; omega)
            rw [T.out_at (by omega)] at ck
            replace ck : wr.cell? ⟨g, off + k, none⟩ = some (.int .i64 (-(y (9 + (k : Int))))) := ck
            clear hx gl
            obtain ⟨a', c', e', _, _, hm⟩ := (HI.out _ (Up.refl w)).is
            injection e' with ea eb ec
            obtain ⟨g2, off2, ga, gl, hx⟩ := hm (by omega)
            subst ea ga
            clear hm eb ec
            have q0_ := (U.facts.1 g2 _ gl).trans (hx k hlt 0 (by omega))
            have q1_ := (U.facts.1 g2 _ gl).trans (hx k hlt 1 (by omega))
            obtain ⟨⟨r0, r1⟩, hss⟩ : ∃ s, ps.getD k (0, 0) = s := ⟨_, rfl⟩
            rw [hss] at q0_ q1_ hin
            dsimp only at hin
            replace q0_ : wr.cell? ⟨g2, off2 + k * 2, none⟩ = some (.int .i64 r0) := q0_
            replace q1_ : wr.cell? ⟨g2, off2 + k * 2 + 1, none⟩ = some (.int .i64 r1) := q1_
            obtain ⟨yk, hyk⟩ : ∃ z, -(y (9 + (k : Int))) = z := ⟨_, rfl⟩
            rw [hyk] at ck
            have Uz := Up.refl wr
            have HX := Lib.hid (fun w' (u : Up wr w') => And.intro (u.cell2 ck) (And.intro (u.cell2 q0_) (u.cell2 q1_)))
            have H1 := Lib.hid (fun w => show Calls Try.prog 40 #[SpV l1 h1, .int .i64 yk] w fun e w' => e = .returned (.bool true) ∧ Up w w' by rw [← inB_yes (show l1 ≤ yk by omega) (show yk ≤ h1 by omega)]; exact B_Has_any _ _ _ w)
            have H2 := Lib.hid (fun w => show Calls Try.prog 41 #[SpV l1 h1, SpV r0 r1] w fun e w' => e = .returned (.bool true) ∧ Up w w' by rw [← decide_eq_true hin]; exact B_Within_any _ _ _ _ w)
            have ew : IntKind.i64.wrap ((k : Int) + 1) = (k : Int) + 1 := IntWalk.i64_in _ (by omega)
            have dk : decide ((k : Int) < (ps.length : Int)) = true := decide_eq_true (by omega)
            have ilt : (k : Int) < (ps.length : Int) := by omega
            clear t1 p1 hyk hx gl ck q0_ q1_ b1 b2 hss hin
            go_wp2_with fail
            refine (C1.out _ Ux).mono ?_
            rintro e x301 ⟨rfl, u302⟩
            replace U := U.trans u302
            replace kB := u302.blk kB
            replace kt := u302.blk kt
            replace ky := u302.blk ky
            replace Ux := Ux.trans u302
            replace Uz := Uz.trans u302
            clear u302 C1
            have dkBk1 := blk_lt kB
            have dktk1 := blk_lt kt
            have dkyk1 := blk_lt ky
            have gk1 := U.size
            have k1 := blk_new x301 (.cells #[.int .i64 l1, .int .i64 h1] 23) _ rfl
            replace kB := blk_keep (.cells #[.int .i64 l1, .int .i64 h1] 23) kB
            replace kt := blk_keep (.cells #[.int .i64 l1, .int .i64 h1] 23) kt
            replace ky := blk_keep (.cells #[.int .i64 l1, .int .i64 h1] 23) ky
            replace U := U.alloc (.cells #[.int .i64 l1, .int .i64 h1] 23)
            replace Ux := Ux.alloc (.cells #[.int .i64 l1, .int .i64 h1] 23)
            replace Uz := Uz.alloc (.cells #[.int .i64 l1, .int .i64 h1] 23)
            obtain ⟨pk1, hpk1⟩ : ∃ z, x301.heap.size = z := ⟨_, rfl⟩
            obtain ⟨W303, hW303⟩ : ∃ z, x301.alloc (.cells #[.int .i64 l1, .int .i64 h1] 23) = z := ⟨_, rfl⟩
            rw [hpk1] at k1 dkBk1 dktk1 dkyk1 gk1
            rw [hW303] at k1 U kB kt ky Ux Uz
            go_wp2_with fail
            clear hpk1 hW303
            have F305 := Lib.hid (fun w (u : Up W303 w) => cellB (u.blk kB))
            have F306 := Lib.hid (fun w (u : Up W303 w) => cellB (u.blk kt))
            have F307 := Lib.hid (fun w (u : Up W303 w) => cellB (u.blk ky))
            have F308 := Lib.hid (fun w (u : Up W303 w) => cellB (u.blk k1))
            refine (wpIn_wide (n := 5)).1 ?_
            refine wpIn_nrm ?_
            refine T.regionQ (fun w' => Up W303 w') 21 1 hmx (by kernel_rfl) (by kernel_rfl) ((Up.refl W303).drew) (fun hCl => ?_)
            refine T.qT 0 (some 120) ?v31 rfl rfl hCl ?hy31 (fun hCl' => ?_)
            case hy31 => (intro w hSw; refine T.qVal ?_ hSw; (try dsimp only [List.getElem_toArray, List.getElem_cons_succ, List.getElem_cons_zero]); go_simp; try with_reducible rfl)
            simp only [Act.put, List.setIfInBounds_toArray, List.set_cons_zero, List.set_cons_succ]; replace hCl := hCl'; clear hCl'
            refine T.qT 1 (some 121) ?v32 rfl rfl hCl ?hy32 (fun hCl' => ?_)
            case hy32 => (intro w hSw; refine T.qVal ?_ hSw; (try dsimp only [List.getElem_toArray, List.getElem_cons_succ, List.getElem_cons_zero]); go_simp; try with_reducible rfl)
            simp only [Act.put, List.setIfInBounds_toArray, List.set_cons_zero, List.set_cons_succ]; replace hCl := hCl'; clear hCl'
            refine T.qT 2 (some 122) ?v33 rfl rfl hCl ?hy33 (fun hCl' => ?_)
            case hy33 => (intro w hSw; refine T.qVal ?_ hSw; (try dsimp only [List.getElem_toArray, List.getElem_cons_succ, List.getElem_cons_zero]); go_simp; try with_reducible rfl)
            simp only [Act.put, List.setIfInBounds_toArray, List.set_cons_zero, List.set_cons_succ]; replace hCl := hCl'; clear hCl'
            refine T.qT 3 (some 123) ?v34 rfl rfl hCl ?hy34 (fun hCl' => ?_)
            case hy34 => (intro w hSw; refine T.qVal ?_ hSw; (have fF305 := F305.out w hSw; have fF306 := F306.out w hSw; have fF307 := F307.out w hSw; have fF308 := F308.out w hSw; obtain ⟨z1, z2, z3⟩ := HX.out w (Uz.trans hSw)); (try dsimp only [List.getElem_toArray, List.getElem_cons_succ, List.getElem_cons_zero]); go_simp; try with_reducible rfl)
            simp only [Act.put, List.setIfInBounds_toArray, List.set_cons_zero, List.set_cons_succ]; replace hCl := hCl'; clear hCl'
            refine T.qT 4 (some 124) ?v35 rfl rfl hCl ?hy35 (fun hCl' => ?_)
            case hy35 => (intro w hSw; refine T.qVal ?_ hSw; (try dsimp only [List.getElem_toArray, List.getElem_cons_succ, List.getElem_cons_zero]); go_simp; try with_reducible rfl)
            simp only [Act.put, List.setIfInBounds_toArray, List.set_cons_zero, List.set_cons_succ]; replace hCl := hCl'; clear hCl'
            refine T.qT 6 (some 126) ?v36 rfl rfl hCl ?hy36 (fun hCl' => ?_)
            case hy36 => (intro w hSw; refine T.qVal ?_ hSw; (try dsimp only [List.getElem_toArray, List.getElem_cons_succ, List.getElem_cons_zero]); go_simp; try with_reducible rfl)
            simp only [Act.put, List.setIfInBounds_toArray, List.set_cons_zero, List.set_cons_succ]; replace hCl := hCl'; clear hCl'
            refine T.qT 5 (some 125) ?v37 rfl rfl hCl ?hy37 (fun hCl' => ?_)
            case hy37 => (intro w hSw; refine T.qVal ?_ hSw; (have fF305 := F305.out w hSw; have fF306 := F306.out w hSw; have fF307 := F307.out w hSw; have fF308 := F308.out w hSw; obtain ⟨z1, z2, z3⟩ := HX.out w (Uz.trans hSw)); (try dsimp only [List.getElem_toArray, List.getElem_cons_succ, List.getElem_cons_zero]); go_simp; try with_reducible rfl)
            simp only [Act.put, List.setIfInBounds_toArray, List.set_cons_zero, List.set_cons_succ]; replace hCl := hCl'; clear hCl'
            refine T.qT 7 (some 127) ?v38 rfl rfl hCl ?hy38 (fun hCl' => ?_)
            case hy38 => (intro w hSw; refine T.qVal ?_ hSw; (try dsimp only [List.getElem_toArray, List.getElem_cons_succ, List.getElem_cons_zero]); go_simp; try with_reducible rfl)
            simp only [Act.put, List.setIfInBounds_toArray, List.set_cons_zero, List.set_cons_succ]; replace hCl := hCl'; clear hCl'
            refine T.qT 8 (some 128) ?v39 rfl rfl hCl ?hy39 (fun hCl' => ?_)
            case hy39 => (intro w hSw; refine T.qVal ?_ hSw; (have fF305 := F305.out w hSw; have fF306 := F306.out w hSw; have fF307 := F307.out w hSw; have fF308 := F308.out w hSw; obtain ⟨z1, z2, z3⟩ := HX.out w (Uz.trans hSw)); (try dsimp only [List.getElem_toArray, List.getElem_cons_succ, List.getElem_cons_zero]); go_simp; try with_reducible rfl)
            simp only [Act.put, List.setIfInBounds_toArray, List.set_cons_zero, List.set_cons_succ]; replace hCl := hCl'; clear hCl'
            refine T.qT 9 (some 129) ((.bool true)) rfl rfl hCl ?hy40 (fun hCl' => ?_)
            case hy40 => (intro w hSw; (have fF305 := F305.out w hSw; have fF306 := F306.out w hSw; have fF307 := F307.out w hSw; have fF308 := F308.out w hSw; obtain ⟨z1, z2, z3⟩ := HX.out w (Uz.trans hSw)); (try dsimp only [List.getElem_toArray, List.getElem_cons_succ, List.getElem_cons_zero]); go_simp; (refine (callsIn_wide.2 (H1.out w)).mono ?_; rintro e w3 ⟨rfl, u3⟩; exact ⟨rfl, hSw.trans u3⟩))
            simp only [Act.put, List.setIfInBounds_toArray, List.set_cons_zero, List.set_cons_succ]
            replace hCl := hCl'; clear hCl'
            refine T.qT 10 (some 130) ?v41 rfl rfl hCl ?hy41 (fun hCl' => ?_)
            case hy41 => (intro w hSw; refine T.qVal ?_ hSw; (try dsimp only [List.getElem_toArray, List.getElem_cons_succ, List.getElem_cons_zero]); go_simp; try with_reducible rfl)
            simp only [Act.put, List.setIfInBounds_toArray, List.set_cons_zero, List.set_cons_succ]; replace hCl := hCl'; clear hCl'
            refine T.qT 11 (some 131) ?v42 rfl rfl hCl ?hy42 (fun hCl' => ?_)
            case hy42 => (intro w hSw; refine T.qVal ?_ hSw; (try dsimp only [List.getElem_toArray, List.getElem_cons_succ, List.getElem_cons_zero]); go_simp; try with_reducible rfl)
            simp only [Act.put, List.setIfInBounds_toArray, List.set_cons_zero, List.set_cons_succ]; replace hCl := hCl'; clear hCl'
            refine T.qT 12 (some 132) ?v43 rfl rfl hCl ?hy43 (fun hCl' => ?_)
            case hy43 => (intro w hSw; refine T.qVal ?_ hSw; (try dsimp only [List.getElem_toArray, List.getElem_cons_succ, List.getElem_cons_zero]); go_simp; try with_reducible rfl)
            simp only [Act.put, List.setIfInBounds_toArray, List.set_cons_zero, List.set_cons_succ]; replace hCl := hCl'; clear hCl'
            refine T.qT 13 (some 133) ?v44 rfl rfl hCl ?hy44 (fun hCl' => ?_)
            case hy44 => (intro w hSw; refine T.qVal ?_ hSw; (have fF305 := F305.out w hSw; have fF306 := F306.out w hSw; have fF307 := F307.out w hSw; have fF308 := F308.out w hSw; obtain ⟨z1, z2, z3⟩ := HX.out w (Uz.trans hSw)); (try dsimp only [List.getElem_toArray, List.getElem_cons_succ, List.getElem_cons_zero]); go_simp; try with_reducible rfl)
            simp only [Act.put, List.setIfInBounds_toArray, List.set_cons_zero, List.set_cons_succ]; replace hCl := hCl'; clear hCl'
            refine T.qT 14 (some 134) ?v45 rfl rfl hCl ?hy45 (fun hCl' => ?_)
            case hy45 => (intro w hSw; refine T.qVal ?_ hSw; (try dsimp only [List.getElem_toArray, List.getElem_cons_succ, List.getElem_cons_zero]); go_simp; try with_reducible rfl)
            simp only [Act.put, List.setIfInBounds_toArray, List.set_cons_zero, List.set_cons_succ]; replace hCl := hCl'; clear hCl'
            refine T.qT 16 (some 136) ?v46 rfl rfl hCl ?hy46 (fun hCl' => ?_)
            case hy46 => (intro w hSw; refine T.qVal ?_ hSw; (try dsimp only [List.getElem_toArray, List.getElem_cons_succ, List.getElem_cons_zero]); go_simp; try with_reducible rfl)
            simp only [Act.put, List.setIfInBounds_toArray, List.set_cons_zero, List.set_cons_succ]; replace hCl := hCl'; clear hCl'
            refine T.qT 15 (some 135) ?v47 rfl rfl hCl ?hy47 (fun hCl' => ?_)
            case hy47 => (intro w hSw; refine T.qVal ?_ hSw; (have fF305 := F305.out w hSw; have fF306 := F306.out w hSw; have fF307 := F307.out w hSw; have fF308 := F308.out w hSw; obtain ⟨z1, z2, z3⟩ := HX.out w (Uz.trans hSw)); (try dsimp only [List.getElem_toArray, List.getElem_cons_succ, List.getElem_cons_zero]); go_simp; try with_reducible rfl)
            simp only [Act.put, List.setIfInBounds_toArray, List.set_cons_zero, List.set_cons_succ]; replace hCl := hCl'; clear hCl'
            refine T.qT 17 (some 137) ?v48 rfl rfl hCl ?hy48 (fun hCl' => ?_)
            case hy48 => (intro w hSw; refine T.qVal ?_ hSw; (try dsimp only [List.getElem_toArray, List.getElem_cons_succ, List.getElem_cons_zero]); go_simp; try with_reducible rfl)
            simp only [Act.put, List.setIfInBounds_toArray, List.set_cons_zero, List.set_cons_succ]; replace hCl := hCl'; clear hCl'
            refine T.qT 18 (some 138) ?v49 rfl rfl hCl ?hy49 (fun hCl' => ?_)
            case hy49 => (intro w hSw; refine T.qVal ?_ hSw; (have fF305 := F305.out w hSw; have fF306 := F306.out w hSw; have fF307 := F307.out w hSw; have fF308 := F308.out w hSw; obtain ⟨z1, z2, z3⟩ := HX.out w (Uz.trans hSw)); (try dsimp only [List.getElem_toArray, List.getElem_cons_succ, List.getElem_cons_zero]); go_simp; try with_reducible rfl)
            simp only [Act.put, List.setIfInBounds_toArray, List.set_cons_zero, List.set_cons_succ]; replace hCl := hCl'; clear hCl'
            refine T.qT 19 (some 139) ((.bool true)) rfl rfl hCl ?hy50 (fun hCl' => ?_)
            case hy50 => (intro w hSw; (have fF305 := F305.out w hSw; have fF306 := F306.out w hSw; have fF307 := F307.out w hSw; have fF308 := F308.out w hSw; obtain ⟨z1, z2, z3⟩ := HX.out w (Uz.trans hSw)); (try dsimp only [List.getElem_toArray, List.getElem_cons_succ, List.getElem_cons_zero]); go_simp; (refine (callsIn_wide.2 (H2.out w)).mono ?_; rintro e w3 ⟨rfl, u3⟩; exact ⟨rfl, hSw.trans u3⟩))
            simp only [Act.put, List.setIfInBounds_toArray, List.set_cons_zero, List.set_cons_succ]
            replace hCl := hCl'; clear hCl'
            refine T.qT 20 (some 140) ?v51 rfl rfl hCl ?hy51 (fun hCl' => ?_)
            case hy51 => (intro w hSw; refine T.qVal ?_ hSw; (try dsimp only [List.getElem_toArray, List.getElem_cons_succ, List.getElem_cons_zero]); go_simp; try with_reducible rfl)
            simp only [Act.put, List.setIfInBounds_toArray, List.set_cons_zero, List.set_cons_succ]; replace hCl := hCl'; clear hCl'
            refine T.tail_intro (by kernel_rfl) (fun Y304 hY304 => ?_)
            replace U := U.trans hY304
            replace kB := hY304.blk kB
            replace kt := hY304.blk kt
            replace ky := hY304.blk ky
            replace k1 := hY304.blk k1
            replace Ux := Ux.trans hY304
            replace Uz := Uz.trans hY304
            clear F305 F306 F307 F308 hY304
            refine lastG (i := 21) (by kernel_rfl) rfl (by rfl) (by decide) (fun K hK => ?_)
            go_simp
            refine hK.out _ _ ?_
            clear hK K
            refine doneG (by kernel_rfl) ?_ _
            refine S.nrm_intro ?_
            clear HX H1 H2 Uz
            go_wp2_with fail
            go_roundw
            case rel => exact ⟨k + 1, by omega, by go_num, U, Ux, kB, kt, ky⟩
            case measure => (simp only [intOf]; omega)
          · skip
            have hkE : ps.length = k := by omega
            subst hkE
            have dk : decide ((ps.length : Int) < (ps.length : Int)) = false := decide_eq_false (by omega)
            clear hlt hk
            go_wp2_with fail
            go_loopw [19] (fun i wr => ∃ k : Nat, k ≤ qs.length ∧ i = .int .i64 k ∧ Up w wr ∧ Up x3 wr ∧ mblk wr q0 = some (.cells (BoC (N : Int) bl bh rl rh (.slice aP ps.length cP) (.slice aQ qs.length cQ) (.slice aL ls.length cL)) 27 (0, 0)) ∧ mblk wr qt = some (.cells #[.slice aO N cO, .slice aE ps.length cE, .slice aA qs.length cA] 30 (0, 0)) ∧ mblk wr (qt + 1) = some (.cells (BoC (N : Int) bl bh rl rh (.slice aP ps.length cP) (.slice aQ qs.length cQ) (.slice aL' ls'.length cL')) 27 (0, 0))) (fun i _ => qs.length - (intOf i).toNat)
            case atStart => exact ⟨0, Nat.zero_le _, rfl, U, Ux, kB, kt, ky⟩
            case round =>
              clear U Ux kB kt ky dk
              obtain ⟨k, hk, rfl, U, Ux, kB, kt, ky⟩ := hrel
              by_cases hlt : k < qs.length
              · skip
                obtain ⟨l1, h1, e1, t1, b1, _, b2⟩ := T.Tells.ex (o := T.o0) HY.out.1 T.al_0 (T.al_pth (n := (k : Int)) ⟨by omega, by omega⟩)
                obtain rfl : e1 = 0 := t1.has HY.out.2.1
                have p1 := t1.yes.1 y HY.out.2.1
                have hin : (qs.getD k (0, 0)).1 ≤ l1 ∧ h1 ≤ (qs.getD k (0, 0)).2 := by
                  obtain ⟨_, ⟨z1, hz1, f1⟩, z2, hz2, f2⟩ := t1.yes
                  have g1 := hz1.pth k hlt
                  have g2 := hz2.pth k hlt
                  omega
                rw [HY.out.2.2] at p1
                have C1 := Lib.hid (fun w' (u : Up x3 w') => Path_tells (n := (k : Int)) HY.out.1 ⟨by omega, by omega⟩ t1 (HB3.out _ u).1 (HB3.out _ u).2.1 (HB3.out _ u).2.2)
                obtain ⟨a', c', e', _, _, hm⟩ := ((HL3.out _ Ux).2.2).is
                injection e' with ea eb ec
                clear eb ec
                obtain ⟨g, off, ga, gl, hx⟩ := hm (by rw [T.out_len]; omega)
                subst ea ga
                clear hm
                have ck := hx k (by rw [T.out_len]; omega)
                rw [T.out_at (by omega)] at ck
                replace ck : wr.cell? ⟨g, off + k, none⟩ = some (.int .i64 (y (13 + (k : Int)))) := ck
                clear hx gl
                obtain ⟨a', c', e', _, _, hm⟩ := (HJ.out _ (Up.refl w)).is
                injection e' with ea eb ec
                obtain ⟨g2, off2, ga, gl, hx⟩ := hm (by omega)
                subst ea ga
                clear hm eb ec
                have q0_ := (U.facts.1 g2 _ gl).trans (hx k hlt 0 (by omega))
                have q1_ := (U.facts.1 g2 _ gl).trans (hx k hlt 1 (by omega))
                obtain ⟨⟨r0, r1⟩, hss⟩ : ∃ s, qs.getD k (0, 0) = s := ⟨_, rfl⟩
                rw [hss] at q0_ q1_ hin
                dsimp only at hin
                replace q0_ : wr.cell? ⟨g2, off2 + k * 2, none⟩ = some (.int .i64 r0) := q0_
                replace q1_ : wr.cell? ⟨g2, off2 + k * 2 + 1, none⟩ = some (.int .i64 r1) := q1_
                obtain ⟨yk, hyk⟩ : ∃ z, y (13 + (k : Int)) = z := ⟨_, rfl⟩
                rw [hyk] at ck
                have Uz := Up.refl wr
                have HX := Lib.hid (fun w' (u : Up wr w') => And.intro (u.cell2 ck) (And.intro (u.cell2 q0_) (u.cell2 q1_)))
                have H1 := Lib.hid (fun w => show Calls Try.prog 40 #[SpV l1 h1, .int .i64 yk] w fun e w' => e = .returned (.bool true) ∧ Up w w' by rw [← inB_yes (show l1 ≤ yk by omega) (show yk ≤ h1 by omega)]; exact B_Has_any _ _ _ w)
                have H2 := Lib.hid (fun w => show Calls Try.prog 41 #[SpV l1 h1, SpV r0 r1] w fun e w' => e = .returned (.bool true) ∧ Up w w' by rw [← decide_eq_true hin]; exact B_Within_any _ _ _ _ w)
                have ew : IntKind.i64.wrap ((k : Int) + 1) = (k : Int) + 1 := IntWalk.i64_in _ (by omega)
                have dk : decide ((k : Int) < (qs.length : Int)) = true := decide_eq_true (by omega)
                have ilt : (k : Int) < (qs.length : Int) := by omega
                clear t1 p1 hyk hx gl ck q0_ q1_ b1 b2 hss hin
                go_wp2_with fail
                refine (C1.out _ Ux).mono ?_
                rintro e x501 ⟨rfl, u502⟩
                replace U := U.trans u502
                replace kB := u502.blk kB
                replace kt := u502.blk kt
                replace ky := u502.blk ky
                replace Ux := Ux.trans u502
                replace Uz := Uz.trans u502
                clear u502 C1
                have dkBk1 := blk_lt kB
                have dktk1 := blk_lt kt
                have dkyk1 := blk_lt ky
                have gk1 := U.size
                have k1 := blk_new x501 (.cells #[.int .i64 l1, .int .i64 h1] 23) _ rfl
                replace kB := blk_keep (.cells #[.int .i64 l1, .int .i64 h1] 23) kB
                replace kt := blk_keep (.cells #[.int .i64 l1, .int .i64 h1] 23) kt
                replace ky := blk_keep (.cells #[.int .i64 l1, .int .i64 h1] 23) ky
                replace U := U.alloc (.cells #[.int .i64 l1, .int .i64 h1] 23)
                replace Ux := Ux.alloc (.cells #[.int .i64 l1, .int .i64 h1] 23)
                replace Uz := Uz.alloc (.cells #[.int .i64 l1, .int .i64 h1] 23)
                obtain ⟨pk1, hpk1⟩ : ∃ z, x501.heap.size = z := ⟨_, rfl⟩
                obtain ⟨W503, hW503⟩ : ∃ z, x501.alloc (.cells #[.int .i64 l1, .int .i64 h1] 23) = z := ⟨_, rfl⟩
                rw [hpk1] at k1 dkBk1 dktk1 dkyk1 gk1
                rw [hW503] at k1 U kB kt ky Ux Uz
                go_wp2_with fail
                clear hpk1 hW503
                have F505 := Lib.hid (fun w (u : Up W503 w) => cellB (u.blk kB))
                have F506 := Lib.hid (fun w (u : Up W503 w) => cellB (u.blk kt))
                have F507 := Lib.hid (fun w (u : Up W503 w) => cellB (u.blk ky))
                have F508 := Lib.hid (fun w (u : Up W503 w) => cellB (u.blk k1))
                refine (wpIn_wide (n := 5)).1 ?_
                refine wpIn_nrm ?_
                refine T.regionQ (fun w' => Up W503 w') 21 1 hmx (by kernel_rfl) (by kernel_rfl) ((Up.refl W503).drew) (fun hCl => ?_)
                refine T.qT 0 (some 155) ?v52 rfl rfl hCl ?hy52 (fun hCl' => ?_)
                case hy52 => (intro w hSw; refine T.qVal ?_ hSw; (try dsimp only [List.getElem_toArray, List.getElem_cons_succ, List.getElem_cons_zero]); go_simp; try with_reducible rfl)
                simp only [Act.put, List.setIfInBounds_toArray, List.set_cons_zero, List.set_cons_succ]; replace hCl := hCl'; clear hCl'
                refine T.qT 1 (some 156) ?v53 rfl rfl hCl ?hy53 (fun hCl' => ?_)
                case hy53 => (intro w hSw; refine T.qVal ?_ hSw; (try dsimp only [List.getElem_toArray, List.getElem_cons_succ, List.getElem_cons_zero]); go_simp; try with_reducible rfl)
                simp only [Act.put, List.setIfInBounds_toArray, List.set_cons_zero, List.set_cons_succ]; replace hCl := hCl'; clear hCl'
                refine T.qT 2 (some 157) ?v54 rfl rfl hCl ?hy54 (fun hCl' => ?_)
                case hy54 => (intro w hSw; refine T.qVal ?_ hSw; (try dsimp only [List.getElem_toArray, List.getElem_cons_succ, List.getElem_cons_zero]); go_simp; try with_reducible rfl)
                simp only [Act.put, List.setIfInBounds_toArray, List.set_cons_zero, List.set_cons_succ]; replace hCl := hCl'; clear hCl'
                refine T.qT 3 (some 158) ?v55 rfl rfl hCl ?hy55 (fun hCl' => ?_)
                case hy55 => (intro w hSw; refine T.qVal ?_ hSw; (have fF505 := F505.out w hSw; have fF506 := F506.out w hSw; have fF507 := F507.out w hSw; have fF508 := F508.out w hSw; obtain ⟨z1, z2, z3⟩ := HX.out w (Uz.trans hSw)); (try dsimp only [List.getElem_toArray, List.getElem_cons_succ, List.getElem_cons_zero]); go_simp; try with_reducible rfl)
                simp only [Act.put, List.setIfInBounds_toArray, List.set_cons_zero, List.set_cons_succ]; replace hCl := hCl'; clear hCl'
                refine T.qT 4 (some 159) ?v56 rfl rfl hCl ?hy56 (fun hCl' => ?_)
                case hy56 => (intro w hSw; refine T.qVal ?_ hSw; (try dsimp only [List.getElem_toArray, List.getElem_cons_succ, List.getElem_cons_zero]); go_simp; try with_reducible rfl)
                simp only [Act.put, List.setIfInBounds_toArray, List.set_cons_zero, List.set_cons_succ]; replace hCl := hCl'; clear hCl'
                refine T.qT 6 (some 161) ?v57 rfl rfl hCl ?hy57 (fun hCl' => ?_)
                case hy57 => (intro w hSw; refine T.qVal ?_ hSw; (try dsimp only [List.getElem_toArray, List.getElem_cons_succ, List.getElem_cons_zero]); go_simp; try with_reducible rfl)
                simp only [Act.put, List.setIfInBounds_toArray, List.set_cons_zero, List.set_cons_succ]; replace hCl := hCl'; clear hCl'
                refine T.qT 5 (some 160) ?v58 rfl rfl hCl ?hy58 (fun hCl' => ?_)
                case hy58 => (intro w hSw; refine T.qVal ?_ hSw; (have fF505 := F505.out w hSw; have fF506 := F506.out w hSw; have fF507 := F507.out w hSw; have fF508 := F508.out w hSw; obtain ⟨z1, z2, z3⟩ := HX.out w (Uz.trans hSw)); (try dsimp only [List.getElem_toArray, List.getElem_cons_succ, List.getElem_cons_zero]); go_simp; try with_reducible rfl)
                simp only [Act.put, List.setIfInBounds_toArray, List.set_cons_zero, List.set_cons_succ]; replace hCl := hCl'; clear hCl'
                refine T.qT 7 (some 162) ?v59 rfl rfl hCl ?hy59 (fun hCl' => ?_)
                case hy59 => (intro w hSw; refine T.qVal ?_ hSw; (try dsimp only [List.getElem_toArray, List.getElem_cons_succ, List.getElem_cons_zero]); go_simp; try with_reducible rfl)
                simp only [Act.put, List.setIfInBounds_toArray, List.set_cons_zero, List.set_cons_succ]; replace hCl := hCl'; clear hCl'
                refine T.qT 8 (some 163) ?v60 rfl rfl hCl ?hy60 (fun hCl' => ?_)
                case hy60 => (intro w hSw; refine T.qVal ?_ hSw; (have fF505 := F505.out w hSw; have fF506 := F506.out w hSw; have fF507 := F507.out w hSw; have fF508 := F508.out w hSw; obtain ⟨z1, z2, z3⟩ := HX.out w (Uz.trans hSw)); (try dsimp only [List.getElem_toArray, List.getElem_cons_succ, List.getElem_cons_zero]); go_simp; try with_reducible rfl)
                simp only [Act.put, List.setIfInBounds_toArray, List.set_cons_zero, List.set_cons_succ]; replace hCl := hCl'; clear hCl'
                refine T.qT 9 (some 164) ((.bool true)) rfl rfl hCl ?hy61 (fun hCl' => ?_)
                case hy61 => (intro w hSw; (have fF505 := F505.out w hSw; have fF506 := F506.out w hSw; have fF507 := F507.out w hSw; have fF508 := F508.out w hSw; obtain ⟨z1, z2, z3⟩ := HX.out w (Uz.trans hSw)); (try dsimp only [List.getElem_toArray, List.getElem_cons_succ, List.getElem_cons_zero]); go_simp; (refine (callsIn_wide.2 (H1.out w)).mono ?_; rintro e w3 ⟨rfl, u3⟩; exact ⟨rfl, hSw.trans u3⟩))
                simp only [Act.put, List.setIfInBounds_toArray, List.set_cons_zero, List.set_cons_succ]
                replace hCl := hCl'; clear hCl'
                refine T.qT 10 (some 165) ?v62 rfl rfl hCl ?hy62 (fun hCl' => ?_)
                case hy62 => (intro w hSw; refine T.qVal ?_ hSw; (try dsimp only [List.getElem_toArray, List.getElem_cons_succ, List.getElem_cons_zero]); go_simp; try with_reducible rfl)
                simp only [Act.put, List.setIfInBounds_toArray, List.set_cons_zero, List.set_cons_succ]; replace hCl := hCl'; clear hCl'
                refine T.qT 11 (some 166) ?v63 rfl rfl hCl ?hy63 (fun hCl' => ?_)
                case hy63 => (intro w hSw; refine T.qVal ?_ hSw; (try dsimp only [List.getElem_toArray, List.getElem_cons_succ, List.getElem_cons_zero]); go_simp; try with_reducible rfl)
                simp only [Act.put, List.setIfInBounds_toArray, List.set_cons_zero, List.set_cons_succ]; replace hCl := hCl'; clear hCl'
                refine T.qT 12 (some 167) ?v64 rfl rfl hCl ?hy64 (fun hCl' => ?_)
                case hy64 => (intro w hSw; refine T.qVal ?_ hSw; (try dsimp only [List.getElem_toArray, List.getElem_cons_succ, List.getElem_cons_zero]); go_simp; try with_reducible rfl)
                simp only [Act.put, List.setIfInBounds_toArray, List.set_cons_zero, List.set_cons_succ]; replace hCl := hCl'; clear hCl'
                refine T.qT 13 (some 168) ?v65 rfl rfl hCl ?hy65 (fun hCl' => ?_)
                case hy65 => (intro w hSw; refine T.qVal ?_ hSw; (have fF505 := F505.out w hSw; have fF506 := F506.out w hSw; have fF507 := F507.out w hSw; have fF508 := F508.out w hSw; obtain ⟨z1, z2, z3⟩ := HX.out w (Uz.trans hSw)); (try dsimp only [List.getElem_toArray, List.getElem_cons_succ, List.getElem_cons_zero]); go_simp; try with_reducible rfl)
                simp only [Act.put, List.setIfInBounds_toArray, List.set_cons_zero, List.set_cons_succ]; replace hCl := hCl'; clear hCl'
                refine T.qT 14 (some 169) ?v66 rfl rfl hCl ?hy66 (fun hCl' => ?_)
                case hy66 => (intro w hSw; refine T.qVal ?_ hSw; (try dsimp only [List.getElem_toArray, List.getElem_cons_succ, List.getElem_cons_zero]); go_simp; try with_reducible rfl)
                simp only [Act.put, List.setIfInBounds_toArray, List.set_cons_zero, List.set_cons_succ]; replace hCl := hCl'; clear hCl'
                refine T.qT 16 (some 171) ?v67 rfl rfl hCl ?hy67 (fun hCl' => ?_)
                case hy67 => (intro w hSw; refine T.qVal ?_ hSw; (try dsimp only [List.getElem_toArray, List.getElem_cons_succ, List.getElem_cons_zero]); go_simp; try with_reducible rfl)
                simp only [Act.put, List.setIfInBounds_toArray, List.set_cons_zero, List.set_cons_succ]; replace hCl := hCl'; clear hCl'
                refine T.qT 15 (some 170) ?v68 rfl rfl hCl ?hy68 (fun hCl' => ?_)
                case hy68 => (intro w hSw; refine T.qVal ?_ hSw; (have fF505 := F505.out w hSw; have fF506 := F506.out w hSw; have fF507 := F507.out w hSw; have fF508 := F508.out w hSw; obtain ⟨z1, z2, z3⟩ := HX.out w (Uz.trans hSw)); (try dsimp only [List.getElem_toArray, List.getElem_cons_succ, List.getElem_cons_zero]); go_simp; try with_reducible rfl)
                simp only [Act.put, List.setIfInBounds_toArray, List.set_cons_zero, List.set_cons_succ]; replace hCl := hCl'; clear hCl'
                refine T.qT 17 (some 172) ?v69 rfl rfl hCl ?hy69 (fun hCl' => ?_)
                case hy69 => (intro w hSw; refine T.qVal ?_ hSw; (try dsimp only [List.getElem_toArray, List.getElem_cons_succ, List.getElem_cons_zero]); go_simp; try with_reducible rfl)
                simp only [Act.put, List.setIfInBounds_toArray, List.set_cons_zero, List.set_cons_succ]; replace hCl := hCl'; clear hCl'
                refine T.qT 18 (some 173) ?v70 rfl rfl hCl ?hy70 (fun hCl' => ?_)
                case hy70 => (intro w hSw; refine T.qVal ?_ hSw; (have fF505 := F505.out w hSw; have fF506 := F506.out w hSw; have fF507 := F507.out w hSw; have fF508 := F508.out w hSw; obtain ⟨z1, z2, z3⟩ := HX.out w (Uz.trans hSw)); (try dsimp only [List.getElem_toArray, List.getElem_cons_succ, List.getElem_cons_zero]); go_simp; try with_reducible rfl)
                simp only [Act.put, List.setIfInBounds_toArray, List.set_cons_zero, List.set_cons_succ]; replace hCl := hCl'; clear hCl'
                refine T.qT 19 (some 174) ((.bool true)) rfl rfl hCl ?hy71 (fun hCl' => ?_)
                case hy71 => (intro w hSw; (have fF505 := F505.out w hSw; have fF506 := F506.out w hSw; have fF507 := F507.out w hSw; have fF508 := F508.out w hSw; obtain ⟨z1, z2, z3⟩ := HX.out w (Uz.trans hSw)); (try dsimp only [List.getElem_toArray, List.getElem_cons_succ, List.getElem_cons_zero]); go_simp; (refine (callsIn_wide.2 (H2.out w)).mono ?_; rintro e w3 ⟨rfl, u3⟩; exact ⟨rfl, hSw.trans u3⟩))
                simp only [Act.put, List.setIfInBounds_toArray, List.set_cons_zero, List.set_cons_succ]
                replace hCl := hCl'; clear hCl'
                refine T.qT 20 (some 175) ?v72 rfl rfl hCl ?hy72 (fun hCl' => ?_)
                case hy72 => (intro w hSw; refine T.qVal ?_ hSw; (try dsimp only [List.getElem_toArray, List.getElem_cons_succ, List.getElem_cons_zero]); go_simp; try with_reducible rfl)
                simp only [Act.put, List.setIfInBounds_toArray, List.set_cons_zero, List.set_cons_succ]; replace hCl := hCl'; clear hCl'
                refine T.tail_intro (by kernel_rfl) (fun Y504 hY504 => ?_)
                replace U := U.trans hY504
                replace kB := hY504.blk kB
                replace kt := hY504.blk kt
                replace ky := hY504.blk ky
                replace k1 := hY504.blk k1
                replace Ux := Ux.trans hY504
                replace Uz := Uz.trans hY504
                clear F505 F506 F507 F508 hY504
                refine lastG (i := 21) (by kernel_rfl) rfl (by rfl) (by decide) (fun K hK => ?_)
                go_simp
                refine hK.out _ _ ?_
                clear hK K
                refine doneG (by kernel_rfl) ?_ _
                refine S.nrm_intro ?_
                clear HX H1 H2 Uz
                go_wp2_with fail
                go_roundw
                case rel => exact ⟨k + 1, by omega, by go_num, U, Ux, kB, kt, ky⟩
                case measure => (simp only [intOf]; omega)
              · skip
                have hkE : qs.length = k := by omega
                subst hkE
                have dk : decide ((qs.length : Int) < (qs.length : Int)) = false := decide_eq_false (by omega)
                clear hlt hk
                go_wp2_with fail
                refine (HW.out _).mono ?_
                rintro e w9 ⟨rfl, u⟩
                go_wp2
                go_ret
                exact ⟨rfl, U.trans u⟩
end

end Go.Proofs.Ytlpkheoljbdajaa
