import Derived.Test.YtlpkheoljbdajaaWdm
import Derived.Test.YtlpkheoljbdajaaGrw
import Derived.Test.YtlpkheoljbdajaaSou
import Derived.Test.YtlpkheoljbdajaaHeQ
import Derived.Deep.Cut
/- The law StarWider. -/
namespace Go.Proofs.Ytlpkheoljbdajaa
open Go.RowKit Go.Shelf
attribute [local go_sem] Oper.semAt_some

theorem cell_int4 {w : World} {b : Nat} {cs : Array Value} (h : mblk w b = some (.cells cs 65 (0, 0))) (j : Nat) : w.cell? ⟨b, j, none⟩ = cs[j]? := cellB h j
attribute [local go_sem] cell_int4
section
variable {bl bh rl rh : Int} {aP aQ aL : Option Addr} {nP cP nQ cQ nL cL : Nat} {ps qs : List (Int × Int)} {ls : List T.T5}
set_option maxRecDepth 100000 in
set_option maxHeartbeats 8000000 in
theorem starWider_any {M n0 n1 n2 n3 : Int} {w : World} (I : Sps w (.slice aP nP cP) ps) (J : Sps w (.slice aQ nQ cQ) qs) (K : Lks w (.slice aL nL cL) ls) :
    Calls Try.prog 11 #[BoV M bl bh rl rh (.slice aP nP cP) (.slice aQ nQ cQ) (.slice aL nL cL), .agg #[.int .i64 n0, .int .i64 n1, .int .i64 n2, .int .i64 n3]] w fun e w' => e = .returned (.bool true) ∧ Up w w' := by
  have U := (((Up.refl w).alloc (.cells (BoC M bl bh rl rh (.slice aP nP cP) (.slice aQ nQ cQ) (.slice aL nL cL)) 27)).alloc (.cells #[.int .i64 n0, .int .i64 n1, .int .i64 n2, .int .i64 n3] 65))
  have HW := Lib.hid (fun w => l_works_any w)
  cases hv : T.valid M bl bh rl rh ps qs ls with
  | false =>
    have HS := Lib.hid (fun w' (u : Up w w') => l_sound_no (I.up u) (J.up u) (K.up u) hv)
    clear hv I J K 
    go_enter Try.func11, Try.ntmps11
    go_wp2_with fail
    refine (HS.out _ U).mono ?_
    rintro e w1 ⟨rfl, u1⟩
    go_wp2_with fail
    refine (HW.out _).mono ?_
    rintro e w2 ⟨rfl, u2⟩
    go_wp2
    go_ret
    exact ⟨rfl, (U.trans u1).trans u2⟩
  | true =>
    obtain ⟨N, rfl⟩ := T.valid_N hv
    obtain ⟨⟨hN, hB, hR⟩, ⟨h4, h5, h10⟩, hP, hQ, hL⟩ := T.valid_parts hv
    have HS := Lib.hid (fun w' (u : Up w w') => l_sound_yes (I.up u) (J.up u) (K.up u) hv)
    have hn := I.len
    have hno := J.len
    have hnp := K.len
    have hmx : Try.prog.follows .mixedOrders = true := by kernel_rfl
    subst hn hno hnp
    have HRk := Lib.hid (fun w => B_Rest_any n3 (N : Int) w (by omega) (by omega))
    have ak := Int.emod_nonneg n3 (b := (N : Int)) (by omega)
    have bk := Int.emod_lt_of_pos n3 (b := (N : Int)) (by omega)
    generalize n3 % (N : Int) = k at *
    have HRbq := Lib.hid (fun w => B_Rest_any n2 (60 : Int) w (by omega) (by omega))
    have abq := Int.emod_nonneg n2 (b := (60 : Int)) (by omega)
    have bbq := Int.emod_lt_of_pos n2 (b := (60 : Int)) (by omega)
    generalize n2 % (60 : Int) = bq at *
    have HRcc := Lib.hid (fun w => B_Rest_any n0 (5 : Int) w (by omega) (by omega))
    have acc := Int.emod_nonneg n0 (b := (5 : Int)) (by omega)
    have bcc := Int.emod_lt_of_pos n0 (b := (5 : Int)) (by omega)
    generalize n0 % (5 : Int) = cc at *
    obtain ⟨la, ha, ea, ta, va, wa, xa⟩ := T.Tells.ex (o := T.o0) (m := 0) (i := (1 + k)) hv T.al_0 (T.al_night ⟨ak, bk⟩)
    have Ca := Lib.hid (fun w' (u : Up w w') => Offset_tells hv ⟨ak, bk⟩ ta (I.up u) (J.up u) (K.up u))
    have HTo := Lib.hid (fun l h w => B_To_any l h w)
    have HWi := Lib.hid (fun l h l' h' w (p : l' ≤ l ∧ h ≤ h') => show Calls Try.prog 41 #[SpV l h, SpV l' h'] w fun e w' => e = .returned (.bool true) ∧ Up w w' by rw [← decide_eq_true p]; exact B_Within_any _ _ _ _ w)
    have hcc : cc = 0 ∨ cc = 1 ∨ cc = 2 ∨ cc = 3 ∨ cc = 4 := by omega
    have HWo := Lib.hid (fun w => l_wideOf_any (M := (N : Int)) (bl := bl) (bh := bh) (rl := rl) (rh := rh) (aP := aP) (nP := ps.length) (cP := cP) (aQ := aQ) (nQ := qs.length) (cQ := cQ) (aL := aL) (nL := ls.length) (cL := cL) hcc w)
    have hwd : (T.wide cc ps.length qs.length ls.length = 0) ∨ (T.wide cc ps.length qs.length ls.length = 1) ∨ (T.wide cc ps.length qs.length ls.length = 2 ∧ 0 < ps.length) ∨ (T.wide cc ps.length qs.length ls.length = 3 ∧ 0 < qs.length) ∨ (T.wide cc ps.length qs.length ls.length = 4 ∧ 0 < ls.length) := by
      unfold T.wide
      rcases hcc with rfl | rfl | rfl | rfl | rfl
      · rw [if_neg (by omega)]; omega
      · rw [if_neg (by omega)]; omega
      · by_cases h : ps.length = 0
        · rw [if_pos (by omega)]; omega
        · rw [if_neg (by omega)]; omega
      · by_cases h : qs.length = 0
        · rw [if_pos (by omega)]; omega
        · rw [if_neg (by omega)]; omega
      · by_cases h : ls.length = 0
        · rw [if_pos (by omega)]; omega
        · rw [if_neg (by omega)]; omega
    obtain ⟨wd, hwe⟩ : ∃ x, T.wide cc ps.length qs.length ls.length = x := ⟨_, rfl⟩
    rw [hwe] at HWo hwd
    clear hwe hcc
    have HI := Lib.hid (fun w' (u : Up w w') => I.up u)
    have HJ := Lib.hid (fun w' (u : Up w w') => J.up u)
    have HK := Lib.hid (fun w' (u : Up w w') => K.up u)
    have HV := Lib.hid hv
    have HB := Lib.hid (And.intro hN (And.intro hB hR))
    have HL4 := Lib.hid (And.intro h4 (And.intro h5 h10))
    have HPQ := Lib.hid (And.intro hP (And.intro hQ hL))
    have HTa := Lib.hid ta
    have hbq : 0 ≤ bq ∧ bq ≤ 60 := by omega
    have hkN := And.intro ak bk
    have HKN := Lib.hid hkN
    clear ta va wa xa hv I J K hkN abq bbq acc bcc hP hQ hL
    go_enter Try.func11, Try.ntmps11
    obtain ⟨q0, e0⟩ : ∃ x, w.heap.size = x := ⟨_, rfl⟩
    have kB := (blk_keep (.cells #[.int .i64 n0, .int .i64 n1, .int .i64 n2, .int .i64 n3] 65) (blk_new w (.cells (BoC (N : Int) bl bh rl rh (.slice aP ps.length cP) (.slice aQ qs.length cQ) (.slice aL ls.length cL)) 27) q0 e0.symm))
    have kN := (blk_new (w.alloc (.cells (BoC (N : Int) bl bh rl rh (.slice aP ps.length cP) (.slice aQ qs.length cQ) (.slice aL ls.length cL)) 27)) (.cells #[.int .i64 n0, .int .i64 n1, .int .i64 n2, .int .i64 n3] 65) (q0 + 1) (by simp [e0]))
    go_wp2_with fail
    refine (HS.out _ U).mono ?_
    rintro e x1 ⟨rfl, u2⟩
    replace U := U.trans u2
    replace kB := u2.blk kB
    replace kN := u2.blk kN
    clear u2 HS
    have i0 := kB
    have i1 := kN
    have dkBkx := blk_lt kB
    have dkNkx := blk_lt kN
    have gkx := U.size
    have kx := blk_new x1 (.cells (BoC (N : Int) bl bh rl rh (.slice aP ps.length cP) (.slice aQ qs.length cQ) (.slice aL ls.length cL)) 27) _ rfl
    replace kB := blk_keep (.cells (BoC (N : Int) bl bh rl rh (.slice aP ps.length cP) (.slice aQ qs.length cQ) (.slice aL ls.length cL)) 27) kB
    replace kN := blk_keep (.cells (BoC (N : Int) bl bh rl rh (.slice aP ps.length cP) (.slice aQ qs.length cQ) (.slice aL ls.length cL)) 27) kN
    replace U := U.alloc (.cells (BoC (N : Int) bl bh rl rh (.slice aP ps.length cP) (.slice aQ qs.length cQ) (.slice aL ls.length cL)) 27)
    obtain ⟨pkx, hpkx⟩ : ∃ z, x1.heap.size = z := ⟨_, rfl⟩
    obtain ⟨W3, hW3⟩ : ∃ z, x1.alloc (.cells (BoC (N : Int) bl bh rl rh (.slice aP ps.length cP) (.slice aQ qs.length cQ) (.slice aL ls.length cL)) 27) = z := ⟨_, rfl⟩
    rw [hpkx] at kx dkBkx dkNkx gkx
    rw [hW3] at kx U kB kN
    go_wp2_with fail
    clear hpkx hW3
    clear i0 i1
    refine (HRbq.out _).mono ?_
    rintro e x4 ⟨rfl, rfl⟩
    clear HRbq
    go_wp2_with fail
    have F6 := Lib.hid (fun w (u : Up W3 w) => cellB (u.blk kB))
    have F7 := Lib.hid (fun w (u : Up W3 w) => cellB (u.blk kN))
    have F8 := Lib.hid (fun w (u : Up W3 w) => cellB (u.blk kx))
    refine (wpIn_wide (n := 5)).1 ?_
    refine wpIn_nrm ?_
    refine T.regionQ (fun w' => Up W3 w') 5 1 hmx (by kernel_rfl) (by kernel_rfl) ((Up.refl W3).drew) (fun hCl => ?_)
    refine T.qT 0 (some 25) ?v1 rfl rfl hCl ?hy1 (fun hCl' => ?_)
    case hy1 => (intro w hSw; refine T.qVal ?_ hSw; (try dsimp only [List.getElem_toArray, List.getElem_cons_succ, List.getElem_cons_zero]); go_simp; try with_reducible rfl)
    simp only [Act.put, List.setIfInBounds_toArray, List.set_cons_zero, List.set_cons_succ]; replace hCl := hCl'; clear hCl'
    refine T.qT 3 (some 28) ?v2 rfl rfl hCl ?hy2 (fun hCl' => ?_)
    case hy2 => (intro w hSw; refine T.qVal ?_ hSw; (have fF6 := F6.out w hSw; have fF7 := F7.out w hSw; have fF8 := F8.out w hSw); (try dsimp only [List.getElem_toArray, List.getElem_cons_succ, List.getElem_cons_zero]); go_simp; try with_reducible rfl)
    simp only [Act.put, List.setIfInBounds_toArray, List.set_cons_zero, List.set_cons_succ]; replace hCl := hCl'; clear hCl'
    refine T.qT 1 (some 26) ?v3 rfl rfl hCl ?hy3 (fun hCl' => ?_)
    case hy3 => (intro w hSw; refine T.qVal ?_ hSw; (have fF6 := F6.out w hSw; have fF7 := F7.out w hSw; have fF8 := F8.out w hSw); (try dsimp only [List.getElem_toArray, List.getElem_cons_succ, List.getElem_cons_zero]); go_simp; try with_reducible rfl)
    simp only [Act.put, List.setIfInBounds_toArray, List.set_cons_zero, List.set_cons_succ]; replace hCl := hCl'; clear hCl'
    refine T.qT 2 (some 27) ((.int .i64 cc)) rfl rfl hCl ?hy4 (fun hCl' => ?_)
    case hy4 => (intro w hSw; (have fF6 := F6.out w hSw; have fF7 := F7.out w hSw; have fF8 := F8.out w hSw); (try dsimp only [List.getElem_toArray, List.getElem_cons_succ, List.getElem_cons_zero]); go_simp; (refine (callsIn_wide.2 (HRcc.out w)).mono ?_; rintro e w3 ⟨rfl, rfl⟩; exact ⟨rfl, hSw⟩))
    simp only [Act.put, List.setIfInBounds_toArray, List.set_cons_zero, List.set_cons_succ]
    replace hCl := hCl'; clear hCl'
    refine T.qT 4 (some 29) ((.int .i64 wd)) rfl rfl hCl ?hy5 (fun hCl' => ?_)
    case hy5 => (intro w hSw; (have fF6 := F6.out w hSw; have fF7 := F7.out w hSw; have fF8 := F8.out w hSw); (try dsimp only [List.getElem_toArray, List.getElem_cons_succ, List.getElem_cons_zero]); go_simp; (refine (callsIn_wide.2 (HWo.out w)).mono ?_; rintro e w3 ⟨rfl, u3⟩; exact ⟨rfl, hSw.trans u3⟩))
    simp only [Act.put, List.setIfInBounds_toArray, List.set_cons_zero, List.set_cons_succ]
    replace hCl := hCl'; clear hCl'
    refine T.tail_intro (by kernel_rfl) (fun Y5 hY5 => ?_)
    replace U := U.trans hY5
    replace kB := hY5.blk kB
    replace kN := hY5.blk kN
    replace kx := hY5.blk kx
    clear F6 F7 F8 hY5
    refine lastG (i := 5) (by kernel_rfl) rfl (by rfl) (by decide) (fun K hK => ?_)
    go_simp
    refine hK.out _ _ ?_
    clear hK K
    refine doneG (by kernel_rfl) ?_ _
    refine S.nrm_intro ?_
    clear HRcc HWo
    rcases hwd with rfl | rfl | ⟨rfl, hpos⟩ | ⟨rfl, hpos⟩ | ⟨rfl, hpos⟩
    · skip
      skip
      obtain ⟨l', hl'⟩ : ∃ z, max (-20000) (bl - bq) = z := ⟨_, rfl⟩
      obtain ⟨h', hh'⟩ : ∃ z, min 20000 (bh + bq) = z := ⟨_, rfl⟩
      have hGr := l_grown_any bl bh bq (-20000) 20000
      rw [hl', hh'] at hGr
      have HGr := Lib.hid (fun w => hGr w (by omega) (by omega) (by omega))
      have hin : l' ≤ bl ∧ bh ≤ h' ∧ -20000 ≤ l' ∧ h' ≤ 20000 := by have := HB.out; omega
      clear hGr hl' hh'
      have HGM := Lib.hid (And.intro (show T.valid (N : Int) l' h' rl rh ps qs ls = true from T.valid_mk HB.out.1 (by have := HB.out; omega) (by have := HB.out; omega) HL4.out.1 HL4.out.2.1 HL4.out.2.2 HPQ.out.1 HPQ.out.2.1 HPQ.out.2.2) (show ∀ y, T.Tr N bl bh rl rh ps qs ls y → T.Tr N l' h' rl rh ps qs ls y from fun y hy => T.tr_wd hy (by omega) (by omega) rfl (fun k _ => by omega) rfl (fun k _ => by omega) hy.look))
      clear hin
      go_wp2_with fail
      refine (HGr.out _).mono ?_
      rintro e x101 ⟨rfl, u102⟩
      replace U := U.trans u102
      replace kB := u102.blk kB
      replace kN := u102.blk kN
      replace kx := u102.blk kx
      clear u102 HGr
      have zf := frozB kx
      have i0 := kx
      have U1 := ((U.set (p := ⟨pkx, 1, none⟩) (show w.heap.size ≤ pkx by omega) (.int .i64 l')).set (p := ⟨pkx, 2, none⟩) (show w.heap.size ≤ pkx by omega) (.int .i64 h'))
      have jkB := kB
      rw [← blk_set (x101) ⟨pkx, 1, none⟩ (.int .i64 l') (q0) (by show q0 ≠ pkx; omega), ← blk_set ((x101).setCell ⟨pkx, 1, none⟩ (.int .i64 l')) ⟨pkx, 2, none⟩ (.int .i64 h') (q0) (by show q0 ≠ pkx; omega)] at jkB
      have jkN := kN
      rw [← blk_set (x101) ⟨pkx, 1, none⟩ (.int .i64 l') (q0 + 1) (by show q0 + 1 ≠ pkx; omega), ← blk_set ((x101).setCell ⟨pkx, 1, none⟩ (.int .i64 l')) ⟨pkx, 2, none⟩ (.int .i64 h') (q0 + 1) (by show q0 + 1 ≠ pkx; omega)] at jkN
      have jkx : mblk (((x101).setCell ⟨pkx, 1, none⟩ (.int .i64 l')).setCell ⟨pkx, 2, none⟩ (.int .i64 h')) pkx = some (.cells (BoC (N : Int) l' h' rl rh (.slice aP ps.length cP) (.slice aQ qs.length cQ) (.slice aL ls.length cL)) 27 (0, 0)) := (blk_put (blk_put kx 1 (.int .i64 l')) 2 (.int .i64 h'))
      obtain ⟨W103, hW103⟩ : ∃ z, ((x101).setCell ⟨pkx, 1, none⟩ (.int .i64 l')).setCell ⟨pkx, 2, none⟩ (.int .i64 h') = z := ⟨_, rfl⟩
      rw [hW103] at jkB jkN jkx U1 
      clear kB kN kx U
      have kB := jkB
      have kN := jkN
      have kx := jkx
      have U := U1
      clear jkB jkN jkx U1
      go_wp2_with fail
      clear hW103 zf i0
      have HU := Lib.hid U
      have Uz := Up.refl W103
      obtain ⟨hv', hm'⟩ := HGM.out
      obtain ⟨lt, ht, et, tt, _, _, _⟩ := T.Tells.ex (o := T.o0) (m := 0) (i := (1 + k)) hv' T.al_0 (T.al_night HKN.out)
      have Ct := Lib.hid (fun w' (u : Up W103 w') => Offset_tells hv' HKN.out tt (HI.out _ (HU.out.trans u)) (HJ.out _ (HU.out.trans u)) (HK.out _ (HU.out.trans u)))
      have key := HTa.out.wider hm' tt
      have et' := tt.err
      clear tt hm' hv'
      refine (HRk.out _).mono ?_
      rintro e x104 ⟨rfl, rfl⟩
      clear HRk
      clear kN
      rcases key with ⟨rfl, rfl, rfl⟩ | ⟨rfl, rfl, f1, f2⟩
      · rcases et' with rfl | ⟨rfl, rfl, rfl⟩
        · skip
          go_wp2_with fail
          refine (Ca.out _ U).mono ?_
          rintro e x155 ⟨rfl, u156⟩
          replace U := U.trans u156
          replace kB := u156.blk kB
          replace kx := u156.blk kx
          replace Uz := Uz.trans u156
          clear u156 
          have dkBka := blk_lt kB
          have dkxka := blk_lt kx
          have gka := U.size
          have ka := blk_new x155 (.cells #[.int .i64 0, .int .i64 0] 23) _ rfl
          replace kB := blk_keep (.cells #[.int .i64 0, .int .i64 0] 23) kB
          replace kx := blk_keep (.cells #[.int .i64 0, .int .i64 0] 23) kx
          replace U := U.alloc (.cells #[.int .i64 0, .int .i64 0] 23)
          replace Uz := Uz.alloc (.cells #[.int .i64 0, .int .i64 0] 23)
          go_wp2_with fail
          obtain ⟨pka, hpka⟩ : ∃ z, x155.heap.size = z := ⟨_, rfl⟩
          obtain ⟨W157, hW157⟩ : ∃ z, x155.alloc (.cells #[.int .i64 0, .int .i64 0] 23) = z := ⟨_, rfl⟩
          rw [hpka] at ka dkBka dkxka gka
          rw [hW157] at ka U kB kx Uz
          rw [hW157, hpka]
          go_wp2_with fail
          clear hpka hW157
          refine (Ct.out _ Uz).mono ?_
          rintro e x158 ⟨rfl, u159⟩
          replace U := U.trans u159
          replace kB := u159.blk kB
          replace kx := u159.blk kx
          replace ka := u159.blk ka
          replace Uz := Uz.trans u159
          clear u159 
          have dkBkt := blk_lt kB
          have dkxkt := blk_lt kx
          have dkakt := blk_lt ka
          have gkt := U.size
          have kt := blk_new x158 (.cells #[.int .i64 lt, .int .i64 ht] 23) _ rfl
          replace kB := blk_keep (.cells #[.int .i64 lt, .int .i64 ht] 23) kB
          replace kx := blk_keep (.cells #[.int .i64 lt, .int .i64 ht] 23) kx
          replace ka := blk_keep (.cells #[.int .i64 lt, .int .i64 ht] 23) ka
          replace U := U.alloc (.cells #[.int .i64 lt, .int .i64 ht] 23)
          replace Uz := Uz.alloc (.cells #[.int .i64 lt, .int .i64 ht] 23)
          obtain ⟨pkt, hpkt⟩ : ∃ z, x158.heap.size = z := ⟨_, rfl⟩
          obtain ⟨W160, hW160⟩ : ∃ z, x158.alloc (.cells #[.int .i64 lt, .int .i64 ht] 23) = z := ⟨_, rfl⟩
          rw [hpkt] at kt dkBkt dkxkt dkakt gkt
          rw [hW160] at kt U kB kx ka Uz
          go_wp2_with fail
          clear hpkt hW160
          refine (HW.out _).mono ?_
          rintro e x161 ⟨rfl, u162⟩
          replace U := U.trans u162
          replace kB := u162.blk kB
          replace kx := u162.blk kx
          replace ka := u162.blk ka
          replace kt := u162.blk kt
          replace Uz := Uz.trans u162
          clear u162 
          go_wp2
          go_ret
          exact ⟨rfl, U⟩
        · skip
          go_wp2_with fail
          refine (Ca.out _ U).mono ?_
          rintro e x155 ⟨rfl, u156⟩
          replace U := U.trans u156
          replace kB := u156.blk kB
          replace kx := u156.blk kx
          replace Uz := Uz.trans u156
          clear u156 
          have dkBka := blk_lt kB
          have dkxka := blk_lt kx
          have gka := U.size
          have ka := blk_new x155 (.cells #[.int .i64 0, .int .i64 0] 23) _ rfl
          replace kB := blk_keep (.cells #[.int .i64 0, .int .i64 0] 23) kB
          replace kx := blk_keep (.cells #[.int .i64 0, .int .i64 0] 23) kx
          replace U := U.alloc (.cells #[.int .i64 0, .int .i64 0] 23)
          replace Uz := Uz.alloc (.cells #[.int .i64 0, .int .i64 0] 23)
          go_wp2_with fail
          obtain ⟨pka, hpka⟩ : ∃ z, x155.heap.size = z := ⟨_, rfl⟩
          obtain ⟨W157, hW157⟩ : ∃ z, x155.alloc (.cells #[.int .i64 0, .int .i64 0] 23) = z := ⟨_, rfl⟩
          rw [hpka] at ka dkBka dkxka gka
          rw [hW157] at ka U kB kx Uz
          rw [hW157, hpka]
          go_wp2_with fail
          clear hpka hW157
          refine (Ct.out _ Uz).mono ?_
          rintro e x158 ⟨rfl, u159⟩
          replace U := U.trans u159
          replace kB := u159.blk kB
          replace kx := u159.blk kx
          replace ka := u159.blk ka
          replace Uz := Uz.trans u159
          clear u159 
          have dkBkt := blk_lt kB
          have dkxkt := blk_lt kx
          have dkakt := blk_lt ka
          have gkt := U.size
          have kt := blk_new x158 (.cells #[.int .i64 0, .int .i64 0] 23) _ rfl
          replace kB := blk_keep (.cells #[.int .i64 0, .int .i64 0] 23) kB
          replace kx := blk_keep (.cells #[.int .i64 0, .int .i64 0] 23) kx
          replace ka := blk_keep (.cells #[.int .i64 0, .int .i64 0] 23) ka
          replace U := U.alloc (.cells #[.int .i64 0, .int .i64 0] 23)
          replace Uz := Uz.alloc (.cells #[.int .i64 0, .int .i64 0] 23)
          go_wp2_with fail
          obtain ⟨pkt, hpkt⟩ : ∃ z, x158.heap.size = z := ⟨_, rfl⟩
          obtain ⟨W160, hW160⟩ : ∃ z, x158.alloc (.cells #[.int .i64 0, .int .i64 0] 23) = z := ⟨_, rfl⟩
          rw [hpkt] at kt dkBkt dkxkt dkakt gkt
          rw [hW160] at kt U kB kx ka Uz
          rw [hW160, hpkt]
          go_wp2_with fail
          clear hpkt hW160
          refine (HW.out _).mono ?_
          rintro e x161 ⟨rfl, u162⟩
          replace U := U.trans u162
          replace kB := u162.blk kB
          replace kx := u162.blk kx
          replace ka := u162.blk ka
          replace kt := u162.blk kt
          replace Uz := Uz.trans u162
          clear u162 
          go_wp2
          go_ret
          exact ⟨rfl, U⟩
      · skip
        go_wp2_with fail
        refine (Ca.out _ U).mono ?_
        rintro e x155 ⟨rfl, u156⟩
        replace U := U.trans u156
        replace kB := u156.blk kB
        replace kx := u156.blk kx
        replace Uz := Uz.trans u156
        clear u156 
        have dkBka := blk_lt kB
        have dkxka := blk_lt kx
        have gka := U.size
        have ka := blk_new x155 (.cells #[.int .i64 la, .int .i64 ha] 23) _ rfl
        replace kB := blk_keep (.cells #[.int .i64 la, .int .i64 ha] 23) kB
        replace kx := blk_keep (.cells #[.int .i64 la, .int .i64 ha] 23) kx
        replace U := U.alloc (.cells #[.int .i64 la, .int .i64 ha] 23)
        replace Uz := Uz.alloc (.cells #[.int .i64 la, .int .i64 ha] 23)
        obtain ⟨pka, hpka⟩ : ∃ z, x155.heap.size = z := ⟨_, rfl⟩
        obtain ⟨W157, hW157⟩ : ∃ z, x155.alloc (.cells #[.int .i64 la, .int .i64 ha] 23) = z := ⟨_, rfl⟩
        rw [hpka] at ka dkBka dkxka gka
        rw [hW157] at ka U kB kx Uz
        go_wp2_with fail
        clear hpka hW157
        refine (Ct.out _ Uz).mono ?_
        rintro e x158 ⟨rfl, u159⟩
        replace U := U.trans u159
        replace kB := u159.blk kB
        replace kx := u159.blk kx
        replace ka := u159.blk ka
        replace Uz := Uz.trans u159
        clear u159 
        have dkBkt := blk_lt kB
        have dkxkt := blk_lt kx
        have dkakt := blk_lt ka
        have gkt := U.size
        have kt := blk_new x158 (.cells #[.int .i64 lt, .int .i64 ht] 23) _ rfl
        replace kB := blk_keep (.cells #[.int .i64 lt, .int .i64 ht] 23) kB
        replace kx := blk_keep (.cells #[.int .i64 lt, .int .i64 ht] 23) kx
        replace ka := blk_keep (.cells #[.int .i64 lt, .int .i64 ht] 23) ka
        replace U := U.alloc (.cells #[.int .i64 lt, .int .i64 ht] 23)
        replace Uz := Uz.alloc (.cells #[.int .i64 lt, .int .i64 ht] 23)
        obtain ⟨pkt, hpkt⟩ : ∃ z, x158.heap.size = z := ⟨_, rfl⟩
        obtain ⟨W160, hW160⟩ : ∃ z, x158.alloc (.cells #[.int .i64 lt, .int .i64 ht] 23) = z := ⟨_, rfl⟩
        rw [hpkt] at kt dkBkt dkxkt dkakt gkt
        rw [hW160] at kt U kB kx ka Uz
        go_wp2_with fail
        clear hpkt hW160
        refine (HWi.out _ _ _ _ _ ⟨f1, f2⟩).mono ?_
        rintro e x161 ⟨rfl, u162⟩
        replace U := U.trans u162
        replace kB := u162.blk kB
        replace kx := u162.blk kx
        replace ka := u162.blk ka
        replace kt := u162.blk kt
        replace Uz := Uz.trans u162
        clear u162 
        go_wp2_with fail
        refine (HW.out _).mono ?_
        rintro e x163 ⟨rfl, u164⟩
        replace U := U.trans u164
        replace kB := u164.blk kB
        replace kx := u164.blk kx
        replace ka := u164.blk ka
        replace kt := u164.blk kt
        replace Uz := Uz.trans u164
        clear u164 
        go_wp2
        go_ret
        exact ⟨rfl, U⟩
    · skip
      skip
      obtain ⟨l', hl'⟩ : ∃ z, max (-1000) (rl - bq) = z := ⟨_, rfl⟩
      obtain ⟨h', hh'⟩ : ∃ z, min 1000 (rh + bq) = z := ⟨_, rfl⟩
      have hGr := l_grown_any rl rh bq (-1000) 1000
      rw [hl', hh'] at hGr
      have HGr := Lib.hid (fun w => hGr w (by omega) (by omega) (by omega))
      have hin : l' ≤ rl ∧ rh ≤ h' ∧ -1000 ≤ l' ∧ h' ≤ 1000 := by have := HB.out; omega
      clear hGr hl' hh'
      have HGM := Lib.hid (And.intro (show T.valid (N : Int) bl bh l' h' ps qs ls = true from T.valid_mk HB.out.1 (by have := HB.out; omega) (by have := HB.out; omega) HL4.out.1 HL4.out.2.1 HL4.out.2.2 HPQ.out.1 HPQ.out.2.1 HPQ.out.2.2) (show ∀ y, T.Tr N bl bh rl rh ps qs ls y → T.Tr N bl bh l' h' ps qs ls y from fun y hy => T.tr_wd hy (by omega) (by omega) rfl (fun k _ => by omega) rfl (fun k _ => by omega) hy.look))
      clear hin
      go_wp2_with fail
      refine (HGr.out _).mono ?_
      rintro e x201 ⟨rfl, u202⟩
      replace U := U.trans u202
      replace kB := u202.blk kB
      replace kN := u202.blk kN
      replace kx := u202.blk kx
      clear u202 HGr
      have zf := frozB kx
      have i0 := kx
      have U1 := ((U.set (p := ⟨pkx, 3, none⟩) (show w.heap.size ≤ pkx by omega) (.int .i64 l')).set (p := ⟨pkx, 4, none⟩) (show w.heap.size ≤ pkx by omega) (.int .i64 h'))
      have jkB := kB
      rw [← blk_set (x201) ⟨pkx, 3, none⟩ (.int .i64 l') (q0) (by show q0 ≠ pkx; omega), ← blk_set ((x201).setCell ⟨pkx, 3, none⟩ (.int .i64 l')) ⟨pkx, 4, none⟩ (.int .i64 h') (q0) (by show q0 ≠ pkx; omega)] at jkB
      have jkN := kN
      rw [← blk_set (x201) ⟨pkx, 3, none⟩ (.int .i64 l') (q0 + 1) (by show q0 + 1 ≠ pkx; omega), ← blk_set ((x201).setCell ⟨pkx, 3, none⟩ (.int .i64 l')) ⟨pkx, 4, none⟩ (.int .i64 h') (q0 + 1) (by show q0 + 1 ≠ pkx; omega)] at jkN
      have jkx : mblk (((x201).setCell ⟨pkx, 3, none⟩ (.int .i64 l')).setCell ⟨pkx, 4, none⟩ (.int .i64 h')) pkx = some (.cells (BoC (N : Int) bl bh l' h' (.slice aP ps.length cP) (.slice aQ qs.length cQ) (.slice aL ls.length cL)) 27 (0, 0)) := (blk_put (blk_put kx 3 (.int .i64 l')) 4 (.int .i64 h'))
      obtain ⟨W203, hW203⟩ : ∃ z, ((x201).setCell ⟨pkx, 3, none⟩ (.int .i64 l')).setCell ⟨pkx, 4, none⟩ (.int .i64 h') = z := ⟨_, rfl⟩
      rw [hW203] at jkB jkN jkx U1 
      clear kB kN kx U
      have kB := jkB
      have kN := jkN
      have kx := jkx
      have U := U1
      clear jkB jkN jkx U1
      go_wp2_with fail
      clear hW203 zf i0
      have HU := Lib.hid U
      have Uz := Up.refl W203
      obtain ⟨hv', hm'⟩ := HGM.out
      obtain ⟨lt, ht, et, tt, _, _, _⟩ := T.Tells.ex (o := T.o0) (m := 0) (i := (1 + k)) hv' T.al_0 (T.al_night HKN.out)
      have Ct := Lib.hid (fun w' (u : Up W203 w') => Offset_tells hv' HKN.out tt (HI.out _ (HU.out.trans u)) (HJ.out _ (HU.out.trans u)) (HK.out _ (HU.out.trans u)))
      have key := HTa.out.wider hm' tt
      have et' := tt.err
      clear tt hm' hv'
      refine (HRk.out _).mono ?_
      rintro e x204 ⟨rfl, rfl⟩
      clear HRk
      clear kN
      rcases key with ⟨rfl, rfl, rfl⟩ | ⟨rfl, rfl, f1, f2⟩
      · rcases et' with rfl | ⟨rfl, rfl, rfl⟩
        · skip
          go_wp2_with fail
          refine (Ca.out _ U).mono ?_
          rintro e x255 ⟨rfl, u256⟩
          replace U := U.trans u256
          replace kB := u256.blk kB
          replace kx := u256.blk kx
          replace Uz := Uz.trans u256
          clear u256 
          have dkBka := blk_lt kB
          have dkxka := blk_lt kx
          have gka := U.size
          have ka := blk_new x255 (.cells #[.int .i64 0, .int .i64 0] 23) _ rfl
          replace kB := blk_keep (.cells #[.int .i64 0, .int .i64 0] 23) kB
          replace kx := blk_keep (.cells #[.int .i64 0, .int .i64 0] 23) kx
          replace U := U.alloc (.cells #[.int .i64 0, .int .i64 0] 23)
          replace Uz := Uz.alloc (.cells #[.int .i64 0, .int .i64 0] 23)
          go_wp2_with fail
          obtain ⟨pka, hpka⟩ : ∃ z, x255.heap.size = z := ⟨_, rfl⟩
          obtain ⟨W257, hW257⟩ : ∃ z, x255.alloc (.cells #[.int .i64 0, .int .i64 0] 23) = z := ⟨_, rfl⟩
          rw [hpka] at ka dkBka dkxka gka
          rw [hW257] at ka U kB kx Uz
          rw [hW257, hpka]
          go_wp2_with fail
          clear hpka hW257
          refine (Ct.out _ Uz).mono ?_
          rintro e x258 ⟨rfl, u259⟩
          replace U := U.trans u259
          replace kB := u259.blk kB
          replace kx := u259.blk kx
          replace ka := u259.blk ka
          replace Uz := Uz.trans u259
          clear u259 
          have dkBkt := blk_lt kB
          have dkxkt := blk_lt kx
          have dkakt := blk_lt ka
          have gkt := U.size
          have kt := blk_new x258 (.cells #[.int .i64 lt, .int .i64 ht] 23) _ rfl
          replace kB := blk_keep (.cells #[.int .i64 lt, .int .i64 ht] 23) kB
          replace kx := blk_keep (.cells #[.int .i64 lt, .int .i64 ht] 23) kx
          replace ka := blk_keep (.cells #[.int .i64 lt, .int .i64 ht] 23) ka
          replace U := U.alloc (.cells #[.int .i64 lt, .int .i64 ht] 23)
          replace Uz := Uz.alloc (.cells #[.int .i64 lt, .int .i64 ht] 23)
          obtain ⟨pkt, hpkt⟩ : ∃ z, x258.heap.size = z := ⟨_, rfl⟩
          obtain ⟨W260, hW260⟩ : ∃ z, x258.alloc (.cells #[.int .i64 lt, .int .i64 ht] 23) = z := ⟨_, rfl⟩
          rw [hpkt] at kt dkBkt dkxkt dkakt gkt
          rw [hW260] at kt U kB kx ka Uz
          go_wp2_with fail
          clear hpkt hW260
          refine (HW.out _).mono ?_
          rintro e x261 ⟨rfl, u262⟩
          replace U := U.trans u262
          replace kB := u262.blk kB
          replace kx := u262.blk kx
          replace ka := u262.blk ka
          replace kt := u262.blk kt
          replace Uz := Uz.trans u262
          clear u262 
          go_wp2
          go_ret
          exact ⟨rfl, U⟩
        · skip
          go_wp2_with fail
          refine (Ca.out _ U).mono ?_
          rintro e x255 ⟨rfl, u256⟩
          replace U := U.trans u256
          replace kB := u256.blk kB
          replace kx := u256.blk kx
          replace Uz := Uz.trans u256
          clear u256 
          have dkBka := blk_lt kB
          have dkxka := blk_lt kx
          have gka := U.size
          have ka := blk_new x255 (.cells #[.int .i64 0, .int .i64 0] 23) _ rfl
          replace kB := blk_keep (.cells #[.int .i64 0, .int .i64 0] 23) kB
          replace kx := blk_keep (.cells #[.int .i64 0, .int .i64 0] 23) kx
          replace U := U.alloc (.cells #[.int .i64 0, .int .i64 0] 23)
          replace Uz := Uz.alloc (.cells #[.int .i64 0, .int .i64 0] 23)
          go_wp2_with fail
          obtain ⟨pka, hpka⟩ : ∃ z, x255.heap.size = z := ⟨_, rfl⟩
          obtain ⟨W257, hW257⟩ : ∃ z, x255.alloc (.cells #[.int .i64 0, .int .i64 0] 23) = z := ⟨_, rfl⟩
          rw [hpka] at ka dkBka dkxka gka
          rw [hW257] at ka U kB kx Uz
          rw [hW257, hpka]
          go_wp2_with fail
          clear hpka hW257
          refine (Ct.out _ Uz).mono ?_
          rintro e x258 ⟨rfl, u259⟩
          replace U := U.trans u259
          replace kB := u259.blk kB
          replace kx := u259.blk kx
          replace ka := u259.blk ka
          replace Uz := Uz.trans u259
          clear u259 
          have dkBkt := blk_lt kB
          have dkxkt := blk_lt kx
          have dkakt := blk_lt ka
          have gkt := U.size
          have kt := blk_new x258 (.cells #[.int .i64 0, .int .i64 0] 23) _ rfl
          replace kB := blk_keep (.cells #[.int .i64 0, .int .i64 0] 23) kB
          replace kx := blk_keep (.cells #[.int .i64 0, .int .i64 0] 23) kx
          replace ka := blk_keep (.cells #[.int .i64 0, .int .i64 0] 23) ka
          replace U := U.alloc (.cells #[.int .i64 0, .int .i64 0] 23)
          replace Uz := Uz.alloc (.cells #[.int .i64 0, .int .i64 0] 23)
          go_wp2_with fail
          obtain ⟨pkt, hpkt⟩ : ∃ z, x258.heap.size = z := ⟨_, rfl⟩
          obtain ⟨W260, hW260⟩ : ∃ z, x258.alloc (.cells #[.int .i64 0, .int .i64 0] 23) = z := ⟨_, rfl⟩
          rw [hpkt] at kt dkBkt dkxkt dkakt gkt
          rw [hW260] at kt U kB kx ka Uz
          rw [hW260, hpkt]
          go_wp2_with fail
          clear hpkt hW260
          refine (HW.out _).mono ?_
          rintro e x261 ⟨rfl, u262⟩
          replace U := U.trans u262
          replace kB := u262.blk kB
          replace kx := u262.blk kx
          replace ka := u262.blk ka
          replace kt := u262.blk kt
          replace Uz := Uz.trans u262
          clear u262 
          go_wp2
          go_ret
          exact ⟨rfl, U⟩
      · skip
        go_wp2_with fail
        refine (Ca.out _ U).mono ?_
        rintro e x255 ⟨rfl, u256⟩
        replace U := U.trans u256
        replace kB := u256.blk kB
        replace kx := u256.blk kx
        replace Uz := Uz.trans u256
        clear u256 
        have dkBka := blk_lt kB
        have dkxka := blk_lt kx
        have gka := U.size
        have ka := blk_new x255 (.cells #[.int .i64 la, .int .i64 ha] 23) _ rfl
        replace kB := blk_keep (.cells #[.int .i64 la, .int .i64 ha] 23) kB
        replace kx := blk_keep (.cells #[.int .i64 la, .int .i64 ha] 23) kx
        replace U := U.alloc (.cells #[.int .i64 la, .int .i64 ha] 23)
        replace Uz := Uz.alloc (.cells #[.int .i64 la, .int .i64 ha] 23)
        obtain ⟨pka, hpka⟩ : ∃ z, x255.heap.size = z := ⟨_, rfl⟩
        obtain ⟨W257, hW257⟩ : ∃ z, x255.alloc (.cells #[.int .i64 la, .int .i64 ha] 23) = z := ⟨_, rfl⟩
        rw [hpka] at ka dkBka dkxka gka
        rw [hW257] at ka U kB kx Uz
        go_wp2_with fail
        clear hpka hW257
        refine (Ct.out _ Uz).mono ?_
        rintro e x258 ⟨rfl, u259⟩
        replace U := U.trans u259
        replace kB := u259.blk kB
        replace kx := u259.blk kx
        replace ka := u259.blk ka
        replace Uz := Uz.trans u259
        clear u259 
        have dkBkt := blk_lt kB
        have dkxkt := blk_lt kx
        have dkakt := blk_lt ka
        have gkt := U.size
        have kt := blk_new x258 (.cells #[.int .i64 lt, .int .i64 ht] 23) _ rfl
        replace kB := blk_keep (.cells #[.int .i64 lt, .int .i64 ht] 23) kB
        replace kx := blk_keep (.cells #[.int .i64 lt, .int .i64 ht] 23) kx
        replace ka := blk_keep (.cells #[.int .i64 lt, .int .i64 ht] 23) ka
        replace U := U.alloc (.cells #[.int .i64 lt, .int .i64 ht] 23)
        replace Uz := Uz.alloc (.cells #[.int .i64 lt, .int .i64 ht] 23)
        obtain ⟨pkt, hpkt⟩ : ∃ z, x258.heap.size = z := ⟨_, rfl⟩
        obtain ⟨W260, hW260⟩ : ∃ z, x258.alloc (.cells #[.int .i64 lt, .int .i64 ht] 23) = z := ⟨_, rfl⟩
        rw [hpkt] at kt dkBkt dkxkt dkakt gkt
        rw [hW260] at kt U kB kx ka Uz
        go_wp2_with fail
        clear hpkt hW260
        refine (HWi.out _ _ _ _ _ ⟨f1, f2⟩).mono ?_
        rintro e x261 ⟨rfl, u262⟩
        replace U := U.trans u262
        replace kB := u262.blk kB
        replace kx := u262.blk kx
        replace ka := u262.blk ka
        replace kt := u262.blk kt
        replace Uz := Uz.trans u262
        clear u262 
        go_wp2_with fail
        refine (HW.out _).mono ?_
        rintro e x263 ⟨rfl, u264⟩
        replace U := U.trans u264
        replace kB := u264.blk kB
        replace kx := u264.blk kx
        replace ka := u264.blk ka
        replace kt := u264.blk kt
        replace Uz := Uz.trans u264
        clear u264 
        go_wp2
        go_ret
        exact ⟨rfl, U⟩
    · skip
      skip
      have HRz := Lib.hid (fun w => B_Rest_any n1 (ps.length : Int) w (by omega) (by omega))
      have az := Int.emod_nonneg n1 (b := (ps.length : Int)) (by omega)
      have bz := Int.emod_lt_of_pos n1 (b := (ps.length : Int)) (by omega)
      generalize n1 % (ps.length : Int) = kk at *
      obtain ⟨kk, rfl⟩ := Int.eq_ofNat_of_zero_le az
      have hkk : kk < ps.length := by omega
      have ikk : (kk : Int) < (ps.length : Int) := by omega
      have hl10 : ps.length ≤ 4 := by have := HL4.out; omega
      have hbs := T.per_iff.1 (HPQ.out.1 (ps.getD kk (0, 0)) (T.getD_mem hkk))
      obtain ⟨⟨r0, r1⟩, hss⟩ : ∃ s, ps.getD kk (0, 0) = s := ⟨_, rfl⟩
      rw [hss] at hbs
      dsimp only at hbs
      obtain ⟨a'', c'', e'', _, _, hm⟩ := (HI.out w (Up.refl w)).is
      injection e'' with ea eb ec
      clear eb ec
      obtain ⟨gE, oE, ga, glE, hxE⟩ := hm (by omega)
      subst ea ga
      clear hm
      have HcE := Lib.hid (fun w' (u : Up w w') => And.intro (show w'.cell? ⟨gE, oE + kk * 2, none⟩ = some (.int .i64 r0) by have := hxE kk hkk 0 (by omega); rw [hss] at this; exact (u.facts.1 gE _ glE).trans this) (show w'.cell? ⟨gE, oE + kk * 2 + 1, none⟩ = some (.int .i64 r1) by have := hxE kk hkk 1 (by omega); rw [hss] at this; exact (u.facts.1 gE _ glE).trans this))
      clear hxE glE
      obtain ⟨l', hl'⟩ : ∃ z, max (-2000) (r0 - bq) = z := ⟨_, rfl⟩
      obtain ⟨h', hh'⟩ : ∃ z, min 2000 (r1 + bq) = z := ⟨_, rfl⟩
      have hGr := l_grown_any r0 r1 bq (-2000) 2000
      rw [hl', hh'] at hGr
      have HGr := Lib.hid (fun w => hGr w (by omega) (by omega) (by omega))
      have hin : l' ≤ r0 ∧ r1 ≤ h' ∧ -2000 ≤ l' ∧ h' ≤ 2000 := by omega
      clear hGr hl' hh'
      have HGM := Lib.hid (And.intro (show T.valid (N : Int) bl bh rl rh (ps.set kk (l', h')) (qs) ls = true from T.valid_mk HB.out.1 HB.out.2.1 HB.out.2.2 (by rw [List.length_set]; exact HL4.out.1) (by exact HL4.out.2.1) HL4.out.2.2 (T.mem_set HPQ.out.1 (T.per_iff.2 (by dsimp only; omega))) (HPQ.out.2.1) (by rw [List.length_set]; exact HPQ.out.2.2)) (show ∀ y, T.Tr N bl bh rl rh ps qs ls y → T.Tr N bl bh rl rh (ps.set kk (l', h')) (qs) ls y from fun y hy => T.tr_wd hy (by omega) (by omega) (List.length_set ..) (T.set_wd hkk (by rw [hss]; dsimp only; omega)) rfl (fun k _ => by omega) hy.look))
      clear hin hbs az bz
      go_wp2_with fail
      refine (HRz.out _).mono ?_
      rintro e x301 ⟨rfl, rfl⟩
      clear HRz
      have own0 := World.ownsRow_lit (base := Y5.heap.size) (e := 23) (size := 2) Y5 #[] 0 (Nat.le_refl _) (by unfold maxLen; omega) rfl
      obtain ⟨pe, hpe⟩ : ∃ z, Y5.heap.size = z := ⟨_, rfl⟩
      have IX1 := HI.out _ (U.alloc (.cells #[] 23))
      have U1 := U.alloc (.cells #[] 23)
      have jkB := blk_keep (.cells #[] 23) kB
      have lkB := blk_lt kB
      have jkN := blk_keep (.cells #[] 23) kN
      have lkN := blk_lt kN
      have jkx := blk_keep (.cells #[] 23) kx
      have lkx := blk_lt kx
      rw [hpe] at own0 lkB lkN lkx
      have gw := U.size
      rw [hpe] at gw
      go_wp2_with (at_builtin; refine T.wpList_app (ys := []) T.elS rfl (.tmp 80) (.tmp 82) rfl IX1 rfl pe _ 0 rfl own0 (by omega) (by omega) (by simp [hpe]) ?_; intro v1 w1 own1 grow1; rw [Nat.zero_add] at own1; have rkB := grown_blk grow1 jkB (row_block own0 lkB); have rkN := grown_blk grow1 jkN (row_block own0 lkN); have rkx := grown_blk grow1 jkx (row_block own0 lkx); have U2 : Up w w1 := U1.grown grow1 (fun k e => by (have := row_base own0 k e; omega)); obtain ⟨g2, c2, cur, rfl, hg2, kg, hc2, hm2, hz2⟩ := row_open own1 (by omega); have zx := frozB rkx; have x3 := blk_put rkx 5 (.slice (some ⟨g2, 0, none⟩) ps.length c2))
      obtain ⟨W302, hW302⟩ : ∃ z, w1.setCell ⟨pkx, 5, none⟩ (.slice (some ⟨g2, 0, none⟩) ps.length c2) = z := ⟨_, rfl⟩
      have ltg : pkx < g2 := by omega
      have own3 : W302.ownsRow pe 23 2 (.slice (some ⟨g2, 0, none⟩) ps.length c2) ps.length (T.flat 2 T.encS ps) := by
        rw [← hW302]
        exact row_other own1 (grown_set w1 (pkx) 5 _) (row_block own1 lkx)
      have IX2 : Tab 2 T.encS (0, 0) W302 (.slice (some ⟨g2, 0, none⟩) ps.length c2) ps := Tab.of_row own3 (by decide) (by omega)
      have U4 : Up w W302 := by rw [← hW302]; exact U2.set (p := ⟨pkx, 5, none⟩) (show w.heap.size ≤ pkx by omega) _
      have jg : mblk W302 g2 = some (.cells cur 23 (0, 0)) := by rw [← hW302, blk_set _ _ _ _ (by show g2 ≠ pkx; omega)]; exact kg
      have jx4 : mblk W302 (pkx) = some (.cells (BoC (N : Int) bl bh rl rh (.slice (some ⟨g2, 0, none⟩) ps.length c2) (.slice aQ qs.length cQ) (.slice aL ls.length cL)) 27 (0, 0)) := by rw [← hW302]; exact x3
      have ykB : mblk W302 (q0) = some (.cells (BoC (N : Int) bl bh rl rh (.slice (some ⟨gE, oE, none⟩) ps.length cP) (.slice aQ qs.length cQ) (.slice aL ls.length cL)) 27 (0, 0)) := by rw [← hW302, blk_set _ _ _ _ (by show q0 ≠ pkx; omega)]; exact rkB
      have ykN : mblk W302 (q0 + 1) = some (.cells #[.int .i64 n0, .int .i64 n1, .int .i64 n2, .int .i64 n3] 65 (0, 0)) := by rw [← hW302, blk_set _ _ _ _ (by show q0 + 1 ≠ pkx; omega)]; exact rkN
      have dgkB : q0 < g2 := by omega
      have dgkN : q0 + 1 < g2 := by omega
      try rw [hW302]
      clear hW302 x3 zx kg own1 own3 U2 U1 own0 IX1 grow1 U hpe rkB jkB kB rkN jkN kN rkx jkx kx
      have U := U4
      have kx := jx4
      have kg := jg
      clear U4 jx4 jg
      have kB := ykB
      clear ykB
      have kN := ykN
      clear ykN
      obtain ⟨d0, d1⟩ := HcE.out _ U
      have g0 := Tab.at0 IX2 hkk 0 (by omega)
      have g1 := Tab.at0 IX2 hkk 1 (by omega)
      rw [hss] at g0 g1
      rw [Nat.add_zero] at g0
      replace g0 : W302.cell? ⟨g2, kk * 2, none⟩ = some (.int .i64 r0) := g0
      replace g1 : W302.cell? ⟨g2, kk * 2 + 1, none⟩ = some (.int .i64 r1) := g1
      clear d0 d1
      have HU := Lib.hid U
      have lg2 : g2 < W302.heap.size := blk_lt kg
      have Fg := Lib.hid (fun w (u : Up W302 w) => cellB (u.blk kg))
      have F304 := Lib.hid (fun w (u : Up W302 w) => cellB (u.blk kB))
      have F305 := Lib.hid (fun w (u : Up W302 w) => cellB (u.blk kN))
      have F306 := Lib.hid (fun w (u : Up W302 w) => cellB (u.blk kx))
      refine (wpIn_wide (n := 5)).1 ?_
      refine wpIn_nrm ?_
      refine T.regionQ (fun w' => Up W302 w') 11 1 hmx (by kernel_rfl) (by kernel_rfl) ((Up.refl W302).drew) (fun hCl => ?_)
      refine T.qT 0 (some 85) ?v6 rfl rfl hCl ?hy6 (fun hCl' => ?_)
      case hy6 => (intro w hSw; refine T.qVal ?_ hSw; (try dsimp only [List.getElem_toArray, List.getElem_cons_succ, List.getElem_cons_zero]); go_simp; try with_reducible rfl)
      simp only [Act.put, List.setIfInBounds_toArray, List.set_cons_zero, List.set_cons_succ]; replace hCl := hCl'; clear hCl'
      refine T.qT 2 (some 87) ?v7 rfl rfl hCl ?hy7 (fun hCl' => ?_)
      case hy7 => (intro w hSw; refine T.qVal ?_ hSw; (try dsimp only [List.getElem_toArray, List.getElem_cons_succ, List.getElem_cons_zero]); go_simp; try with_reducible rfl)
      simp only [Act.put, List.setIfInBounds_toArray, List.set_cons_zero, List.set_cons_succ]; replace hCl := hCl'; clear hCl'
      refine T.qT 3 (some 88) ?v8 rfl rfl hCl ?hy8 (fun hCl' => ?_)
      case hy8 => (intro w hSw; refine T.qVal ?_ hSw; (try dsimp only [List.getElem_toArray, List.getElem_cons_succ, List.getElem_cons_zero]); go_simp; try with_reducible rfl)
      simp only [Act.put, List.setIfInBounds_toArray, List.set_cons_zero, List.set_cons_succ]; replace hCl := hCl'; clear hCl'
      refine T.qT 5 (some 90) ?v9 rfl rfl hCl ?hy9 (fun hCl' => ?_)
      case hy9 => (intro w hSw; refine T.qVal ?_ hSw; (try dsimp only [List.getElem_toArray, List.getElem_cons_succ, List.getElem_cons_zero]); go_simp; try with_reducible rfl)
      simp only [Act.put, List.setIfInBounds_toArray, List.set_cons_zero, List.set_cons_succ]; replace hCl := hCl'; clear hCl'
      refine T.qT 8 (some 93) ?v10 rfl rfl hCl ?hy10 (fun hCl' => ?_)
      case hy10 => (intro w hSw; refine T.qVal ?_ hSw; (try dsimp only [List.getElem_toArray, List.getElem_cons_succ, List.getElem_cons_zero]); go_simp; try with_reducible rfl)
      simp only [Act.put, List.setIfInBounds_toArray, List.set_cons_zero, List.set_cons_succ]; replace hCl := hCl'; clear hCl'
      refine T.qT 1 (some 86) ?v11 rfl rfl hCl ?hy11 (fun hCl' => ?_)
      case hy11 => (intro w hSw; refine T.qVal ?_ hSw; (have fF304 := F304.out w hSw; have fF305 := F305.out w hSw; have fF306 := F306.out w hSw; have fFg := Fg.out w hSw; obtain ⟨d0, d1⟩ := HcE.out _ (HU.out.trans hSw)); (try dsimp only [List.getElem_toArray, List.getElem_cons_succ, List.getElem_cons_zero]); go_simp; try with_reducible rfl)
      simp only [Act.put, List.setIfInBounds_toArray, List.set_cons_zero, List.set_cons_succ]; replace hCl := hCl'; clear hCl'
      refine T.qT 4 (some 89) ?v12 rfl rfl hCl ?hy12 (fun hCl' => ?_)
      case hy12 => (intro w hSw; refine T.qVal ?_ hSw; (have fF304 := F304.out w hSw; have fF305 := F305.out w hSw; have fF306 := F306.out w hSw; have fFg := Fg.out w hSw; obtain ⟨d0, d1⟩ := HcE.out _ (HU.out.trans hSw)); (try dsimp only [List.getElem_toArray, List.getElem_cons_succ, List.getElem_cons_zero]); go_simp; try with_reducible rfl)
      simp only [Act.put, List.setIfInBounds_toArray, List.set_cons_zero, List.set_cons_succ]; replace hCl := hCl'; clear hCl'
      refine T.qT 6 (some 91) ?v13 rfl rfl hCl ?hy13 (fun hCl' => ?_)
      case hy13 => (intro w hSw; refine T.qVal ?_ hSw; (try dsimp only [List.getElem_toArray, List.getElem_cons_succ, List.getElem_cons_zero]); go_simp; try with_reducible rfl)
      simp only [Act.put, List.setIfInBounds_toArray, List.set_cons_zero, List.set_cons_succ]; replace hCl := hCl'; clear hCl'
      refine T.qT 7 (some 92) ?v14 rfl rfl hCl ?hy14 (fun hCl' => ?_)
      case hy14 => (intro w hSw; refine T.qVal ?_ hSw; (have fF304 := F304.out w hSw; have fF305 := F305.out w hSw; have fF306 := F306.out w hSw; have fFg := Fg.out w hSw; obtain ⟨d0, d1⟩ := HcE.out _ (HU.out.trans hSw)); (try dsimp only [List.getElem_toArray, List.getElem_cons_succ, List.getElem_cons_zero]); go_simp; try with_reducible rfl)
      simp only [Act.put, List.setIfInBounds_toArray, List.set_cons_zero, List.set_cons_succ]; replace hCl := hCl'; clear hCl'
      refine T.qT 9 (some 94) ((SpV l' h')) rfl rfl hCl ?hy15 (fun hCl' => ?_)
      case hy15 => (intro w hSw; (have fF304 := F304.out w hSw; have fF305 := F305.out w hSw; have fF306 := F306.out w hSw; have fFg := Fg.out w hSw; obtain ⟨d0, d1⟩ := HcE.out _ (HU.out.trans hSw)); (try dsimp only [List.getElem_toArray, List.getElem_cons_succ, List.getElem_cons_zero]); go_simp; (refine (callsIn_wide.2 (HGr.out w)).mono ?_; rintro e w3 ⟨rfl, u3⟩; exact ⟨rfl, hSw.trans u3⟩))
      simp only [Act.put, List.setIfInBounds_toArray, List.set_cons_zero, List.set_cons_succ]
      replace hCl := hCl'; clear hCl'
      refine T.qT 10 (some 95) ?v16 rfl rfl hCl ?hy16 (fun hCl' => ?_)
      case hy16 => (intro w hSw; refine T.qVal ?_ hSw; (try dsimp only [List.getElem_toArray, List.getElem_cons_succ, List.getElem_cons_zero]); go_simp; try with_reducible rfl)
      simp only [Act.put, List.setIfInBounds_toArray, List.set_cons_zero, List.set_cons_succ]; replace hCl := hCl'; clear hCl'
      refine T.tail_intro (by kernel_rfl) (fun Y303 hY303 => ?_)
      replace kg := hY303.blk kg
      replace g0 := (hY303.facts.1 g2 _ lg2).trans g0
      replace g1 := (hY303.facts.1 g2 _ lg2).trans g1
      replace IX2 := IX2.up hY303
      have zg := frozB kg
      have n01 : ¬ kk * 2 = kk * 2 + 1 := by omega
      clear Fg
      replace U := U.trans hY303
      replace kB := hY303.blk kB
      replace kN := hY303.blk kN
      replace kx := hY303.blk kx
      clear F304 F305 F306 hY303
      refine lastG (i := 11) (by kernel_rfl) rfl (by rfl) (by decide) (fun K hK => ?_)
      go_simp
      refine hK.out _ _ ?_
      clear hK K
      refine doneG (by kernel_rfl) ?_ _
      refine S.nrm_intro ?_
      have IX3 := Tab.put2 (a := l') (b := h') (x := (l', h')) IX2 kg (by omega) hkk rfl rfl
      have U5 := ((U.set (p := ⟨g2, kk * 2, none⟩) (show w.heap.size ≤ g2 by omega) (.int .i64 l')).set (p := ⟨g2, kk * 2 + 1, none⟩) (show w.heap.size ≤ g2 by omega) (.int .i64 h'))
      have jkB : mblk ((Y303.setCell ⟨g2, kk * 2, none⟩ (.int .i64 l')).setCell ⟨g2, kk * 2 + 1, none⟩ (.int .i64 h')) (q0) = some (.cells (BoC (N : Int) bl bh rl rh (.slice (some ⟨gE, oE, none⟩) ps.length cP) (.slice aQ qs.length cQ) (.slice aL ls.length cL)) 27 (0, 0)) := by rw [blk_set _ _ _ _ (by show q0 ≠ g2; omega), blk_set _ _ _ _ (by show q0 ≠ g2; omega)]; exact kB
      have jkN : mblk ((Y303.setCell ⟨g2, kk * 2, none⟩ (.int .i64 l')).setCell ⟨g2, kk * 2 + 1, none⟩ (.int .i64 h')) (q0 + 1) = some (.cells #[.int .i64 n0, .int .i64 n1, .int .i64 n2, .int .i64 n3] 65 (0, 0)) := by rw [blk_set _ _ _ _ (by show q0 + 1 ≠ g2; omega), blk_set _ _ _ _ (by show q0 + 1 ≠ g2; omega)]; exact kN
      have jkx : mblk ((Y303.setCell ⟨g2, kk * 2, none⟩ (.int .i64 l')).setCell ⟨g2, kk * 2 + 1, none⟩ (.int .i64 h')) (pkx) = some (.cells (BoC (N : Int) bl bh rl rh (.slice (some ⟨g2, 0, none⟩) ps.length c2) (.slice aQ qs.length cQ) (.slice aL ls.length cL)) 27 (0, 0)) := by rw [blk_set _ _ _ _ (by show pkx ≠ g2; omega), blk_set _ _ _ _ (by show pkx ≠ g2; omega)]; exact kx
      obtain ⟨W307, hW307⟩ : ∃ z, ((Y303.setCell ⟨g2, kk * 2, none⟩ (.int .i64 l')).setCell ⟨g2, kk * 2 + 1, none⟩ (.int .i64 h')) = z := ⟨_, rfl⟩
      rw [hW307] at IX3 U5 jkB jkN jkx
      try rw [hW307]
      clear kB kN kx U HU zg n01 g0 g1 kg IX2 lg2 HcE HGr
      have U := U5
      have kB := jkB
      have kN := jkN
      have kx := jkx
      clear U5 jkB jkN jkx
      go_wp2_with fail
      try clear hW307
      have HU := Lib.hid U
      have Uz := Up.refl W307
      obtain ⟨hv', hm'⟩ := HGM.out
      obtain ⟨lt, ht, et, tt, _, _, _⟩ := T.Tells.ex (o := T.o0) (m := 0) (i := (1 + k)) hv' T.al_0 (T.al_night HKN.out)
      have Ct := Lib.hid (fun w' (u : Up W307 w') => Offset_tells hv' HKN.out tt (IX3.up u) (HJ.out _ (HU.out.trans u)) (HK.out _ (HU.out.trans u)))
      have key := HTa.out.wider hm' tt
      have et' := tt.err
      clear tt hm' hv'
      refine (HRk.out _).mono ?_
      rintro e x308 ⟨rfl, rfl⟩
      clear HRk
      clear kN
      rcases key with ⟨rfl, rfl, rfl⟩ | ⟨rfl, rfl, f1, f2⟩
      · rcases et' with rfl | ⟨rfl, rfl, rfl⟩
        · skip
          go_wp2_with fail
          refine (Ca.out _ U).mono ?_
          rintro e x359 ⟨rfl, u360⟩
          replace U := U.trans u360
          replace kB := u360.blk kB
          replace kx := u360.blk kx
          replace Uz := Uz.trans u360
          clear u360 
          have dkBka := blk_lt kB
          have dkxka := blk_lt kx
          have gka := U.size
          have ka := blk_new x359 (.cells #[.int .i64 0, .int .i64 0] 23) _ rfl
          replace kB := blk_keep (.cells #[.int .i64 0, .int .i64 0] 23) kB
          replace kx := blk_keep (.cells #[.int .i64 0, .int .i64 0] 23) kx
          replace U := U.alloc (.cells #[.int .i64 0, .int .i64 0] 23)
          replace Uz := Uz.alloc (.cells #[.int .i64 0, .int .i64 0] 23)
          go_wp2_with fail
          obtain ⟨pka, hpka⟩ : ∃ z, x359.heap.size = z := ⟨_, rfl⟩
          obtain ⟨W361, hW361⟩ : ∃ z, x359.alloc (.cells #[.int .i64 0, .int .i64 0] 23) = z := ⟨_, rfl⟩
          rw [hpka] at ka dkBka dkxka gka
          rw [hW361] at ka U kB kx Uz
          rw [hW361, hpka]
          go_wp2_with fail
          clear hpka hW361
          refine (Ct.out _ Uz).mono ?_
          rintro e x362 ⟨rfl, u363⟩
          replace U := U.trans u363
          replace kB := u363.blk kB
          replace kx := u363.blk kx
          replace ka := u363.blk ka
          replace Uz := Uz.trans u363
          clear u363 
          have dkBkt := blk_lt kB
          have dkxkt := blk_lt kx
          have dkakt := blk_lt ka
          have gkt := U.size
          have kt := blk_new x362 (.cells #[.int .i64 lt, .int .i64 ht] 23) _ rfl
          replace kB := blk_keep (.cells #[.int .i64 lt, .int .i64 ht] 23) kB
          replace kx := blk_keep (.cells #[.int .i64 lt, .int .i64 ht] 23) kx
          replace ka := blk_keep (.cells #[.int .i64 lt, .int .i64 ht] 23) ka
          replace U := U.alloc (.cells #[.int .i64 lt, .int .i64 ht] 23)
          replace Uz := Uz.alloc (.cells #[.int .i64 lt, .int .i64 ht] 23)
          obtain ⟨pkt, hpkt⟩ : ∃ z, x362.heap.size = z := ⟨_, rfl⟩
          obtain ⟨W364, hW364⟩ : ∃ z, x362.alloc (.cells #[.int .i64 lt, .int .i64 ht] 23) = z := ⟨_, rfl⟩
          rw [hpkt] at kt dkBkt dkxkt dkakt gkt
          rw [hW364] at kt U kB kx ka Uz
          go_wp2_with fail
          clear hpkt hW364
          refine (HW.out _).mono ?_
          rintro e x365 ⟨rfl, u366⟩
          replace U := U.trans u366
          replace kB := u366.blk kB
          replace kx := u366.blk kx
          replace ka := u366.blk ka
          replace kt := u366.blk kt
          replace Uz := Uz.trans u366
          clear u366 
          go_wp2
          go_ret
          exact ⟨rfl, U⟩
        · skip
          go_wp2_with fail
          refine (Ca.out _ U).mono ?_
          rintro e x359 ⟨rfl, u360⟩
          replace U := U.trans u360
          replace kB := u360.blk kB
          replace kx := u360.blk kx
          replace Uz := Uz.trans u360
          clear u360 
          have dkBka := blk_lt kB
          have dkxka := blk_lt kx
          have gka := U.size
          have ka := blk_new x359 (.cells #[.int .i64 0, .int .i64 0] 23) _ rfl
          replace kB := blk_keep (.cells #[.int .i64 0, .int .i64 0] 23) kB
          replace kx := blk_keep (.cells #[.int .i64 0, .int .i64 0] 23) kx
          replace U := U.alloc (.cells #[.int .i64 0, .int .i64 0] 23)
          replace Uz := Uz.alloc (.cells #[.int .i64 0, .int .i64 0] 23)
          go_wp2_with fail
          obtain ⟨pka, hpka⟩ : ∃ z, x359.heap.size = z := ⟨_, rfl⟩
          obtain ⟨W361, hW361⟩ : ∃ z, x359.alloc (.cells #[.int .i64 0, .int .i64 0] 23) = z := ⟨_, rfl⟩
          rw [hpka] at ka dkBka dkxka gka
          rw [hW361] at ka U kB kx Uz
          rw [hW361, hpka]
          go_wp2_with fail
          clear hpka hW361
          refine (Ct.out _ Uz).mono ?_
          rintro e x362 ⟨rfl, u363⟩
          replace U := U.trans u363
          replace kB := u363.blk kB
          replace kx := u363.blk kx
          replace ka := u363.blk ka
          replace Uz := Uz.trans u363
          clear u363 
          have dkBkt := blk_lt kB
          have dkxkt := blk_lt kx
          have dkakt := blk_lt ka
          have gkt := U.size
          have kt := blk_new x362 (.cells #[.int .i64 0, .int .i64 0] 23) _ rfl
          replace kB := blk_keep (.cells #[.int .i64 0, .int .i64 0] 23) kB
          replace kx := blk_keep (.cells #[.int .i64 0, .int .i64 0] 23) kx
          replace ka := blk_keep (.cells #[.int .i64 0, .int .i64 0] 23) ka
          replace U := U.alloc (.cells #[.int .i64 0, .int .i64 0] 23)
          replace Uz := Uz.alloc (.cells #[.int .i64 0, .int .i64 0] 23)
          go_wp2_with fail
          obtain ⟨pkt, hpkt⟩ : ∃ z, x362.heap.size = z := ⟨_, rfl⟩
          obtain ⟨W364, hW364⟩ : ∃ z, x362.alloc (.cells #[.int .i64 0, .int .i64 0] 23) = z := ⟨_, rfl⟩
          rw [hpkt] at kt dkBkt dkxkt dkakt gkt
          rw [hW364] at kt U kB kx ka Uz
          rw [hW364, hpkt]
          go_wp2_with fail
          clear hpkt hW364
          refine (HW.out _).mono ?_
          rintro e x365 ⟨rfl, u366⟩
          replace U := U.trans u366
          replace kB := u366.blk kB
          replace kx := u366.blk kx
          replace ka := u366.blk ka
          replace kt := u366.blk kt
          replace Uz := Uz.trans u366
          clear u366 
          go_wp2
          go_ret
          exact ⟨rfl, U⟩
      · skip
        go_wp2_with fail
        refine (Ca.out _ U).mono ?_
        rintro e x359 ⟨rfl, u360⟩
        replace U := U.trans u360
        replace kB := u360.blk kB
        replace kx := u360.blk kx
        replace Uz := Uz.trans u360
        clear u360 
        have dkBka := blk_lt kB
        have dkxka := blk_lt kx
        have gka := U.size
        have ka := blk_new x359 (.cells #[.int .i64 la, .int .i64 ha] 23) _ rfl
        replace kB := blk_keep (.cells #[.int .i64 la, .int .i64 ha] 23) kB
        replace kx := blk_keep (.cells #[.int .i64 la, .int .i64 ha] 23) kx
        replace U := U.alloc (.cells #[.int .i64 la, .int .i64 ha] 23)
        replace Uz := Uz.alloc (.cells #[.int .i64 la, .int .i64 ha] 23)
        obtain ⟨pka, hpka⟩ : ∃ z, x359.heap.size = z := ⟨_, rfl⟩
        obtain ⟨W361, hW361⟩ : ∃ z, x359.alloc (.cells #[.int .i64 la, .int .i64 ha] 23) = z := ⟨_, rfl⟩
        rw [hpka] at ka dkBka dkxka gka
        rw [hW361] at ka U kB kx Uz
        go_wp2_with fail
        clear hpka hW361
        refine (Ct.out _ Uz).mono ?_
        rintro e x362 ⟨rfl, u363⟩
        replace U := U.trans u363
        replace kB := u363.blk kB
        replace kx := u363.blk kx
        replace ka := u363.blk ka
        replace Uz := Uz.trans u363
        clear u363 
        have dkBkt := blk_lt kB
        have dkxkt := blk_lt kx
        have dkakt := blk_lt ka
        have gkt := U.size
        have kt := blk_new x362 (.cells #[.int .i64 lt, .int .i64 ht] 23) _ rfl
        replace kB := blk_keep (.cells #[.int .i64 lt, .int .i64 ht] 23) kB
        replace kx := blk_keep (.cells #[.int .i64 lt, .int .i64 ht] 23) kx
        replace ka := blk_keep (.cells #[.int .i64 lt, .int .i64 ht] 23) ka
        replace U := U.alloc (.cells #[.int .i64 lt, .int .i64 ht] 23)
        replace Uz := Uz.alloc (.cells #[.int .i64 lt, .int .i64 ht] 23)
        obtain ⟨pkt, hpkt⟩ : ∃ z, x362.heap.size = z := ⟨_, rfl⟩
        obtain ⟨W364, hW364⟩ : ∃ z, x362.alloc (.cells #[.int .i64 lt, .int .i64 ht] 23) = z := ⟨_, rfl⟩
        rw [hpkt] at kt dkBkt dkxkt dkakt gkt
        rw [hW364] at kt U kB kx ka Uz
        go_wp2_with fail
        clear hpkt hW364
        refine (HWi.out _ _ _ _ _ ⟨f1, f2⟩).mono ?_
        rintro e x365 ⟨rfl, u366⟩
        replace U := U.trans u366
        replace kB := u366.blk kB
        replace kx := u366.blk kx
        replace ka := u366.blk ka
        replace kt := u366.blk kt
        replace Uz := Uz.trans u366
        clear u366 
        go_wp2_with fail
        refine (HW.out _).mono ?_
        rintro e x367 ⟨rfl, u368⟩
        replace U := U.trans u368
        replace kB := u368.blk kB
        replace kx := u368.blk kx
        replace ka := u368.blk ka
        replace kt := u368.blk kt
        replace Uz := Uz.trans u368
        clear u368 
        go_wp2
        go_ret
        exact ⟨rfl, U⟩
    · skip
      skip
      have HRz := Lib.hid (fun w => B_Rest_any n1 (qs.length : Int) w (by omega) (by omega))
      have az := Int.emod_nonneg n1 (b := (qs.length : Int)) (by omega)
      have bz := Int.emod_lt_of_pos n1 (b := (qs.length : Int)) (by omega)
      generalize n1 % (qs.length : Int) = kk at *
      obtain ⟨kk, rfl⟩ := Int.eq_ofNat_of_zero_le az
      have hkk : kk < qs.length := by omega
      have ikk : (kk : Int) < (qs.length : Int) := by omega
      have hl10 : qs.length ≤ 4 := by have := HL4.out; omega
      have hbs := T.path_iff.1 (HPQ.out.2.1 (qs.getD kk (0, 0)) (T.getD_mem hkk))
      obtain ⟨⟨r0, r1⟩, hss⟩ : ∃ s, qs.getD kk (0, 0) = s := ⟨_, rfl⟩
      rw [hss] at hbs
      dsimp only at hbs
      obtain ⟨a'', c'', e'', _, _, hm⟩ := (HJ.out w (Up.refl w)).is
      injection e'' with ea eb ec
      clear eb ec
      obtain ⟨gE, oE, ga, glE, hxE⟩ := hm (by omega)
      subst ea ga
      clear hm
      have HcE := Lib.hid (fun w' (u : Up w w') => And.intro (show w'.cell? ⟨gE, oE + kk * 2, none⟩ = some (.int .i64 r0) by have := hxE kk hkk 0 (by omega); rw [hss] at this; exact (u.facts.1 gE _ glE).trans this) (show w'.cell? ⟨gE, oE + kk * 2 + 1, none⟩ = some (.int .i64 r1) by have := hxE kk hkk 1 (by omega); rw [hss] at this; exact (u.facts.1 gE _ glE).trans this))
      clear hxE glE
      obtain ⟨l', hl'⟩ : ∃ z, max (0) (r0 - bq) = z := ⟨_, rfl⟩
      obtain ⟨h', hh'⟩ : ∃ z, min 5000 (r1 + bq) = z := ⟨_, rfl⟩
      have hGr := l_grown_any r0 r1 bq (0) 5000
      rw [hl', hh'] at hGr
      have HGr := Lib.hid (fun w => hGr w (by omega) (by omega) (by omega))
      have hin : l' ≤ r0 ∧ r1 ≤ h' ∧ 0 ≤ l' ∧ h' ≤ 5000 := by omega
      clear hGr hl' hh'
      have HGM := Lib.hid (And.intro (show T.valid (N : Int) bl bh rl rh (ps) (qs.set kk (l', h')) ls = true from T.valid_mk HB.out.1 HB.out.2.1 HB.out.2.2 (by exact HL4.out.1) (by rw [List.length_set]; exact HL4.out.2.1) HL4.out.2.2 (HPQ.out.1) (T.mem_set HPQ.out.2.1 (T.path_iff.2 (by dsimp only; omega))) (by rw [List.length_set]; exact HPQ.out.2.2)) (show ∀ y, T.Tr N bl bh rl rh ps qs ls y → T.Tr N bl bh rl rh (ps) (qs.set kk (l', h')) ls y from fun y hy => T.tr_wd hy (by omega) (by omega) rfl (fun k _ => by omega) (List.length_set ..) (T.set_wd hkk (by rw [hss]; dsimp only; omega)) hy.look))
      clear hin hbs az bz
      go_wp2_with fail
      refine (HRz.out _).mono ?_
      rintro e x401 ⟨rfl, rfl⟩
      clear HRz
      have own0 := World.ownsRow_lit (base := Y5.heap.size) (e := 23) (size := 2) Y5 #[] 0 (Nat.le_refl _) (by unfold maxLen; omega) rfl
      obtain ⟨pe, hpe⟩ : ∃ z, Y5.heap.size = z := ⟨_, rfl⟩
      have IX1 := HJ.out _ (U.alloc (.cells #[] 23))
      have U1 := U.alloc (.cells #[] 23)
      have jkB := blk_keep (.cells #[] 23) kB
      have lkB := blk_lt kB
      have jkN := blk_keep (.cells #[] 23) kN
      have lkN := blk_lt kN
      have jkx := blk_keep (.cells #[] 23) kx
      have lkx := blk_lt kx
      rw [hpe] at own0 lkB lkN lkx
      have gw := U.size
      rw [hpe] at gw
      go_wp2_with (at_builtin; refine T.wpList_app (ys := []) T.elS rfl (.tmp 104) (.tmp 106) rfl IX1 rfl pe _ 0 rfl own0 (by omega) (by omega) (by simp [hpe]) ?_; intro v1 w1 own1 grow1; rw [Nat.zero_add] at own1; have rkB := grown_blk grow1 jkB (row_block own0 lkB); have rkN := grown_blk grow1 jkN (row_block own0 lkN); have rkx := grown_blk grow1 jkx (row_block own0 lkx); have U2 : Up w w1 := U1.grown grow1 (fun k e => by (have := row_base own0 k e; omega)); obtain ⟨g2, c2, cur, rfl, hg2, kg, hc2, hm2, hz2⟩ := row_open own1 (by omega); have zx := frozB rkx; have x3 := blk_put rkx 6 (.slice (some ⟨g2, 0, none⟩) qs.length c2))
      obtain ⟨W402, hW402⟩ : ∃ z, w1.setCell ⟨pkx, 6, none⟩ (.slice (some ⟨g2, 0, none⟩) qs.length c2) = z := ⟨_, rfl⟩
      have ltg : pkx < g2 := by omega
      have own3 : W402.ownsRow pe 23 2 (.slice (some ⟨g2, 0, none⟩) qs.length c2) qs.length (T.flat 2 T.encS qs) := by
        rw [← hW402]
        exact row_other own1 (grown_set w1 (pkx) 6 _) (row_block own1 lkx)
      have IX2 : Tab 2 T.encS (0, 0) W402 (.slice (some ⟨g2, 0, none⟩) qs.length c2) qs := Tab.of_row own3 (by decide) (by omega)
      have U4 : Up w W402 := by rw [← hW402]; exact U2.set (p := ⟨pkx, 6, none⟩) (show w.heap.size ≤ pkx by omega) _
      have jg : mblk W402 g2 = some (.cells cur 23 (0, 0)) := by rw [← hW402, blk_set _ _ _ _ (by show g2 ≠ pkx; omega)]; exact kg
      have jx4 : mblk W402 (pkx) = some (.cells (BoC (N : Int) bl bh rl rh (.slice aP ps.length cP) (.slice (some ⟨g2, 0, none⟩) qs.length c2) (.slice aL ls.length cL)) 27 (0, 0)) := by rw [← hW402]; exact x3
      have ykB : mblk W402 (q0) = some (.cells (BoC (N : Int) bl bh rl rh (.slice aP ps.length cP) (.slice (some ⟨gE, oE, none⟩) qs.length cQ) (.slice aL ls.length cL)) 27 (0, 0)) := by rw [← hW402, blk_set _ _ _ _ (by show q0 ≠ pkx; omega)]; exact rkB
      have ykN : mblk W402 (q0 + 1) = some (.cells #[.int .i64 n0, .int .i64 n1, .int .i64 n2, .int .i64 n3] 65 (0, 0)) := by rw [← hW402, blk_set _ _ _ _ (by show q0 + 1 ≠ pkx; omega)]; exact rkN
      have dgkB : q0 < g2 := by omega
      have dgkN : q0 + 1 < g2 := by omega
      try rw [hW402]
      clear hW402 x3 zx kg own1 own3 U2 U1 own0 IX1 grow1 U hpe rkB jkB kB rkN jkN kN rkx jkx kx
      have U := U4
      have kx := jx4
      have kg := jg
      clear U4 jx4 jg
      have kB := ykB
      clear ykB
      have kN := ykN
      clear ykN
      obtain ⟨d0, d1⟩ := HcE.out _ U
      have g0 := Tab.at0 IX2 hkk 0 (by omega)
      have g1 := Tab.at0 IX2 hkk 1 (by omega)
      rw [hss] at g0 g1
      rw [Nat.add_zero] at g0
      replace g0 : W402.cell? ⟨g2, kk * 2, none⟩ = some (.int .i64 r0) := g0
      replace g1 : W402.cell? ⟨g2, kk * 2 + 1, none⟩ = some (.int .i64 r1) := g1
      clear d0 d1
      have HU := Lib.hid U
      have lg2 : g2 < W402.heap.size := blk_lt kg
      have Fg := Lib.hid (fun w (u : Up W402 w) => cellB (u.blk kg))
      have F404 := Lib.hid (fun w (u : Up W402 w) => cellB (u.blk kB))
      have F405 := Lib.hid (fun w (u : Up W402 w) => cellB (u.blk kN))
      have F406 := Lib.hid (fun w (u : Up W402 w) => cellB (u.blk kx))
      refine (wpIn_wide (n := 5)).1 ?_
      refine wpIn_nrm ?_
      refine T.regionQ (fun w' => Up W402 w') 11 1 hmx (by kernel_rfl) (by kernel_rfl) ((Up.refl W402).drew) (fun hCl => ?_)
      refine T.qT 0 (some 109) ?v17 rfl rfl hCl ?hy17 (fun hCl' => ?_)
      case hy17 => (intro w hSw; refine T.qVal ?_ hSw; (try dsimp only [List.getElem_toArray, List.getElem_cons_succ, List.getElem_cons_zero]); go_simp; try with_reducible rfl)
      simp only [Act.put, List.setIfInBounds_toArray, List.set_cons_zero, List.set_cons_succ]; replace hCl := hCl'; clear hCl'
      refine T.qT 2 (some 111) ?v18 rfl rfl hCl ?hy18 (fun hCl' => ?_)
      case hy18 => (intro w hSw; refine T.qVal ?_ hSw; (try dsimp only [List.getElem_toArray, List.getElem_cons_succ, List.getElem_cons_zero]); go_simp; try with_reducible rfl)
      simp only [Act.put, List.setIfInBounds_toArray, List.set_cons_zero, List.set_cons_succ]; replace hCl := hCl'; clear hCl'
      refine T.qT 3 (some 112) ?v19 rfl rfl hCl ?hy19 (fun hCl' => ?_)
      case hy19 => (intro w hSw; refine T.qVal ?_ hSw; (try dsimp only [List.getElem_toArray, List.getElem_cons_succ, List.getElem_cons_zero]); go_simp; try with_reducible rfl)
      simp only [Act.put, List.setIfInBounds_toArray, List.set_cons_zero, List.set_cons_succ]; replace hCl := hCl'; clear hCl'
      refine T.qT 5 (some 114) ?v20 rfl rfl hCl ?hy20 (fun hCl' => ?_)
      case hy20 => (intro w hSw; refine T.qVal ?_ hSw; (try dsimp only [List.getElem_toArray, List.getElem_cons_succ, List.getElem_cons_zero]); go_simp; try with_reducible rfl)
      simp only [Act.put, List.setIfInBounds_toArray, List.set_cons_zero, List.set_cons_succ]; replace hCl := hCl'; clear hCl'
      refine T.qT 8 (some 117) ?v21 rfl rfl hCl ?hy21 (fun hCl' => ?_)
      case hy21 => (intro w hSw; refine T.qVal ?_ hSw; (try dsimp only [List.getElem_toArray, List.getElem_cons_succ, List.getElem_cons_zero]); go_simp; try with_reducible rfl)
      simp only [Act.put, List.setIfInBounds_toArray, List.set_cons_zero, List.set_cons_succ]; replace hCl := hCl'; clear hCl'
      refine T.qT 1 (some 110) ?v22 rfl rfl hCl ?hy22 (fun hCl' => ?_)
      case hy22 => (intro w hSw; refine T.qVal ?_ hSw; (have fF404 := F404.out w hSw; have fF405 := F405.out w hSw; have fF406 := F406.out w hSw; have fFg := Fg.out w hSw; obtain ⟨d0, d1⟩ := HcE.out _ (HU.out.trans hSw)); (try dsimp only [List.getElem_toArray, List.getElem_cons_succ, List.getElem_cons_zero]); go_simp; try with_reducible rfl)
      simp only [Act.put, List.setIfInBounds_toArray, List.set_cons_zero, List.set_cons_succ]; replace hCl := hCl'; clear hCl'
      refine T.qT 4 (some 113) ?v23 rfl rfl hCl ?hy23 (fun hCl' => ?_)
      case hy23 => (intro w hSw; refine T.qVal ?_ hSw; (have fF404 := F404.out w hSw; have fF405 := F405.out w hSw; have fF406 := F406.out w hSw; have fFg := Fg.out w hSw; obtain ⟨d0, d1⟩ := HcE.out _ (HU.out.trans hSw)); (try dsimp only [List.getElem_toArray, List.getElem_cons_succ, List.getElem_cons_zero]); go_simp; try with_reducible rfl)
      simp only [Act.put, List.setIfInBounds_toArray, List.set_cons_zero, List.set_cons_succ]; replace hCl := hCl'; clear hCl'
      refine T.qT 6 (some 115) ?v24 rfl rfl hCl ?hy24 (fun hCl' => ?_)
      case hy24 => (intro w hSw; refine T.qVal ?_ hSw; (try dsimp only [List.getElem_toArray, List.getElem_cons_succ, List.getElem_cons_zero]); go_simp; try with_reducible rfl)
      simp only [Act.put, List.setIfInBounds_toArray, List.set_cons_zero, List.set_cons_succ]; replace hCl := hCl'; clear hCl'
      refine T.qT 7 (some 116) ?v25 rfl rfl hCl ?hy25 (fun hCl' => ?_)
      case hy25 => (intro w hSw; refine T.qVal ?_ hSw; (have fF404 := F404.out w hSw; have fF405 := F405.out w hSw; have fF406 := F406.out w hSw; have fFg := Fg.out w hSw; obtain ⟨d0, d1⟩ := HcE.out _ (HU.out.trans hSw)); (try dsimp only [List.getElem_toArray, List.getElem_cons_succ, List.getElem_cons_zero]); go_simp; try with_reducible rfl)
      simp only [Act.put, List.setIfInBounds_toArray, List.set_cons_zero, List.set_cons_succ]; replace hCl := hCl'; clear hCl'
      refine T.qT 9 (some 118) ((SpV l' h')) rfl rfl hCl ?hy26 (fun hCl' => ?_)
      case hy26 => (intro w hSw; (have fF404 := F404.out w hSw; have fF405 := F405.out w hSw; have fF406 := F406.out w hSw; have fFg := Fg.out w hSw; obtain ⟨d0, d1⟩ := HcE.out _ (HU.out.trans hSw)); (try dsimp only [List.getElem_toArray, List.getElem_cons_succ, List.getElem_cons_zero]); go_simp; (refine (callsIn_wide.2 (HGr.out w)).mono ?_; rintro e w3 ⟨rfl, u3⟩; exact ⟨rfl, hSw.trans u3⟩))
      simp only [Act.put, List.setIfInBounds_toArray, List.set_cons_zero, List.set_cons_succ]
      replace hCl := hCl'; clear hCl'
      refine T.qT 10 (some 119) ?v27 rfl rfl hCl ?hy27 (fun hCl' => ?_)
      case hy27 => (intro w hSw; refine T.qVal ?_ hSw; (try dsimp only [List.getElem_toArray, List.getElem_cons_succ, List.getElem_cons_zero]); go_simp; try with_reducible rfl)
      simp only [Act.put, List.setIfInBounds_toArray, List.set_cons_zero, List.set_cons_succ]; replace hCl := hCl'; clear hCl'
      refine T.tail_intro (by kernel_rfl) (fun Y403 hY403 => ?_)
      replace kg := hY403.blk kg
      replace g0 := (hY403.facts.1 g2 _ lg2).trans g0
      replace g1 := (hY403.facts.1 g2 _ lg2).trans g1
      replace IX2 := IX2.up hY403
      have zg := frozB kg
      have n01 : ¬ kk * 2 = kk * 2 + 1 := by omega
      clear Fg
      replace U := U.trans hY403
      replace kB := hY403.blk kB
      replace kN := hY403.blk kN
      replace kx := hY403.blk kx
      clear F404 F405 F406 hY403
      refine lastG (i := 11) (by kernel_rfl) rfl (by rfl) (by decide) (fun K hK => ?_)
      go_simp
      refine hK.out _ _ ?_
      clear hK K
      refine doneG (by kernel_rfl) ?_ _
      refine S.nrm_intro ?_
      have IX3 := Tab.put2 (a := l') (b := h') (x := (l', h')) IX2 kg (by omega) hkk rfl rfl
      have U5 := ((U.set (p := ⟨g2, kk * 2, none⟩) (show w.heap.size ≤ g2 by omega) (.int .i64 l')).set (p := ⟨g2, kk * 2 + 1, none⟩) (show w.heap.size ≤ g2 by omega) (.int .i64 h'))
      have jkB : mblk ((Y403.setCell ⟨g2, kk * 2, none⟩ (.int .i64 l')).setCell ⟨g2, kk * 2 + 1, none⟩ (.int .i64 h')) (q0) = some (.cells (BoC (N : Int) bl bh rl rh (.slice aP ps.length cP) (.slice (some ⟨gE, oE, none⟩) qs.length cQ) (.slice aL ls.length cL)) 27 (0, 0)) := by rw [blk_set _ _ _ _ (by show q0 ≠ g2; omega), blk_set _ _ _ _ (by show q0 ≠ g2; omega)]; exact kB
      have jkN : mblk ((Y403.setCell ⟨g2, kk * 2, none⟩ (.int .i64 l')).setCell ⟨g2, kk * 2 + 1, none⟩ (.int .i64 h')) (q0 + 1) = some (.cells #[.int .i64 n0, .int .i64 n1, .int .i64 n2, .int .i64 n3] 65 (0, 0)) := by rw [blk_set _ _ _ _ (by show q0 + 1 ≠ g2; omega), blk_set _ _ _ _ (by show q0 + 1 ≠ g2; omega)]; exact kN
      have jkx : mblk ((Y403.setCell ⟨g2, kk * 2, none⟩ (.int .i64 l')).setCell ⟨g2, kk * 2 + 1, none⟩ (.int .i64 h')) (pkx) = some (.cells (BoC (N : Int) bl bh rl rh (.slice aP ps.length cP) (.slice (some ⟨g2, 0, none⟩) qs.length c2) (.slice aL ls.length cL)) 27 (0, 0)) := by rw [blk_set _ _ _ _ (by show pkx ≠ g2; omega), blk_set _ _ _ _ (by show pkx ≠ g2; omega)]; exact kx
      obtain ⟨W407, hW407⟩ : ∃ z, ((Y403.setCell ⟨g2, kk * 2, none⟩ (.int .i64 l')).setCell ⟨g2, kk * 2 + 1, none⟩ (.int .i64 h')) = z := ⟨_, rfl⟩
      rw [hW407] at IX3 U5 jkB jkN jkx
      try rw [hW407]
      clear kB kN kx U HU zg n01 g0 g1 kg IX2 lg2 HcE HGr
      have U := U5
      have kB := jkB
      have kN := jkN
      have kx := jkx
      clear U5 jkB jkN jkx
      go_wp2_with fail
      try clear hW407
      have HU := Lib.hid U
      have Uz := Up.refl W407
      obtain ⟨hv', hm'⟩ := HGM.out
      obtain ⟨lt, ht, et, tt, _, _, _⟩ := T.Tells.ex (o := T.o0) (m := 0) (i := (1 + k)) hv' T.al_0 (T.al_night HKN.out)
      have Ct := Lib.hid (fun w' (u : Up W407 w') => Offset_tells hv' HKN.out tt (HI.out _ (HU.out.trans u)) (IX3.up u) (HK.out _ (HU.out.trans u)))
      have key := HTa.out.wider hm' tt
      have et' := tt.err
      clear tt hm' hv'
      refine (HRk.out _).mono ?_
      rintro e x408 ⟨rfl, rfl⟩
      clear HRk
      clear kN
      rcases key with ⟨rfl, rfl, rfl⟩ | ⟨rfl, rfl, f1, f2⟩
      · rcases et' with rfl | ⟨rfl, rfl, rfl⟩
        · skip
          go_wp2_with fail
          refine (Ca.out _ U).mono ?_
          rintro e x459 ⟨rfl, u460⟩
          replace U := U.trans u460
          replace kB := u460.blk kB
          replace kx := u460.blk kx
          replace Uz := Uz.trans u460
          clear u460 
          have dkBka := blk_lt kB
          have dkxka := blk_lt kx
          have gka := U.size
          have ka := blk_new x459 (.cells #[.int .i64 0, .int .i64 0] 23) _ rfl
          replace kB := blk_keep (.cells #[.int .i64 0, .int .i64 0] 23) kB
          replace kx := blk_keep (.cells #[.int .i64 0, .int .i64 0] 23) kx
          replace U := U.alloc (.cells #[.int .i64 0, .int .i64 0] 23)
          replace Uz := Uz.alloc (.cells #[.int .i64 0, .int .i64 0] 23)
          go_wp2_with fail
          obtain ⟨pka, hpka⟩ : ∃ z, x459.heap.size = z := ⟨_, rfl⟩
          obtain ⟨W461, hW461⟩ : ∃ z, x459.alloc (.cells #[.int .i64 0, .int .i64 0] 23) = z := ⟨_, rfl⟩
          rw [hpka] at ka dkBka dkxka gka
          rw [hW461] at ka U kB kx Uz
          rw [hW461, hpka]
          go_wp2_with fail
          clear hpka hW461
          refine (Ct.out _ Uz).mono ?_
          rintro e x462 ⟨rfl, u463⟩
          replace U := U.trans u463
          replace kB := u463.blk kB
          replace kx := u463.blk kx
          replace ka := u463.blk ka
          replace Uz := Uz.trans u463
          clear u463 
          have dkBkt := blk_lt kB
          have dkxkt := blk_lt kx
          have dkakt := blk_lt ka
          have gkt := U.size
          have kt := blk_new x462 (.cells #[.int .i64 lt, .int .i64 ht] 23) _ rfl
          replace kB := blk_keep (.cells #[.int .i64 lt, .int .i64 ht] 23) kB
          replace kx := blk_keep (.cells #[.int .i64 lt, .int .i64 ht] 23) kx
          replace ka := blk_keep (.cells #[.int .i64 lt, .int .i64 ht] 23) ka
          replace U := U.alloc (.cells #[.int .i64 lt, .int .i64 ht] 23)
          replace Uz := Uz.alloc (.cells #[.int .i64 lt, .int .i64 ht] 23)
          obtain ⟨pkt, hpkt⟩ : ∃ z, x462.heap.size = z := ⟨_, rfl⟩
          obtain ⟨W464, hW464⟩ : ∃ z, x462.alloc (.cells #[.int .i64 lt, .int .i64 ht] 23) = z := ⟨_, rfl⟩
          rw [hpkt] at kt dkBkt dkxkt dkakt gkt
          rw [hW464] at kt U kB kx ka Uz
          go_wp2_with fail
          clear hpkt hW464
          refine (HW.out _).mono ?_
          rintro e x465 ⟨rfl, u466⟩
          replace U := U.trans u466
          replace kB := u466.blk kB
          replace kx := u466.blk kx
          replace ka := u466.blk ka
          replace kt := u466.blk kt
          replace Uz := Uz.trans u466
          clear u466 
          go_wp2
          go_ret
          exact ⟨rfl, U⟩
        · skip
          go_wp2_with fail
          refine (Ca.out _ U).mono ?_
          rintro e x459 ⟨rfl, u460⟩
          replace U := U.trans u460
          replace kB := u460.blk kB
          replace kx := u460.blk kx
          replace Uz := Uz.trans u460
          clear u460 
          have dkBka := blk_lt kB
          have dkxka := blk_lt kx
          have gka := U.size
          have ka := blk_new x459 (.cells #[.int .i64 0, .int .i64 0] 23) _ rfl
          replace kB := blk_keep (.cells #[.int .i64 0, .int .i64 0] 23) kB
          replace kx := blk_keep (.cells #[.int .i64 0, .int .i64 0] 23) kx
          replace U := U.alloc (.cells #[.int .i64 0, .int .i64 0] 23)
          replace Uz := Uz.alloc (.cells #[.int .i64 0, .int .i64 0] 23)
          go_wp2_with fail
          obtain ⟨pka, hpka⟩ : ∃ z, x459.heap.size = z := ⟨_, rfl⟩
          obtain ⟨W461, hW461⟩ : ∃ z, x459.alloc (.cells #[.int .i64 0, .int .i64 0] 23) = z := ⟨_, rfl⟩
          rw [hpka] at ka dkBka dkxka gka
          rw [hW461] at ka U kB kx Uz
          rw [hW461, hpka]
          go_wp2_with fail
          clear hpka hW461
          refine (Ct.out _ Uz).mono ?_
          rintro e x462 ⟨rfl, u463⟩
          replace U := U.trans u463
          replace kB := u463.blk kB
          replace kx := u463.blk kx
          replace ka := u463.blk ka
          replace Uz := Uz.trans u463
          clear u463 
          have dkBkt := blk_lt kB
          have dkxkt := blk_lt kx
          have dkakt := blk_lt ka
          have gkt := U.size
          have kt := blk_new x462 (.cells #[.int .i64 0, .int .i64 0] 23) _ rfl
          replace kB := blk_keep (.cells #[.int .i64 0, .int .i64 0] 23) kB
          replace kx := blk_keep (.cells #[.int .i64 0, .int .i64 0] 23) kx
          replace ka := blk_keep (.cells #[.int .i64 0, .int .i64 0] 23) ka
          replace U := U.alloc (.cells #[.int .i64 0, .int .i64 0] 23)
          replace Uz := Uz.alloc (.cells #[.int .i64 0, .int .i64 0] 23)
          go_wp2_with fail
          obtain ⟨pkt, hpkt⟩ : ∃ z, x462.heap.size = z := ⟨_, rfl⟩
          obtain ⟨W464, hW464⟩ : ∃ z, x462.alloc (.cells #[.int .i64 0, .int .i64 0] 23) = z := ⟨_, rfl⟩
          rw [hpkt] at kt dkBkt dkxkt dkakt gkt
          rw [hW464] at kt U kB kx ka Uz
          rw [hW464, hpkt]
          go_wp2_with fail
          clear hpkt hW464
          refine (HW.out _).mono ?_
          rintro e x465 ⟨rfl, u466⟩
          replace U := U.trans u466
          replace kB := u466.blk kB
          replace kx := u466.blk kx
          replace ka := u466.blk ka
          replace kt := u466.blk kt
          replace Uz := Uz.trans u466
          clear u466 
          go_wp2
          go_ret
          exact ⟨rfl, U⟩
      · skip
        go_wp2_with fail
        refine (Ca.out _ U).mono ?_
        rintro e x459 ⟨rfl, u460⟩
        replace U := U.trans u460
        replace kB := u460.blk kB
        replace kx := u460.blk kx
        replace Uz := Uz.trans u460
        clear u460 
        have dkBka := blk_lt kB
        have dkxka := blk_lt kx
        have gka := U.size
        have ka := blk_new x459 (.cells #[.int .i64 la, .int .i64 ha] 23) _ rfl
        replace kB := blk_keep (.cells #[.int .i64 la, .int .i64 ha] 23) kB
        replace kx := blk_keep (.cells #[.int .i64 la, .int .i64 ha] 23) kx
        replace U := U.alloc (.cells #[.int .i64 la, .int .i64 ha] 23)
        replace Uz := Uz.alloc (.cells #[.int .i64 la, .int .i64 ha] 23)
        obtain ⟨pka, hpka⟩ : ∃ z, x459.heap.size = z := ⟨_, rfl⟩
        obtain ⟨W461, hW461⟩ : ∃ z, x459.alloc (.cells #[.int .i64 la, .int .i64 ha] 23) = z := ⟨_, rfl⟩
        rw [hpka] at ka dkBka dkxka gka
        rw [hW461] at ka U kB kx Uz
        go_wp2_with fail
        clear hpka hW461
        refine (Ct.out _ Uz).mono ?_
        rintro e x462 ⟨rfl, u463⟩
        replace U := U.trans u463
        replace kB := u463.blk kB
        replace kx := u463.blk kx
        replace ka := u463.blk ka
        replace Uz := Uz.trans u463
        clear u463 
        have dkBkt := blk_lt kB
        have dkxkt := blk_lt kx
        have dkakt := blk_lt ka
        have gkt := U.size
        have kt := blk_new x462 (.cells #[.int .i64 lt, .int .i64 ht] 23) _ rfl
        replace kB := blk_keep (.cells #[.int .i64 lt, .int .i64 ht] 23) kB
        replace kx := blk_keep (.cells #[.int .i64 lt, .int .i64 ht] 23) kx
        replace ka := blk_keep (.cells #[.int .i64 lt, .int .i64 ht] 23) ka
        replace U := U.alloc (.cells #[.int .i64 lt, .int .i64 ht] 23)
        replace Uz := Uz.alloc (.cells #[.int .i64 lt, .int .i64 ht] 23)
        obtain ⟨pkt, hpkt⟩ : ∃ z, x462.heap.size = z := ⟨_, rfl⟩
        obtain ⟨W464, hW464⟩ : ∃ z, x462.alloc (.cells #[.int .i64 lt, .int .i64 ht] 23) = z := ⟨_, rfl⟩
        rw [hpkt] at kt dkBkt dkxkt dkakt gkt
        rw [hW464] at kt U kB kx ka Uz
        go_wp2_with fail
        clear hpkt hW464
        refine (HWi.out _ _ _ _ _ ⟨f1, f2⟩).mono ?_
        rintro e x465 ⟨rfl, u466⟩
        replace U := U.trans u466
        replace kB := u466.blk kB
        replace kx := u466.blk kx
        replace ka := u466.blk ka
        replace kt := u466.blk kt
        replace Uz := Uz.trans u466
        clear u466 
        go_wp2_with fail
        refine (HW.out _).mono ?_
        rintro e x467 ⟨rfl, u468⟩
        replace U := U.trans u468
        replace kB := u468.blk kB
        replace kx := u468.blk kx
        replace ka := u468.blk ka
        replace kt := u468.blk kt
        replace Uz := Uz.trans u468
        clear u468 
        go_wp2
        go_ret
        exact ⟨rfl, U⟩
    · skip
      skip
      have HRz := Lib.hid (fun w => B_Rest_any n1 (ls.length : Int) w (by omega) (by omega))
      have az := Int.emod_nonneg n1 (b := (ls.length : Int)) (by omega)
      have bz := Int.emod_lt_of_pos n1 (b := (ls.length : Int)) (by omega)
      generalize n1 % (ls.length : Int) = kk at *
      obtain ⟨kk, rfl⟩ := Int.eq_ofNat_of_zero_le az
      have hkk : kk < ls.length := by omega
      have ikk : (kk : Int) < (ls.length : Int) := by omega
      have hl10 : ls.length ≤ 10 := HL4.out.2.2
      have hbs := T.look_iff.1 (HPQ.out.2.2 (ls.getD kk (0, 0, 0, 0, 0)) (T.getD_mem hkk))
      obtain ⟨⟨r0, r1, r2, r3, r4⟩, hss⟩ : ∃ s, ls.getD kk (0, 0, 0, 0, 0) = s := ⟨_, rfl⟩
      rw [hss] at hbs
      dsimp only at hbs
      obtain ⟨a'', c'', e'', _, _, hm⟩ := (HK.out w (Up.refl w)).is
      injection e'' with ea eb ec
      clear eb ec
      obtain ⟨gE, oE, ga, glE, hxE⟩ := hm (by omega)
      subst ea ga
      clear hm
      have HcE := Lib.hid (fun w' (u : Up w w') => show w'.cell? ⟨gE, oE + kk * 5, none⟩ = some (.int .i64 r0) ∧ w'.cell? ⟨gE, oE + kk * 5 + 1, none⟩ = some (.int .i64 r1) ∧ w'.cell? ⟨gE, oE + kk * 5 + 2, none⟩ = some (.int .i64 r2) ∧ w'.cell? ⟨gE, oE + kk * 5 + 3, none⟩ = some (.int .i64 r3) ∧ w'.cell? ⟨gE, oE + kk * 5 + 4, none⟩ = some (.int .i64 r4) from ⟨by have := hxE kk hkk 0 (by omega); rw [hss] at this; exact (u.facts.1 gE _ glE).trans this, by have := hxE kk hkk 1 (by omega); rw [hss] at this; exact (u.facts.1 gE _ glE).trans this, by have := hxE kk hkk 2 (by omega); rw [hss] at this; exact (u.facts.1 gE _ glE).trans this, by have := hxE kk hkk 3 (by omega); rw [hss] at this; exact (u.facts.1 gE _ glE).trans this, by have := hxE kk hkk 4 (by omega); rw [hss] at this; exact (u.facts.1 gE _ glE).trans this⟩)
      clear hxE glE
      obtain ⟨e', he'⟩ : ∃ z, min 2000 (r4 + bq) = z := ⟨_, rfl⟩
      have hMn := min_run he'
      have z1 : IntKind.i64.wrap (r4 + bq) = r4 + bq := IntWalk.i64_in _ (by omega)
      have hin : r4 ≤ e' ∧ e' ≤ 2000 := by omega
      have HGM := Lib.hid (And.intro (show T.valid (N : Int) bl bh rl rh ps qs (ls.set kk (r0, r1, r2, r3, e')) = true from T.valid_mk HB.out.1 HB.out.2.1 HB.out.2.2 HL4.out.1 HL4.out.2.1 (by rw [List.length_set]; exact HL4.out.2.2) HPQ.out.1 HPQ.out.2.1 (T.mem_set HPQ.out.2.2 (T.look_iff.2 (by dsimp only; omega)))) (show ∀ y, T.Tr N bl bh rl rh ps qs ls y → T.Tr N bl bh rl rh ps qs (ls.set kk (r0, r1, r2, r3, e')) y from fun y hy => T.tr_wd hy (by omega) (by omega) rfl (fun k _ => by omega) rfl (fun k _ => by omega) (T.mem_set hy.look (by
        have q := hy.look _ (T.getD_mem (d := (0, 0, 0, 0, 0)) hkk)
        rw [hss] at q
        unfold T.HL at q ⊢
        dsimp only at q ⊢
        omega))))
      clear hin hbs az bz he'
      go_wp2_with fail
      refine (HRz.out _).mono ?_
      rintro e x501 ⟨rfl, rfl⟩
      clear HRz
      have own0 := World.ownsRow_lit (base := Y5.heap.size) (e := 63) (size := 5) Y5 #[] 0 (Nat.le_refl _) (by unfold maxLen; omega) rfl
      obtain ⟨pe, hpe⟩ : ∃ z, Y5.heap.size = z := ⟨_, rfl⟩
      have IX1 := HK.out _ (U.alloc (.cells #[] 63))
      have U1 := U.alloc (.cells #[] 63)
      have jkB := blk_keep (.cells #[] 63) kB
      have lkB := blk_lt kB
      have jkN := blk_keep (.cells #[] 63) kN
      have lkN := blk_lt kN
      have jkx := blk_keep (.cells #[] 63) kx
      have lkx := blk_lt kx
      rw [hpe] at own0 lkB lkN lkx
      have gw := U.size
      rw [hpe] at gw
      go_upto_region 9 with (at_builtin; refine T.wpList_app (ys := []) T.elL rfl (.tmp 37) (.tmp 39) rfl IX1 rfl pe _ 0 rfl own0 (by omega) (by omega) (by simp [hpe]) ?_; intro v1 w1 own1 grow1; rw [Nat.zero_add] at own1; have rkB := grown_blk grow1 jkB (row_block own0 lkB); have rkN := grown_blk grow1 jkN (row_block own0 lkN); have rkx := grown_blk grow1 jkx (row_block own0 lkx); have U2 : Up w w1 := U1.grown grow1 (fun k e => by (have := row_base own0 k e; omega)); obtain ⟨g2, c2, cur, rfl, hg2, kg, hc2, hm2, hz2⟩ := row_open own1 (by omega); have zx := frozB rkx; have x3 := blk_put rkx 7 (.slice (some ⟨g2, 0, none⟩) ls.length c2))
      obtain ⟨W502, hW502⟩ : ∃ z, w1.setCell ⟨pkx, 7, none⟩ (.slice (some ⟨g2, 0, none⟩) ls.length c2) = z := ⟨_, rfl⟩
      have ltg : pkx < g2 := by omega
      have own3 : W502.ownsRow pe 63 5 (.slice (some ⟨g2, 0, none⟩) ls.length c2) ls.length (T.flat 5 T.encL ls) := by
        rw [← hW502]
        exact row_other own1 (grown_set w1 (pkx) 7 _) (row_block own1 lkx)
      have IX2 : Tab 5 T.encL (0, 0, 0, 0, 0) W502 (.slice (some ⟨g2, 0, none⟩) ls.length c2) ls := Tab.of_row own3 (by decide) (by omega)
      have U4 : Up w W502 := by rw [← hW502]; exact U2.set (p := ⟨pkx, 7, none⟩) (show w.heap.size ≤ pkx by omega) _
      have jg : mblk W502 g2 = some (.cells cur 63 (0, 0)) := by rw [← hW502, blk_set _ _ _ _ (by show g2 ≠ pkx; omega)]; exact kg
      have jx4 : mblk W502 (pkx) = some (.cells (BoC (N : Int) bl bh rl rh (.slice aP ps.length cP) (.slice aQ qs.length cQ) (.slice (some ⟨g2, 0, none⟩) ls.length c2)) 27 (0, 0)) := by rw [← hW502]; exact x3
      have ykB : mblk W502 (q0) = some (.cells (BoC (N : Int) bl bh rl rh (.slice aP ps.length cP) (.slice aQ qs.length cQ) (.slice (some ⟨gE, oE, none⟩) ls.length cL)) 27 (0, 0)) := by rw [← hW502, blk_set _ _ _ _ (by show q0 ≠ pkx; omega)]; exact rkB
      have ykN : mblk W502 (q0 + 1) = some (.cells #[.int .i64 n0, .int .i64 n1, .int .i64 n2, .int .i64 n3] 65 (0, 0)) := by rw [← hW502, blk_set _ _ _ _ (by show q0 + 1 ≠ pkx; omega)]; exact rkN
      have dgkB : q0 < g2 := by omega
      have dgkN : q0 + 1 < g2 := by omega
      try rw [hW502]
      clear hW502 x3 zx kg own1 own3 U2 U1 own0 IX1 grow1 U hpe rkB jkB kB rkN jkN kN rkx jkx kx
      have U := U4
      have kx := jx4
      have kg := jg
      clear U4 jx4 jg
      have kB := ykB
      clear ykB
      have kN := ykN
      clear ykN
      obtain ⟨d0, d1, d2, d3, d4⟩ := HcE.out _ U
      have cg0 : cur[kk * 5]? = some (.int .i64 r0) := by have := Tab.at0 IX2 hkk 0 (by omega); rw [hss] at this; exact (cellB kg _).symm.trans this
      have cg1 : cur[kk * 5 + 1]? = some (.int .i64 r1) := by have := Tab.at0 IX2 hkk 1 (by omega); rw [hss] at this; exact (cellB kg _).symm.trans this
      have cg2 : cur[kk * 5 + 2]? = some (.int .i64 r2) := by have := Tab.at0 IX2 hkk 2 (by omega); rw [hss] at this; exact (cellB kg _).symm.trans this
      have cg3 : cur[kk * 5 + 3]? = some (.int .i64 r3) := by have := Tab.at0 IX2 hkk 3 (by omega); rw [hss] at this; exact (cellB kg _).symm.trans this
      have cg4 : cur[kk * 5 + 4]? = some (.int .i64 r4) := by have := Tab.at0 IX2 hkk 4 (by omega); rw [hss] at this; exact (cellB kg _).symm.trans this
      have Uz := Up.refl W502
      have i_kB := kB
      have i_kN := kN
      have i_kx := kx
      have i_kg := kg
      have dkBky := blk_lt kB
      have dkNky := blk_lt kN
      have dkxky := blk_lt kx
      have dkgky := blk_lt kg
      have gky := U.size
      have ky := blk_new W502 (.cells #[.int .i64 r0, .int .i64 r1, .int .i64 r2, .int .i64 r3, .int .i64 r4] 63) _ rfl
      replace kB := blk_keep (.cells #[.int .i64 r0, .int .i64 r1, .int .i64 r2, .int .i64 r3, .int .i64 r4] 63) kB
      replace kN := blk_keep (.cells #[.int .i64 r0, .int .i64 r1, .int .i64 r2, .int .i64 r3, .int .i64 r4] 63) kN
      replace kx := blk_keep (.cells #[.int .i64 r0, .int .i64 r1, .int .i64 r2, .int .i64 r3, .int .i64 r4] 63) kx
      replace kg := blk_keep (.cells #[.int .i64 r0, .int .i64 r1, .int .i64 r2, .int .i64 r3, .int .i64 r4] 63) kg
      replace U := U.alloc (.cells #[.int .i64 r0, .int .i64 r1, .int .i64 r2, .int .i64 r3, .int .i64 r4] 63)
      replace Uz := Uz.alloc (.cells #[.int .i64 r0, .int .i64 r1, .int .i64 r2, .int .i64 r3, .int .i64 r4] 63)
      obtain ⟨pky, hpky⟩ : ∃ z, W502.heap.size = z := ⟨_, rfl⟩
      obtain ⟨W503, hW503⟩ : ∃ z, W502.alloc (.cells #[.int .i64 r0, .int .i64 r1, .int .i64 r2, .int .i64 r3, .int .i64 r4] 63) = z := ⟨_, rfl⟩
      rw [hpky] at ky dkBky dkNky dkxky dkgky gky
      rw [hW503] at ky U kB kN kx kg Uz
      skip
      have gz : W502.heap.size ≤ pky := by omega
      go_upto_region 10 with fail
      clear hpky hW503 i_kB i_kN i_kx i_kg d0 d1 d2 d3 d4
      have zf := frozB ky
      have i0 := ky
      have U1 := (U.set (p := ⟨pky, 4, none⟩) (show w.heap.size ≤ pky by omega) (.int .i64 e'))
      have VUz := (Uz.set (p := ⟨pky, 4, none⟩) (show W502.heap.size ≤ pky by omega) (.int .i64 e'))
      have jkB := kB
      rw [← blk_set (W503) ⟨pky, 4, none⟩ (.int .i64 e') (q0) (by show q0 ≠ pky; omega)] at jkB
      have jkN := kN
      rw [← blk_set (W503) ⟨pky, 4, none⟩ (.int .i64 e') (q0 + 1) (by show q0 + 1 ≠ pky; omega)] at jkN
      have jkx := kx
      rw [← blk_set (W503) ⟨pky, 4, none⟩ (.int .i64 e') (pkx) (by show pkx ≠ pky; omega)] at jkx
      have jkg := kg
      rw [← blk_set (W503) ⟨pky, 4, none⟩ (.int .i64 e') (g2) (by show g2 ≠ pky; omega)] at jkg
      have jky : mblk ((W503).setCell ⟨pky, 4, none⟩ (.int .i64 e')) pky = some (.cells #[.int .i64 r0, .int .i64 r1, .int .i64 r2, .int .i64 r3, .int .i64 e'] 63 (0, 0)) := (blk_put ky 4 (.int .i64 e'))
      obtain ⟨W504, hW504⟩ : ∃ z, (W503).setCell ⟨pky, 4, none⟩ (.int .i64 e') = z := ⟨_, rfl⟩
      rw [hW504] at jkB jkN jkx jkg jky U1 VUz
      clear Uz
      have Uz := VUz
      clear VUz
      clear kB kN kx kg ky U
      have kB := jkB
      have kN := jkN
      have kx := jkx
      have kg := jkg
      have ky := jky
      have U := U1
      clear jkB jkN jkx jkg jky U1
      go_upto_region 11 with fail
      clear hW504 zf i0
      have zg := frozB kg
      have sg0 : W504.cell? ⟨g2, kk * 5, none⟩ = some (.int .i64 r0) := (cellB kg _).trans cg0
      have sg1 : W504.cell? ⟨g2, kk * 5 + 1, none⟩ = some (.int .i64 r1) := (cellB kg _).trans cg1
      have sg2 : W504.cell? ⟨g2, kk * 5 + 2, none⟩ = some (.int .i64 r2) := (cellB kg _).trans cg2
      have sg3 : W504.cell? ⟨g2, kk * 5 + 3, none⟩ = some (.int .i64 r3) := (cellB kg _).trans cg3
      have sg4 : W504.cell? ⟨g2, kk * 5 + 4, none⟩ = some (.int .i64 r4) := (cellB kg _).trans cg4
      have n01 : ¬ kk * 5 = kk * 5 + 1 := by omega
      have n02 : ¬ kk * 5 = kk * 5 + 2 := by omega
      have n03 : ¬ kk * 5 = kk * 5 + 3 := by omega
      have n04 : ¬ kk * 5 = kk * 5 + 4 := by omega
      have n12 : ¬ kk * 5 + 1 = kk * 5 + 2 := by omega
      have n13 : ¬ kk * 5 + 1 = kk * 5 + 3 := by omega
      have n14 : ¬ kk * 5 + 1 = kk * 5 + 4 := by omega
      have n23 : ¬ kk * 5 + 2 = kk * 5 + 3 := by omega
      have n24 : ¬ kk * 5 + 2 = kk * 5 + 4 := by omega
      have n34 : ¬ kk * 5 + 3 = kk * 5 + 4 := by omega
      replace IX2 := IX2.up Uz
      go_wp2_with fail
      have IX3 := Tab.put5 (a := r0) (b := r1) (c' := r2) (e := r3) (f := e') (x := (r0, r1, r2, r3, e')) IX2 kg (by omega) hkk rfl rfl rfl rfl rfl
      have U5 := (((((U.set (p := ⟨g2, kk * 5, none⟩) (show w.heap.size ≤ g2 by omega) (.int .i64 r0)).set (p := ⟨g2, kk * 5 + 1, none⟩) (show w.heap.size ≤ g2 by omega) (.int .i64 r1)).set (p := ⟨g2, kk * 5 + 2, none⟩) (show w.heap.size ≤ g2 by omega) (.int .i64 r2)).set (p := ⟨g2, kk * 5 + 3, none⟩) (show w.heap.size ≤ g2 by omega) (.int .i64 r3)).set (p := ⟨g2, kk * 5 + 4, none⟩) (show w.heap.size ≤ g2 by omega) (.int .i64 e'))
      have jkB : mblk (((((W504.setCell ⟨g2, kk * 5, none⟩ (.int .i64 r0)).setCell ⟨g2, kk * 5 + 1, none⟩ (.int .i64 r1)).setCell ⟨g2, kk * 5 + 2, none⟩ (.int .i64 r2)).setCell ⟨g2, kk * 5 + 3, none⟩ (.int .i64 r3)).setCell ⟨g2, kk * 5 + 4, none⟩ (.int .i64 e')) (q0) = some (.cells (BoC (N : Int) bl bh rl rh (.slice aP ps.length cP) (.slice aQ qs.length cQ) (.slice (some ⟨gE, oE, none⟩) ls.length cL)) 27 (0, 0)) := by rw [blk_set _ _ _ _ (by show q0 ≠ g2; omega), blk_set _ _ _ _ (by show q0 ≠ g2; omega), blk_set _ _ _ _ (by show q0 ≠ g2; omega), blk_set _ _ _ _ (by show q0 ≠ g2; omega), blk_set _ _ _ _ (by show q0 ≠ g2; omega)]; exact kB
      have jkN : mblk (((((W504.setCell ⟨g2, kk * 5, none⟩ (.int .i64 r0)).setCell ⟨g2, kk * 5 + 1, none⟩ (.int .i64 r1)).setCell ⟨g2, kk * 5 + 2, none⟩ (.int .i64 r2)).setCell ⟨g2, kk * 5 + 3, none⟩ (.int .i64 r3)).setCell ⟨g2, kk * 5 + 4, none⟩ (.int .i64 e')) (q0 + 1) = some (.cells #[.int .i64 n0, .int .i64 n1, .int .i64 n2, .int .i64 n3] 65 (0, 0)) := by rw [blk_set _ _ _ _ (by show q0 + 1 ≠ g2; omega), blk_set _ _ _ _ (by show q0 + 1 ≠ g2; omega), blk_set _ _ _ _ (by show q0 + 1 ≠ g2; omega), blk_set _ _ _ _ (by show q0 + 1 ≠ g2; omega), blk_set _ _ _ _ (by show q0 + 1 ≠ g2; omega)]; exact kN
      have jkx : mblk (((((W504.setCell ⟨g2, kk * 5, none⟩ (.int .i64 r0)).setCell ⟨g2, kk * 5 + 1, none⟩ (.int .i64 r1)).setCell ⟨g2, kk * 5 + 2, none⟩ (.int .i64 r2)).setCell ⟨g2, kk * 5 + 3, none⟩ (.int .i64 r3)).setCell ⟨g2, kk * 5 + 4, none⟩ (.int .i64 e')) (pkx) = some (.cells (BoC (N : Int) bl bh rl rh (.slice aP ps.length cP) (.slice aQ qs.length cQ) (.slice (some ⟨g2, 0, none⟩) ls.length c2)) 27 (0, 0)) := by rw [blk_set _ _ _ _ (by show pkx ≠ g2; omega), blk_set _ _ _ _ (by show pkx ≠ g2; omega), blk_set _ _ _ _ (by show pkx ≠ g2; omega), blk_set _ _ _ _ (by show pkx ≠ g2; omega), blk_set _ _ _ _ (by show pkx ≠ g2; omega)]; exact kx
      have jky : mblk (((((W504.setCell ⟨g2, kk * 5, none⟩ (.int .i64 r0)).setCell ⟨g2, kk * 5 + 1, none⟩ (.int .i64 r1)).setCell ⟨g2, kk * 5 + 2, none⟩ (.int .i64 r2)).setCell ⟨g2, kk * 5 + 3, none⟩ (.int .i64 r3)).setCell ⟨g2, kk * 5 + 4, none⟩ (.int .i64 e')) (pky) = some (.cells #[.int .i64 r0, .int .i64 r1, .int .i64 r2, .int .i64 r3, .int .i64 e'] 63 (0, 0)) := by rw [blk_set _ _ _ _ (by show pky ≠ g2; omega), blk_set _ _ _ _ (by show pky ≠ g2; omega), blk_set _ _ _ _ (by show pky ≠ g2; omega), blk_set _ _ _ _ (by show pky ≠ g2; omega), blk_set _ _ _ _ (by show pky ≠ g2; omega)]; exact ky
      obtain ⟨W505, hW505⟩ : ∃ z, (((((W504.setCell ⟨g2, kk * 5, none⟩ (.int .i64 r0)).setCell ⟨g2, kk * 5 + 1, none⟩ (.int .i64 r1)).setCell ⟨g2, kk * 5 + 2, none⟩ (.int .i64 r2)).setCell ⟨g2, kk * 5 + 3, none⟩ (.int .i64 r3)).setCell ⟨g2, kk * 5 + 4, none⟩ (.int .i64 e')) = z := ⟨_, rfl⟩
      rw [hW505] at IX3 U5 jkB jkN jkx jky
      try rw [hW505]
      clear kB kN kx ky U kg IX2 Uz HcE hMn z1 zg sg0 cg0 sg1 cg1 sg2 cg2 sg3 cg3 sg4 cg4 n01 n02 n03 n04 n12 n13 n14 n23 n24 n34
      have U := U5
      have kB := jkB
      have kN := jkN
      have kx := jkx
      have ky := jky
      clear U5 jkB jkN jkx jky
      clear ky
      try clear hW505
      have HU := Lib.hid U
      have Uz := Up.refl W505
      obtain ⟨hv', hm'⟩ := HGM.out
      obtain ⟨lt, ht, et, tt, _, _, _⟩ := T.Tells.ex (o := T.o0) (m := 0) (i := (1 + k)) hv' T.al_0 (T.al_night HKN.out)
      have Ct := Lib.hid (fun w' (u : Up W505 w') => Offset_tells hv' HKN.out tt (HI.out _ (HU.out.trans u)) (HJ.out _ (HU.out.trans u)) (IX3.up u))
      have key := HTa.out.wider hm' tt
      have et' := tt.err
      clear tt hm' hv'
      refine (HRk.out _).mono ?_
      rintro e x506 ⟨rfl, rfl⟩
      clear HRk
      clear kN
      rcases key with ⟨rfl, rfl, rfl⟩ | ⟨rfl, rfl, f1, f2⟩
      · rcases et' with rfl | ⟨rfl, rfl, rfl⟩
        · skip
          go_wp2_with fail
          refine (Ca.out _ U).mono ?_
          rintro e x557 ⟨rfl, u558⟩
          replace U := U.trans u558
          replace kB := u558.blk kB
          replace kx := u558.blk kx
          replace Uz := Uz.trans u558
          clear u558 
          have dkBka := blk_lt kB
          have dkxka := blk_lt kx
          have gka := U.size
          have ka := blk_new x557 (.cells #[.int .i64 0, .int .i64 0] 23) _ rfl
          replace kB := blk_keep (.cells #[.int .i64 0, .int .i64 0] 23) kB
          replace kx := blk_keep (.cells #[.int .i64 0, .int .i64 0] 23) kx
          replace U := U.alloc (.cells #[.int .i64 0, .int .i64 0] 23)
          replace Uz := Uz.alloc (.cells #[.int .i64 0, .int .i64 0] 23)
          go_wp2_with fail
          obtain ⟨pka, hpka⟩ : ∃ z, x557.heap.size = z := ⟨_, rfl⟩
          obtain ⟨W559, hW559⟩ : ∃ z, x557.alloc (.cells #[.int .i64 0, .int .i64 0] 23) = z := ⟨_, rfl⟩
          rw [hpka] at ka dkBka dkxka gka
          rw [hW559] at ka U kB kx Uz
          rw [hW559, hpka]
          go_wp2_with fail
          clear hpka hW559
          refine (Ct.out _ Uz).mono ?_
          rintro e x560 ⟨rfl, u561⟩
          replace U := U.trans u561
          replace kB := u561.blk kB
          replace kx := u561.blk kx
          replace ka := u561.blk ka
          replace Uz := Uz.trans u561
          clear u561 
          have dkBkt := blk_lt kB
          have dkxkt := blk_lt kx
          have dkakt := blk_lt ka
          have gkt := U.size
          have kt := blk_new x560 (.cells #[.int .i64 lt, .int .i64 ht] 23) _ rfl
          replace kB := blk_keep (.cells #[.int .i64 lt, .int .i64 ht] 23) kB
          replace kx := blk_keep (.cells #[.int .i64 lt, .int .i64 ht] 23) kx
          replace ka := blk_keep (.cells #[.int .i64 lt, .int .i64 ht] 23) ka
          replace U := U.alloc (.cells #[.int .i64 lt, .int .i64 ht] 23)
          replace Uz := Uz.alloc (.cells #[.int .i64 lt, .int .i64 ht] 23)
          obtain ⟨pkt, hpkt⟩ : ∃ z, x560.heap.size = z := ⟨_, rfl⟩
          obtain ⟨W562, hW562⟩ : ∃ z, x560.alloc (.cells #[.int .i64 lt, .int .i64 ht] 23) = z := ⟨_, rfl⟩
          rw [hpkt] at kt dkBkt dkxkt dkakt gkt
          rw [hW562] at kt U kB kx ka Uz
          go_wp2_with fail
          clear hpkt hW562
          refine (HW.out _).mono ?_
          rintro e x563 ⟨rfl, u564⟩
          replace U := U.trans u564
          replace kB := u564.blk kB
          replace kx := u564.blk kx
          replace ka := u564.blk ka
          replace kt := u564.blk kt
          replace Uz := Uz.trans u564
          clear u564 
          go_wp2
          go_ret
          exact ⟨rfl, U⟩
        · skip
          go_wp2_with fail
          refine (Ca.out _ U).mono ?_
          rintro e x557 ⟨rfl, u558⟩
          replace U := U.trans u558
          replace kB := u558.blk kB
          replace kx := u558.blk kx
          replace Uz := Uz.trans u558
          clear u558 
          have dkBka := blk_lt kB
          have dkxka := blk_lt kx
          have gka := U.size
          have ka := blk_new x557 (.cells #[.int .i64 0, .int .i64 0] 23) _ rfl
          replace kB := blk_keep (.cells #[.int .i64 0, .int .i64 0] 23) kB
          replace kx := blk_keep (.cells #[.int .i64 0, .int .i64 0] 23) kx
          replace U := U.alloc (.cells #[.int .i64 0, .int .i64 0] 23)
          replace Uz := Uz.alloc (.cells #[.int .i64 0, .int .i64 0] 23)
          go_wp2_with fail
          obtain ⟨pka, hpka⟩ : ∃ z, x557.heap.size = z := ⟨_, rfl⟩
          obtain ⟨W559, hW559⟩ : ∃ z, x557.alloc (.cells #[.int .i64 0, .int .i64 0] 23) = z := ⟨_, rfl⟩
          rw [hpka] at ka dkBka dkxka gka
          rw [hW559] at ka U kB kx Uz
          rw [hW559, hpka]
          go_wp2_with fail
          clear hpka hW559
          refine (Ct.out _ Uz).mono ?_
          rintro e x560 ⟨rfl, u561⟩
          replace U := U.trans u561
          replace kB := u561.blk kB
          replace kx := u561.blk kx
          replace ka := u561.blk ka
          replace Uz := Uz.trans u561
          clear u561 
          have dkBkt := blk_lt kB
          have dkxkt := blk_lt kx
          have dkakt := blk_lt ka
          have gkt := U.size
          have kt := blk_new x560 (.cells #[.int .i64 0, .int .i64 0] 23) _ rfl
          replace kB := blk_keep (.cells #[.int .i64 0, .int .i64 0] 23) kB
          replace kx := blk_keep (.cells #[.int .i64 0, .int .i64 0] 23) kx
          replace ka := blk_keep (.cells #[.int .i64 0, .int .i64 0] 23) ka
          replace U := U.alloc (.cells #[.int .i64 0, .int .i64 0] 23)
          replace Uz := Uz.alloc (.cells #[.int .i64 0, .int .i64 0] 23)
          go_wp2_with fail
          obtain ⟨pkt, hpkt⟩ : ∃ z, x560.heap.size = z := ⟨_, rfl⟩
          obtain ⟨W562, hW562⟩ : ∃ z, x560.alloc (.cells #[.int .i64 0, .int .i64 0] 23) = z := ⟨_, rfl⟩
          rw [hpkt] at kt dkBkt dkxkt dkakt gkt
          rw [hW562] at kt U kB kx ka Uz
          rw [hW562, hpkt]
          go_wp2_with fail
          clear hpkt hW562
          refine (HW.out _).mono ?_
          rintro e x563 ⟨rfl, u564⟩
          replace U := U.trans u564
          replace kB := u564.blk kB
          replace kx := u564.blk kx
          replace ka := u564.blk ka
          replace kt := u564.blk kt
          replace Uz := Uz.trans u564
          clear u564 
          go_wp2
          go_ret
          exact ⟨rfl, U⟩
      · skip
        go_wp2_with fail
        refine (Ca.out _ U).mono ?_
        rintro e x557 ⟨rfl, u558⟩
        replace U := U.trans u558
        replace kB := u558.blk kB
        replace kx := u558.blk kx
        replace Uz := Uz.trans u558
        clear u558 
        have dkBka := blk_lt kB
        have dkxka := blk_lt kx
        have gka := U.size
        have ka := blk_new x557 (.cells #[.int .i64 la, .int .i64 ha] 23) _ rfl
        replace kB := blk_keep (.cells #[.int .i64 la, .int .i64 ha] 23) kB
        replace kx := blk_keep (.cells #[.int .i64 la, .int .i64 ha] 23) kx
        replace U := U.alloc (.cells #[.int .i64 la, .int .i64 ha] 23)
        replace Uz := Uz.alloc (.cells #[.int .i64 la, .int .i64 ha] 23)
        obtain ⟨pka, hpka⟩ : ∃ z, x557.heap.size = z := ⟨_, rfl⟩
        obtain ⟨W559, hW559⟩ : ∃ z, x557.alloc (.cells #[.int .i64 la, .int .i64 ha] 23) = z := ⟨_, rfl⟩
        rw [hpka] at ka dkBka dkxka gka
        rw [hW559] at ka U kB kx Uz
        go_wp2_with fail
        clear hpka hW559
        refine (Ct.out _ Uz).mono ?_
        rintro e x560 ⟨rfl, u561⟩
        replace U := U.trans u561
        replace kB := u561.blk kB
        replace kx := u561.blk kx
        replace ka := u561.blk ka
        replace Uz := Uz.trans u561
        clear u561 
        have dkBkt := blk_lt kB
        have dkxkt := blk_lt kx
        have dkakt := blk_lt ka
        have gkt := U.size
        have kt := blk_new x560 (.cells #[.int .i64 lt, .int .i64 ht] 23) _ rfl
        replace kB := blk_keep (.cells #[.int .i64 lt, .int .i64 ht] 23) kB
        replace kx := blk_keep (.cells #[.int .i64 lt, .int .i64 ht] 23) kx
        replace ka := blk_keep (.cells #[.int .i64 lt, .int .i64 ht] 23) ka
        replace U := U.alloc (.cells #[.int .i64 lt, .int .i64 ht] 23)
        replace Uz := Uz.alloc (.cells #[.int .i64 lt, .int .i64 ht] 23)
        obtain ⟨pkt, hpkt⟩ : ∃ z, x560.heap.size = z := ⟨_, rfl⟩
        obtain ⟨W562, hW562⟩ : ∃ z, x560.alloc (.cells #[.int .i64 lt, .int .i64 ht] 23) = z := ⟨_, rfl⟩
        rw [hpkt] at kt dkBkt dkxkt dkakt gkt
        rw [hW562] at kt U kB kx ka Uz
        go_wp2_with fail
        clear hpkt hW562
        refine (HWi.out _ _ _ _ _ ⟨f1, f2⟩).mono ?_
        rintro e x563 ⟨rfl, u564⟩
        replace U := U.trans u564
        replace kB := u564.blk kB
        replace kx := u564.blk kx
        replace ka := u564.blk ka
        replace kt := u564.blk kt
        replace Uz := Uz.trans u564
        clear u564 
        go_wp2_with fail
        refine (HW.out _).mono ?_
        rintro e x565 ⟨rfl, u566⟩
        replace U := U.trans u566
        replace kB := u566.blk kB
        replace kx := u566.blk kx
        replace ka := u566.blk ka
        replace kt := u566.blk kt
        replace Uz := Uz.trans u566
        clear u566 
        go_wp2
        go_ret
        exact ⟨rfl, U⟩
end

end Go.Proofs.Ytlpkheoljbdajaa
