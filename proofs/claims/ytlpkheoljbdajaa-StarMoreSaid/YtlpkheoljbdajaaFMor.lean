import Derived.Test.YtlpkheoljbdajaaMor
import Derived.Test.YtlpkheoljbdajaaWth
import Derived.Test.YtlpkheoljbdajaaWdm
import Derived.Test.YtlpkheoljbdajaaSou
import Derived.Test.YtlpkheoljbdajaaHeQ
import Derived.Deep.Cut
/- The law StarMore. -/
namespace Go.Proofs.Ytlpkheoljbdajaa
open Go.RowKit Go.Shelf
attribute [local go_sem] Oper.semAt_some

theorem cell_int2 {w : World} {b : Nat} {cs : Array Value} (h : mblk w b = some (.cells cs 31 (0, 0))) (j : Nat) : w.cell? ⟨b, j, none⟩ = cs[j]? := cellB h j
attribute [local go_sem] cell_int2
theorem T.mergeN2 {P : Prop} (R : World → Nat → Nat → Prop) {G : World → Nat → Nat → Prop} (h1 : Hid (∀ w' b c, R w' b c → G w' b c) → P) (h2 : ∀ w' b c, R w' b c → G w' b c) : P := h1 (Lib.hid h2)
theorem put8_same {w : World} {p : Nat} {a0 a1 a2 a3 a4 a5 a6 a7 : Value} {t : TypeId} {fr : Nat × Nat} (h : mblk w p = some (.cells #[a0, a1, a2, a3, a4, a5, a6, a7] t fr)) (v0 v1 v2 v3 v4 v5 v6 v7 : Value) : mblk ((((((((w.setCell ⟨p, 0, none⟩ v0).setCell ⟨p, 1, none⟩ v1).setCell ⟨p, 2, none⟩ v2).setCell ⟨p, 3, none⟩ v3).setCell ⟨p, 4, none⟩ v4).setCell ⟨p, 5, none⟩ v5).setCell ⟨p, 6, none⟩ v6).setCell ⟨p, 7, none⟩ v7) p = some (.cells #[v0, v1, v2, v3, v4, v5, v6, v7] t fr) := by
  have q := blk_put (blk_put (blk_put (blk_put (blk_put (blk_put (blk_put (blk_put h 0 v0) 1 v1) 2 v2) 3 v3) 4 v4) 5 v5) 6 v6) 7 v7
  simpa using q
theorem put8_other (w : World) {p n : Nat} (hn : n ≠ p) (v0 v1 v2 v3 v4 v5 v6 v7 : Value) : mblk ((((((((w.setCell ⟨p, 0, none⟩ v0).setCell ⟨p, 1, none⟩ v1).setCell ⟨p, 2, none⟩ v2).setCell ⟨p, 3, none⟩ v3).setCell ⟨p, 4, none⟩ v4).setCell ⟨p, 5, none⟩ v5).setCell ⟨p, 6, none⟩ v6).setCell ⟨p, 7, none⟩ v7) n = mblk w n := by
  rw [blk_set _ _ _ _ hn, blk_set _ _ _ _ hn, blk_set _ _ _ _ hn, blk_set _ _ _ _ hn, blk_set _ _ _ _ hn, blk_set _ _ _ _ hn, blk_set _ _ _ _ hn, blk_set _ _ _ _ hn]
theorem Up.put8 {w w' : World} (h : Up w w') {p : Nat} (hb : w.heap.size ≤ p) (v0 v1 v2 v3 v4 v5 v6 v7 : Value) : Up w ((((((((w'.setCell ⟨p, 0, none⟩ v0).setCell ⟨p, 1, none⟩ v1).setCell ⟨p, 2, none⟩ v2).setCell ⟨p, 3, none⟩ v3).setCell ⟨p, 4, none⟩ v4).setCell ⟨p, 5, none⟩ v5).setCell ⟨p, 6, none⟩ v6).setCell ⟨p, 7, none⟩ v7) :=
  ((((((((h.set (p := ⟨p, 0, none⟩) hb v0).set (p := ⟨p, 1, none⟩) hb v1).set (p := ⟨p, 2, none⟩) hb v2).set (p := ⟨p, 3, none⟩) hb v3).set (p := ⟨p, 4, none⟩) hb v4).set (p := ⟨p, 5, none⟩) hb v5).set (p := ⟨p, 6, none⟩) hb v6).set (p := ⟨p, 7, none⟩) hb v7)
section
variable {bl bh rl rh : Int} {aP aQ aL : Option Addr} {nP cP nQ cQ nL cL : Nat} {ps qs : List (Int × Int)} {ls : List T.T5}
set_option maxRecDepth 100000 in
set_option maxHeartbeats 8000000 in
set_option linter.unusedSimpArgs false in
theorem starMore_any {M m0 m1 m2 m3 m4 n0 n1 : Int} {w : World} (I : Sps w (.slice aP nP cP) ps) (J : Sps w (.slice aQ nQ cQ) qs) (K : Lks w (.slice aL nL cL) ls) :
    Calls Try.prog 10 #[BoV M bl bh rl rh (.slice aP nP cP) (.slice aQ nQ cQ) (.slice aL nL cL), .agg #[.int .i64 m0, .int .i64 m1, .int .i64 m2, .int .i64 m3, .int .i64 m4], .agg #[.int .i64 n0, .int .i64 n1]] w fun e w' => e = .returned (.bool true) ∧ Up w w' := by
  have U := ((((Up.refl w).alloc (.cells (BoC M bl bh rl rh (.slice aP nP cP) (.slice aQ nQ cQ) (.slice aL nL cL)) 27)).alloc (.cells #[.int .i64 m0, .int .i64 m1, .int .i64 m2, .int .i64 m3, .int .i64 m4] 63)).alloc (.cells #[.int .i64 n0, .int .i64 n1] 31))
  have HW := Lib.hid (fun w => l_works_any w)
  cases hv : T.valid M bl bh rl rh ps qs ls with
  | false =>
    have HS := Lib.hid (fun w' (u : Up w w') => l_sound_no (I.up u) (J.up u) (K.up u) hv)
    clear hv I J K 
    go_enter Try.func10, Try.ntmps10
    go_wp2_with fail
    refine (HS.out _ U).mono ?_
    rintro e w1 ⟨rfl, u1⟩
    go_wp2_with fail
    refine (HW.out _).mono ?_
    rintro e w2 ⟨rfl, u2⟩
    go_wp2
    go_ret
    exact ⟨rfl, (U.trans u1).trans u2⟩
  | true =>
    obtain ⟨N, rfl⟩ := T.valid_N hv
    obtain ⟨⟨hN, hB, hR⟩, ⟨h4, h5, h10⟩, hP, hQ, hL⟩ := T.valid_parts hv
    have HS := Lib.hid (fun w' (u : Up w w') => l_sound_yes (I.up u) (J.up u) (K.up u) hv)
    have hn := I.len
    have hno := J.len
    have hnp := K.len
    have hmx : Try.prog.follows .mixedOrders = true := by kernel_rfl
    subst hn hno hnp
    have HRk := Lib.hid (fun w => B_Rest_any n0 (N : Int) w (by omega) (by omega))
    have ak := Int.emod_nonneg n0 (b := (N : Int)) (by omega)
    have bk := Int.emod_lt_of_pos n0 (b := (N : Int)) (by omega)
    generalize n0 % (N : Int) = k at *
    obtain ⟨lo, ho, eo, to, vo, wo, xo⟩ := T.Tells.ex (o := T.o0) (m := 0) (i := (1 + k)) hv T.al_0 (T.al_night ⟨ak, bk⟩)
    have Co := Lib.hid (fun w' (u : Up w w') => Offset_tells hv ⟨ak, bk⟩ to (I.up u) (J.up u) (K.up u))
    have HTo := Lib.hid (fun l h w => B_To_any l h w)
    have HWi := Lib.hid (fun l h l' h' w (p : l' ≤ l ∧ h ≤ h') => show Calls Try.prog 41 #[SpV l h, SpV l' h'] w fun e w' => e = .returned (.bool true) ∧ Up w w' by rw [← decide_eq_true p]; exact B_Within_any _ _ _ _ w)
    obtain ⟨lm, um, em, hm, Cm⟩ := Offset_more ⟨ak, bk⟩ to (m0, m1, m2, m3, m4)
    have HM := Lib.hid Cm
    have Hm := Lib.hid hm
    have HI := Lib.hid (fun w' (u : Up w w') => I.up u)
    have HJ := Lib.hid (fun w' (u : Up w w') => J.up u)
    have HK := Lib.hid (fun w' (u : Up w w') => K.up u)
    have HV := Lib.hid hv
    have HKN := Lib.hid (And.intro (And.intro ak bk) to)
    have hl10 : ls.length ≤ 10 := h10
    have wL : IntKind.i64.wrap ((ls.length : Int) - 1) = (ls.length : Int) - 1 := IntWalk.i64_in _ (by omega)
    clear Cm hm to vo wo xo ak bk hv I J K hN hB hR h4 h5 h10 hP hQ hL
    go_enter Try.func10, Try.ntmps10
    obtain ⟨q0, e0⟩ : ∃ x, w.heap.size = x := ⟨_, rfl⟩
    have kB := (blk_keep (.cells #[.int .i64 n0, .int .i64 n1] 31) (blk_keep (.cells #[.int .i64 m0, .int .i64 m1, .int .i64 m2, .int .i64 m3, .int .i64 m4] 63) (blk_new w (.cells (BoC (N : Int) bl bh rl rh (.slice aP ps.length cP) (.slice aQ qs.length cQ) (.slice aL ls.length cL)) 27) q0 e0.symm)))
    have kM := (blk_keep (.cells #[.int .i64 n0, .int .i64 n1] 31) (blk_new (w.alloc (.cells (BoC (N : Int) bl bh rl rh (.slice aP ps.length cP) (.slice aQ qs.length cQ) (.slice aL ls.length cL)) 27)) (.cells #[.int .i64 m0, .int .i64 m1, .int .i64 m2, .int .i64 m3, .int .i64 m4] 63) (q0 + 1) (by simp [e0])))
    have kN := (blk_new ((w.alloc (.cells (BoC (N : Int) bl bh rl rh (.slice aP ps.length cP) (.slice aQ qs.length cQ) (.slice aL ls.length cL)) 27)).alloc (.cells #[.int .i64 m0, .int .i64 m1, .int .i64 m2, .int .i64 m3, .int .i64 m4] 63)) (.cells #[.int .i64 n0, .int .i64 n1] 31) (q0 + 2) (by simp [e0]))
    go_wp2_with fail
    refine (HS.out _ U).mono ?_
    rintro e x1 ⟨rfl, u2⟩
    replace U := U.trans u2
    replace kB := u2.blk kB
    replace kM := u2.blk kM
    replace kN := u2.blk kN
    clear u2 HS
    by_cases hten : ls.length = 10
    · skip
      have d0 : ((ls.length : Int) == 10) = true := by rw [beq_iff_eq]; omega
      clear hten wL Hm HKN
      go_wp2_with fail
      refine (HW.out _).mono ?_
      rintro e x1 ⟨rfl, u2⟩
      replace U := U.trans u2
      replace kB := u2.blk kB
      replace kM := u2.blk kM
      replace kN := u2.blk kN
      clear u2 
      go_wp2
      go_ret
      exact ⟨rfl, U⟩
    · skip
      have d0 : ((ls.length : Int) == 10) = false := by rw [beq_eq_false_iff_ne]; omega
      have hl9 : ls.length ≤ 9 := by omega
      clear hten hl10
      go_wp2_with fail
      apply T.mergeN2 (fun w' px py => Up w w' ∧ mblk w' (q0) = some (.cells (BoC (N : Int) bl bh rl rh (.slice aP ps.length cP) (.slice aQ qs.length cQ) (.slice aL ls.length cL)) 27 (0, 0)) ∧ mblk w' (q0 + 1) = some (.cells #[.int .i64 m0, .int .i64 m1, .int .i64 m2, .int .i64 m3, .int .i64 m4] 63 (0, 0)) ∧ mblk w' (q0 + 2) = some (.cells #[.int .i64 n0, .int .i64 n1] 31 (0, 0)) ∧ mblk w' px = some (.cells (BoC (N : Int) bl bh rl rh (.slice aP ps.length cP) (.slice aQ qs.length cQ) (.slice aL ls.length cL)) 27 (0, 0)) ∧ mblk w' py = some (.cells (BoC (N : Int) bl bh rl rh (.slice aP ps.length cP) (.slice aQ qs.length cQ) (.slice aL ls.length cL)) 27 (0, 0)) ∧ px ≠ py ∧ q0 + 1 + 1 < px ∧ q0 + 1 + 1 < py)
      · intro HKey
        refine (wpIn_wide (n := 5)).1 ?_
        refine wpIn_nrm ?_
        refine regionG (fun w' => Up w w' ∧ mblk w' (q0) = some (.cells (BoC (N : Int) bl bh rl rh (.slice aP ps.length cP) (.slice aQ qs.length cQ) (.slice aL ls.length cL)) 27 (0, 0)) ∧ mblk w' (q0 + 1) = some (.cells #[.int .i64 m0, .int .i64 m1, .int .i64 m2, .int .i64 m3, .int .i64 m4] 63 (0, 0)) ∧ mblk w' (q0 + 2) = some (.cells #[.int .i64 n0, .int .i64 n1] 31 (0, 0))) 5 hmx ⟨U.drew, (by rw [blk_drew]; exact kB), (by rw [blk_drew]; exact kM), (by rw [blk_drew]; exact kN)⟩ (fun hHeld hCl => ?_)
        refine takeG (i := 0) (d := (some 27)) (v := ?v1) rfl rfl (by kernel_rfl) (by kernel_rfl) (by decide) hCl (by kernel_rfl) (by kernel_rfl) (by kernel_rfl) (fun _ _ _ h => h) (by rfl) ?hy1 (fun _ _ _ => trivial) (by assumption) (fun hCl' => ?_)
        case hy1 => ((intro w hSw; (try dsimp only at hSw); (try go_split_ands); go_simp); try with_reducible rfl)
        simp only [Act.put, List.setIfInBounds_toArray, List.set_cons_zero, List.set_cons_succ]
        replace hCl := hCl'; clear hCl'
        refine takeG (i := 1) (d := (some 28)) (v := ?v2) rfl rfl (by kernel_rfl) (by kernel_rfl) (by decide) hCl (by kernel_rfl) (by kernel_rfl) (by kernel_rfl) (fun _ _ _ h => h) (by rfl) ?hy2 (fun _ _ _ => trivial) (by assumption) (fun hCl' => ?_)
        case hy2 => ((intro w hSw; (try dsimp only at hSw); (try go_split_ands); go_simp); try with_reducible rfl)
        simp only [Act.put, List.setIfInBounds_toArray, List.set_cons_zero, List.set_cons_succ]
        replace hCl := hCl'; clear hCl'
        clear hHeld
        refine nextG2 (i := 2) (j := 3) (by kernel_rfl) rfl rfl (by rfl) (by rfl) hCl ?_ ?_
        · skip
          refine (fun K hK => ?_)
          go_simp
          have A1 : Up x1 (x1.alloc (.cells #[.int .i64 0, .int .i64 0, .int .i64 0, .int .i64 0, .int .i64 0, .slice none 0 0, .slice none 0 0, .slice none 0 0] 27)).drew := Up.drew (Up.alloc (Up.refl x1) _)
          have z1 : mblk (x1.alloc (.cells #[.int .i64 0, .int .i64 0, .int .i64 0, .int .i64 0, .int .i64 0, .slice none 0 0, .slice none 0 0, .slice none 0 0] 27)).drew x1.heap.size = some (.cells #[.int .i64 0, .int .i64 0, .int .i64 0, .int .i64 0, .int .i64 0, .slice none 0 0, .slice none 0 0, .slice none 0 0] 27 (0, 0)) := by rw [blk_drew]; exact blk_new _ _ _ rfl
          have s0 := blk_lt kN
          obtain ⟨pkx, hpx⟩ : ∃ q, x1.heap.size = q := ⟨_, rfl⟩
          obtain ⟨X1, hX1⟩ : ∃ X, (x1.alloc (.cells #[.int .i64 0, .int .i64 0, .int .i64 0, .int .i64 0, .int .i64 0, .slice none 0 0, .slice none 0 0, .slice none 0 0] 27)).drew = X := ⟨_, rfl⟩
          rw [hX1] at A1 z1
          rw [hpx] at z1 s0
          try rw [hX1]
          try rw [hpx]
          refine hK.out _ _ ⟨U.trans A1, Up.blk A1 kB, Up.blk A1 kM, Up.blk A1 kN⟩ (fun _ hCl => ?_)
          clear hK K hX1
          try simp only [Act.put, List.setIfInBounds_toArray, List.set_cons_zero, List.set_cons_succ]
          refine nextG (i := 3) (by kernel_rfl) rfl (by rfl) hCl (fun K hK => ?_)
          go_simp
          have A2 := Up.alloc A1 (.cells #[.int .i64 0, .int .i64 0, .int .i64 0, .int .i64 0, .int .i64 0, .slice none 0 0, .slice none 0 0, .slice none 0 0] 27)
          have z2 := blk_keep (.cells #[.int .i64 0, .int .i64 0, .int .i64 0, .int .i64 0, .int .i64 0, .slice none 0 0, .slice none 0 0, .slice none 0 0] 27) z1
          have y2 := blk_new X1 (.cells #[.int .i64 0, .int .i64 0, .int .i64 0, .int .i64 0, .int .i64 0, .slice none 0 0, .slice none 0 0, .slice none 0 0] 27) _ rfl
          have hlt : pkx < X1.heap.size := blk_lt z1
          obtain ⟨pky, hpy⟩ : ∃ q, X1.heap.size = q := ⟨_, rfl⟩
          obtain ⟨X2, hX2⟩ : ∃ X, X1.alloc (.cells #[.int .i64 0, .int .i64 0, .int .i64 0, .int .i64 0, .int .i64 0, .slice none 0 0, .slice none 0 0, .slice none 0 0] 27) = X := ⟨_, rfl⟩
          rw [hX2] at A2 z2 y2
          rw [hpy] at y2 hlt
          try rw [hX2]
          try rw [hpy]
          refine hK.out _ _ ⟨U.trans A2, Up.blk A2 kB, Up.blk A2 kM, Up.blk A2 kN⟩ (fun _ hCl => ?_)
          clear hK K hX2 A1 z1
          try simp only [Act.put, List.setIfInBounds_toArray, List.set_cons_zero, List.set_cons_succ]
          have gx : mblk X2 pkx = some (.cells #[.int .i64 0, .int .i64 0, .int .i64 0, .int .i64 0, .int .i64 0, .slice none 0 0, .slice none 0 0, .slice none 0 0] 27 (0, 0)) := z2
          have gy : mblk X2 pky = some (.cells #[.int .i64 0, .int .i64 0, .int .i64 0, .int .i64 0, .int .i64 0, .slice none 0 0, .slice none 0 0, .slice none 0 0] 27 (0, 0)) := y2
          have gkB := Up.blk A2 kB
          have gkM := Up.blk A2 kM
          have gkN := Up.blk A2 kN
          have U2 := U.trans A2
          have gw := U.size
          rw [hpx] at gw
          have hx1 : q0 + 1 + 1 < pkx := by omega
          have hy1 : q0 + 1 + 1 < pky := by omega
          have hxy : pkx ≠ pky := by omega
          have hwx : w.heap.size ≤ pkx := by omega
          have hwy : w.heap.size ≤ pky := by omega
          clear z2 y2 A2 hpx hpy hlt
          have zf := frozB gx
          refine nextG (i := 4) (by kernel_rfl) rfl (by rfl) hCl (fun K hK => ?_)
          go_simp
          obtain ⟨X3, hY⟩ : ∃ X, ((((((((X2.setCell ⟨pkx, 0, none⟩ (.int .i64 (N : Int))).setCell ⟨pkx, 1, none⟩ (.int .i64 bl)).setCell ⟨pkx, 2, none⟩ (.int .i64 bh)).setCell ⟨pkx, 3, none⟩ (.int .i64 rl)).setCell ⟨pkx, 4, none⟩ (.int .i64 rh)).setCell ⟨pkx, 5, none⟩ (.slice aP ps.length cP)).setCell ⟨pkx, 6, none⟩ (.slice aQ qs.length cQ)).setCell ⟨pkx, 7, none⟩ (.slice aL ls.length cL)) = X := ⟨_, rfl⟩
          have U3 : Up w X3 := by rw [← hY]; exact Up.put8 U2 (show w.heap.size ≤ pkx by omega) (.int .i64 (N : Int)) (.int .i64 bl) (.int .i64 bh) (.int .i64 rl) (.int .i64 rh) (.slice aP ps.length cP) (.slice aQ qs.length cQ) (.slice aL ls.length cL)
          have jx : mblk X3 pkx = some (.cells (BoC (N : Int) bl bh rl rh (.slice aP ps.length cP) (.slice aQ qs.length cQ) (.slice aL ls.length cL)) 27 (0, 0)) := by rw [← hY]; exact put8_same gx (.int .i64 (N : Int)) (.int .i64 bl) (.int .i64 bh) (.int .i64 rl) (.int .i64 rh) (.slice aP ps.length cP) (.slice aQ qs.length cQ) (.slice aL ls.length cL)
          have jy : mblk X3 pky = some (.cells #[.int .i64 0, .int .i64 0, .int .i64 0, .int .i64 0, .int .i64 0, .slice none 0 0, .slice none 0 0, .slice none 0 0] 27 (0, 0)) := by rw [← hY]; exact (put8_other X2 (show pky ≠ pkx by omega) (.int .i64 (N : Int)) (.int .i64 bl) (.int .i64 bh) (.int .i64 rl) (.int .i64 rh) (.slice aP ps.length cP) (.slice aQ qs.length cQ) (.slice aL ls.length cL)).trans gy
          have jkB : mblk X3 (q0) = some (.cells (BoC (N : Int) bl bh rl rh (.slice aP ps.length cP) (.slice aQ qs.length cQ) (.slice aL ls.length cL)) 27 (0, 0)) := by rw [← hY]; exact (put8_other X2 (show q0 ≠ pkx by omega) (.int .i64 (N : Int)) (.int .i64 bl) (.int .i64 bh) (.int .i64 rl) (.int .i64 rh) (.slice aP ps.length cP) (.slice aQ qs.length cQ) (.slice aL ls.length cL)).trans gkB
          have jkM : mblk X3 (q0 + 1) = some (.cells #[.int .i64 m0, .int .i64 m1, .int .i64 m2, .int .i64 m3, .int .i64 m4] 63 (0, 0)) := by rw [← hY]; exact (put8_other X2 (show q0 + 1 ≠ pkx by omega) (.int .i64 (N : Int)) (.int .i64 bl) (.int .i64 bh) (.int .i64 rl) (.int .i64 rh) (.slice aP ps.length cP) (.slice aQ qs.length cQ) (.slice aL ls.length cL)).trans gkM
          have jkN : mblk X3 (q0 + 2) = some (.cells #[.int .i64 n0, .int .i64 n1] 31 (0, 0)) := by rw [← hY]; exact (put8_other X2 (show q0 + 2 ≠ pkx by omega) (.int .i64 (N : Int)) (.int .i64 bl) (.int .i64 bh) (.int .i64 rl) (.int .i64 rh) (.slice aP ps.length cP) (.slice aQ qs.length cQ) (.slice aL ls.length cL)).trans gkN
          try rw [hY]
          refine hK.out _ _ ⟨U3, jkB, jkM, jkN⟩ (fun _ hCl => ?_)
          clear hK K hY zf U2 gx gy gkB gkM gkN
          try simp only [Act.put, List.setIfInBounds_toArray, List.set_cons_zero, List.set_cons_succ]
          have U2 := U3
          have gx := jx
          have gy := jy
          have gkB := jkB
          have gkM := jkM
          have gkN := jkN
          clear U3 jx jy jkB jkM jkN hCl
          have zf := frozB gy
          refine lastG (i := 5) (by kernel_rfl) rfl (by rfl) (by decide) (fun K hK => ?_)
          go_simp
          obtain ⟨X4, hY⟩ : ∃ X, ((((((((X3.setCell ⟨pky, 0, none⟩ (.int .i64 (N : Int))).setCell ⟨pky, 1, none⟩ (.int .i64 bl)).setCell ⟨pky, 2, none⟩ (.int .i64 bh)).setCell ⟨pky, 3, none⟩ (.int .i64 rl)).setCell ⟨pky, 4, none⟩ (.int .i64 rh)).setCell ⟨pky, 5, none⟩ (.slice aP ps.length cP)).setCell ⟨pky, 6, none⟩ (.slice aQ qs.length cQ)).setCell ⟨pky, 7, none⟩ (.slice aL ls.length cL)) = X := ⟨_, rfl⟩
          have U3 : Up w X4 := by rw [← hY]; exact Up.put8 U2 (show w.heap.size ≤ pky by omega) (.int .i64 (N : Int)) (.int .i64 bl) (.int .i64 bh) (.int .i64 rl) (.int .i64 rh) (.slice aP ps.length cP) (.slice aQ qs.length cQ) (.slice aL ls.length cL)
          have jy : mblk X4 pky = some (.cells (BoC (N : Int) bl bh rl rh (.slice aP ps.length cP) (.slice aQ qs.length cQ) (.slice aL ls.length cL)) 27 (0, 0)) := by rw [← hY]; exact put8_same gy (.int .i64 (N : Int)) (.int .i64 bl) (.int .i64 bh) (.int .i64 rl) (.int .i64 rh) (.slice aP ps.length cP) (.slice aQ qs.length cQ) (.slice aL ls.length cL)
          have jx : mblk X4 pkx = some (.cells (BoC (N : Int) bl bh rl rh (.slice aP ps.length cP) (.slice aQ qs.length cQ) (.slice aL ls.length cL)) 27 (0, 0)) := by rw [← hY]; exact (put8_other X3 (show pkx ≠ pky by omega) (.int .i64 (N : Int)) (.int .i64 bl) (.int .i64 bh) (.int .i64 rl) (.int .i64 rh) (.slice aP ps.length cP) (.slice aQ qs.length cQ) (.slice aL ls.length cL)).trans gx
          have jkB : mblk X4 (q0) = some (.cells (BoC (N : Int) bl bh rl rh (.slice aP ps.length cP) (.slice aQ qs.length cQ) (.slice aL ls.length cL)) 27 (0, 0)) := by rw [← hY]; exact (put8_other X3 (show q0 ≠ pky by omega) (.int .i64 (N : Int)) (.int .i64 bl) (.int .i64 bh) (.int .i64 rl) (.int .i64 rh) (.slice aP ps.length cP) (.slice aQ qs.length cQ) (.slice aL ls.length cL)).trans gkB
          have jkM : mblk X4 (q0 + 1) = some (.cells #[.int .i64 m0, .int .i64 m1, .int .i64 m2, .int .i64 m3, .int .i64 m4] 63 (0, 0)) := by rw [← hY]; exact (put8_other X3 (show q0 + 1 ≠ pky by omega) (.int .i64 (N : Int)) (.int .i64 bl) (.int .i64 bh) (.int .i64 rl) (.int .i64 rh) (.slice aP ps.length cP) (.slice aQ qs.length cQ) (.slice aL ls.length cL)).trans gkM
          have jkN : mblk X4 (q0 + 2) = some (.cells #[.int .i64 n0, .int .i64 n1] 31 (0, 0)) := by rw [← hY]; exact (put8_other X3 (show q0 + 2 ≠ pky by omega) (.int .i64 (N : Int)) (.int .i64 bl) (.int .i64 bh) (.int .i64 rl) (.int .i64 rh) (.slice aP ps.length cP) (.slice aQ qs.length cQ) (.slice aL ls.length cL)).trans gkN
          try rw [hY]
          refine hK.out _ _ ?_
          clear hK K hY
          refine doneG (by kernel_rfl) ?_ _
          refine S.nrm_intro ?_
          exact HKey.out _ pkx pky ⟨U3, jkB, jkM, jkN, jx, jy, hxy, hx1, hy1⟩
        · skip
          refine (fun K hK => ?_)
          go_simp
          have A1 : Up x1 (x1.alloc (.cells #[.int .i64 0, .int .i64 0, .int .i64 0, .int .i64 0, .int .i64 0, .slice none 0 0, .slice none 0 0, .slice none 0 0] 27)).drew := Up.drew (Up.alloc (Up.refl x1) _)
          have z1 : mblk (x1.alloc (.cells #[.int .i64 0, .int .i64 0, .int .i64 0, .int .i64 0, .int .i64 0, .slice none 0 0, .slice none 0 0, .slice none 0 0] 27)).drew x1.heap.size = some (.cells #[.int .i64 0, .int .i64 0, .int .i64 0, .int .i64 0, .int .i64 0, .slice none 0 0, .slice none 0 0, .slice none 0 0] 27 (0, 0)) := by rw [blk_drew]; exact blk_new _ _ _ rfl
          have s0 := blk_lt kN
          obtain ⟨pky, hpx⟩ : ∃ q, x1.heap.size = q := ⟨_, rfl⟩
          obtain ⟨X1, hX1⟩ : ∃ X, (x1.alloc (.cells #[.int .i64 0, .int .i64 0, .int .i64 0, .int .i64 0, .int .i64 0, .slice none 0 0, .slice none 0 0, .slice none 0 0] 27)).drew = X := ⟨_, rfl⟩
          rw [hX1] at A1 z1
          rw [hpx] at z1 s0
          try rw [hX1]
          try rw [hpx]
          refine hK.out _ _ ⟨U.trans A1, Up.blk A1 kB, Up.blk A1 kM, Up.blk A1 kN⟩ (fun _ hCl => ?_)
          clear hK K hX1
          try simp only [Act.put, List.setIfInBounds_toArray, List.set_cons_zero, List.set_cons_succ]
          refine nextG (i := 2) (by kernel_rfl) rfl (by rfl) hCl (fun K hK => ?_)
          go_simp
          have A2 := Up.alloc A1 (.cells #[.int .i64 0, .int .i64 0, .int .i64 0, .int .i64 0, .int .i64 0, .slice none 0 0, .slice none 0 0, .slice none 0 0] 27)
          have z2 := blk_keep (.cells #[.int .i64 0, .int .i64 0, .int .i64 0, .int .i64 0, .int .i64 0, .slice none 0 0, .slice none 0 0, .slice none 0 0] 27) z1
          have y2 := blk_new X1 (.cells #[.int .i64 0, .int .i64 0, .int .i64 0, .int .i64 0, .int .i64 0, .slice none 0 0, .slice none 0 0, .slice none 0 0] 27) _ rfl
          have hlt : pky < X1.heap.size := blk_lt z1
          obtain ⟨pkx, hpy⟩ : ∃ q, X1.heap.size = q := ⟨_, rfl⟩
          obtain ⟨X2, hX2⟩ : ∃ X, X1.alloc (.cells #[.int .i64 0, .int .i64 0, .int .i64 0, .int .i64 0, .int .i64 0, .slice none 0 0, .slice none 0 0, .slice none 0 0] 27) = X := ⟨_, rfl⟩
          rw [hX2] at A2 z2 y2
          rw [hpy] at y2 hlt
          try rw [hX2]
          try rw [hpy]
          refine hK.out _ _ ⟨U.trans A2, Up.blk A2 kB, Up.blk A2 kM, Up.blk A2 kN⟩ (fun _ hCl => ?_)
          clear hK K hX2 A1 z1
          try simp only [Act.put, List.setIfInBounds_toArray, List.set_cons_zero, List.set_cons_succ]
          have gx : mblk X2 pkx = some (.cells #[.int .i64 0, .int .i64 0, .int .i64 0, .int .i64 0, .int .i64 0, .slice none 0 0, .slice none 0 0, .slice none 0 0] 27 (0, 0)) := y2
          have gy : mblk X2 pky = some (.cells #[.int .i64 0, .int .i64 0, .int .i64 0, .int .i64 0, .int .i64 0, .slice none 0 0, .slice none 0 0, .slice none 0 0] 27 (0, 0)) := z2
          have gkB := Up.blk A2 kB
          have gkM := Up.blk A2 kM
          have gkN := Up.blk A2 kN
          have U2 := U.trans A2
          have gw := U.size
          rw [hpx] at gw
          have hx1 : q0 + 1 + 1 < pkx := by omega
          have hy1 : q0 + 1 + 1 < pky := by omega
          have hxy : pkx ≠ pky := by omega
          have hwx : w.heap.size ≤ pkx := by omega
          have hwy : w.heap.size ≤ pky := by omega
          clear z2 y2 A2 hpx hpy hlt
          have zf := frozB gx
          refine nextG (i := 4) (by kernel_rfl) rfl (by rfl) hCl (fun K hK => ?_)
          go_simp
          obtain ⟨X3, hY⟩ : ∃ X, ((((((((X2.setCell ⟨pkx, 0, none⟩ (.int .i64 (N : Int))).setCell ⟨pkx, 1, none⟩ (.int .i64 bl)).setCell ⟨pkx, 2, none⟩ (.int .i64 bh)).setCell ⟨pkx, 3, none⟩ (.int .i64 rl)).setCell ⟨pkx, 4, none⟩ (.int .i64 rh)).setCell ⟨pkx, 5, none⟩ (.slice aP ps.length cP)).setCell ⟨pkx, 6, none⟩ (.slice aQ qs.length cQ)).setCell ⟨pkx, 7, none⟩ (.slice aL ls.length cL)) = X := ⟨_, rfl⟩
          have U3 : Up w X3 := by rw [← hY]; exact Up.put8 U2 (show w.heap.size ≤ pkx by omega) (.int .i64 (N : Int)) (.int .i64 bl) (.int .i64 bh) (.int .i64 rl) (.int .i64 rh) (.slice aP ps.length cP) (.slice aQ qs.length cQ) (.slice aL ls.length cL)
          have jx : mblk X3 pkx = some (.cells (BoC (N : Int) bl bh rl rh (.slice aP ps.length cP) (.slice aQ qs.length cQ) (.slice aL ls.length cL)) 27 (0, 0)) := by rw [← hY]; exact put8_same gx (.int .i64 (N : Int)) (.int .i64 bl) (.int .i64 bh) (.int .i64 rl) (.int .i64 rh) (.slice aP ps.length cP) (.slice aQ qs.length cQ) (.slice aL ls.length cL)
          have jy : mblk X3 pky = some (.cells #[.int .i64 0, .int .i64 0, .int .i64 0, .int .i64 0, .int .i64 0, .slice none 0 0, .slice none 0 0, .slice none 0 0] 27 (0, 0)) := by rw [← hY]; exact (put8_other X2 (show pky ≠ pkx by omega) (.int .i64 (N : Int)) (.int .i64 bl) (.int .i64 bh) (.int .i64 rl) (.int .i64 rh) (.slice aP ps.length cP) (.slice aQ qs.length cQ) (.slice aL ls.length cL)).trans gy
          have jkB : mblk X3 (q0) = some (.cells (BoC (N : Int) bl bh rl rh (.slice aP ps.length cP) (.slice aQ qs.length cQ) (.slice aL ls.length cL)) 27 (0, 0)) := by rw [← hY]; exact (put8_other X2 (show q0 ≠ pkx by omega) (.int .i64 (N : Int)) (.int .i64 bl) (.int .i64 bh) (.int .i64 rl) (.int .i64 rh) (.slice aP ps.length cP) (.slice aQ qs.length cQ) (.slice aL ls.length cL)).trans gkB
          have jkM : mblk X3 (q0 + 1) = some (.cells #[.int .i64 m0, .int .i64 m1, .int .i64 m2, .int .i64 m3, .int .i64 m4] 63 (0, 0)) := by rw [← hY]; exact (put8_other X2 (show q0 + 1 ≠ pkx by omega) (.int .i64 (N : Int)) (.int .i64 bl) (.int .i64 bh) (.int .i64 rl) (.int .i64 rh) (.slice aP ps.length cP) (.slice aQ qs.length cQ) (.slice aL ls.length cL)).trans gkM
          have jkN : mblk X3 (q0 + 2) = some (.cells #[.int .i64 n0, .int .i64 n1] 31 (0, 0)) := by rw [← hY]; exact (put8_other X2 (show q0 + 2 ≠ pkx by omega) (.int .i64 (N : Int)) (.int .i64 bl) (.int .i64 bh) (.int .i64 rl) (.int .i64 rh) (.slice aP ps.length cP) (.slice aQ qs.length cQ) (.slice aL ls.length cL)).trans gkN
          try rw [hY]
          refine hK.out _ _ ⟨U3, jkB, jkM, jkN⟩ (fun _ hCl => ?_)
          clear hK K hY zf U2 gx gy gkB gkM gkN
          try simp only [Act.put, List.setIfInBounds_toArray, List.set_cons_zero, List.set_cons_succ]
          have U2 := U3
          have gx := jx
          have gy := jy
          have gkB := jkB
          have gkM := jkM
          have gkN := jkN
          clear U3 jx jy jkB jkM jkN hCl
          have zf := frozB gy
          refine lastG (i := 5) (by kernel_rfl) rfl (by rfl) (by decide) (fun K hK => ?_)
          go_simp
          obtain ⟨X4, hY⟩ : ∃ X, ((((((((X3.setCell ⟨pky, 0, none⟩ (.int .i64 (N : Int))).setCell ⟨pky, 1, none⟩ (.int .i64 bl)).setCell ⟨pky, 2, none⟩ (.int .i64 bh)).setCell ⟨pky, 3, none⟩ (.int .i64 rl)).setCell ⟨pky, 4, none⟩ (.int .i64 rh)).setCell ⟨pky, 5, none⟩ (.slice aP ps.length cP)).setCell ⟨pky, 6, none⟩ (.slice aQ qs.length cQ)).setCell ⟨pky, 7, none⟩ (.slice aL ls.length cL)) = X := ⟨_, rfl⟩
          have U3 : Up w X4 := by rw [← hY]; exact Up.put8 U2 (show w.heap.size ≤ pky by omega) (.int .i64 (N : Int)) (.int .i64 bl) (.int .i64 bh) (.int .i64 rl) (.int .i64 rh) (.slice aP ps.length cP) (.slice aQ qs.length cQ) (.slice aL ls.length cL)
          have jy : mblk X4 pky = some (.cells (BoC (N : Int) bl bh rl rh (.slice aP ps.length cP) (.slice aQ qs.length cQ) (.slice aL ls.length cL)) 27 (0, 0)) := by rw [← hY]; exact put8_same gy (.int .i64 (N : Int)) (.int .i64 bl) (.int .i64 bh) (.int .i64 rl) (.int .i64 rh) (.slice aP ps.length cP) (.slice aQ qs.length cQ) (.slice aL ls.length cL)
          have jx : mblk X4 pkx = some (.cells (BoC (N : Int) bl bh rl rh (.slice aP ps.length cP) (.slice aQ qs.length cQ) (.slice aL ls.length cL)) 27 (0, 0)) := by rw [← hY]; exact (put8_other X3 (show pkx ≠ pky by omega) (.int .i64 (N : Int)) (.int .i64 bl) (.int .i64 bh) (.int .i64 rl) (.int .i64 rh) (.slice aP ps.length cP) (.slice aQ qs.length cQ) (.slice aL ls.length cL)).trans gx
          have jkB : mblk X4 (q0) = some (.cells (BoC (N : Int) bl bh rl rh (.slice aP ps.length cP) (.slice aQ qs.length cQ) (.slice aL ls.length cL)) 27 (0, 0)) := by rw [← hY]; exact (put8_other X3 (show q0 ≠ pky by omega) (.int .i64 (N : Int)) (.int .i64 bl) (.int .i64 bh) (.int .i64 rl) (.int .i64 rh) (.slice aP ps.length cP) (.slice aQ qs.length cQ) (.slice aL ls.length cL)).trans gkB
          have jkM : mblk X4 (q0 + 1) = some (.cells #[.int .i64 m0, .int .i64 m1, .int .i64 m2, .int .i64 m3, .int .i64 m4] 63 (0, 0)) := by rw [← hY]; exact (put8_other X3 (show q0 + 1 ≠ pky by omega) (.int .i64 (N : Int)) (.int .i64 bl) (.int .i64 bh) (.int .i64 rl) (.int .i64 rh) (.slice aP ps.length cP) (.slice aQ qs.length cQ) (.slice aL ls.length cL)).trans gkM
          have jkN : mblk X4 (q0 + 2) = some (.cells #[.int .i64 n0, .int .i64 n1] 31 (0, 0)) := by rw [← hY]; exact (put8_other X3 (show q0 + 2 ≠ pky by omega) (.int .i64 (N : Int)) (.int .i64 bl) (.int .i64 bh) (.int .i64 rl) (.int .i64 rh) (.slice aP ps.length cP) (.slice aQ qs.length cQ) (.slice aL ls.length cL)).trans gkN
          try rw [hY]
          refine hK.out _ _ ?_
          clear hK K hY
          refine doneG (by kernel_rfl) ?_ _
          refine S.nrm_intro ?_
          exact HKey.out _ pkx pky ⟨U3, jkB, jkM, jkN, jx, jy, hxy, hx1, hy1⟩
      clear U kB kM kN
      rintro Z3 pkx pky ⟨U, kB, kM, kN, kx, ky, hxy, hx1, hy1⟩
      have gwx : w.heap.size ≤ pkx := by omega
      have gwy : w.heap.size ≤ pky := by omega
      go_wp2_with fail
      apply T.mergeB (fun w' b0 v1 b5 g2 cap => Up w w' ∧ mblk w' (q0) = some (.cells (BoC (N : Int) bl bh rl rh (.slice aP ps.length cP) (.slice aQ qs.length cQ) (.slice aL ls.length cL)) 27 (0, 0)) ∧ mblk w' (q0 + 1) = some (.cells #[.int .i64 m0, .int .i64 m1, .int .i64 m2, .int .i64 m3, .int .i64 m4] 63 (0, 0)) ∧ mblk w' (q0 + 2) = some (.cells #[.int .i64 n0, .int .i64 n1] 31 (0, 0)) ∧ mblk w' (pkx) = some (.cells (BoC (N : Int) bl bh rl rh (.slice aP ps.length cP) (.slice aQ qs.length cQ) (.slice (some ⟨g2, 0, none⟩) (ls.length + 1) cap)) 27 (0, 0)) ∧ mblk w' (pky) = some (.cells (BoC (N : Int) bl bh rl rh (.slice aP ps.length cP) (.slice aQ qs.length cQ) (.slice aL ls.length cL)) 27 (0, 0)) ∧ Hid (w'.ownsRow b0 63 5 (.slice (some ⟨g2, 0, none⟩) (ls.length + 1) cap) (ls.length + 1) (T.flat 5 T.encL (ls ++ [(m0, m1, m2, m3, m4)]))) ∧ pky < b0)
      · intro HKey
        refine (wpIn_wide (n := 5)).1 ?_
        refine wpIn_nrm ?_
        refine regionG (fun w' => Up w w' ∧ mblk w' (q0) = some (.cells (BoC (N : Int) bl bh rl rh (.slice aP ps.length cP) (.slice aQ qs.length cQ) (.slice aL ls.length cL)) 27 (0, 0)) ∧ mblk w' (q0 + 1) = some (.cells #[.int .i64 m0, .int .i64 m1, .int .i64 m2, .int .i64 m3, .int .i64 m4] 63 (0, 0)) ∧ mblk w' (q0 + 2) = some (.cells #[.int .i64 n0, .int .i64 n1] 31 (0, 0)) ∧ mblk w' (pkx) = some (.cells (BoC (N : Int) bl bh rl rh (.slice aP ps.length cP) (.slice aQ qs.length cQ) (.slice aL ls.length cL)) 27 (0, 0)) ∧ mblk w' (pky) = some (.cells (BoC (N : Int) bl bh rl rh (.slice aP ps.length cP) (.slice aQ qs.length cQ) (.slice aL ls.length cL)) 27 (0, 0))) 8 hmx ⟨U.drew, (by rw [blk_drew]; exact kB), (by rw [blk_drew]; exact kM), (by rw [blk_drew]; exact kN), (by rw [blk_drew]; exact kx), (by rw [blk_drew]; exact ky)⟩ (fun hHeld hCl => ?_)
        refine takeG (i := 1) (d := (some 30)) (v := ?v9) rfl rfl (by kernel_rfl) (by kernel_rfl) (by decide) hCl (by kernel_rfl) (by kernel_rfl) (by kernel_rfl) (fun _ _ _ h => h) (by rfl) ?hy9 (fun _ _ _ => trivial) (by assumption) (fun hCl' => ?_)
        case hy9 => ((intro w hSw; (try dsimp only at hSw); (try go_split_ands); go_simp); try with_reducible rfl)
        simp only [Act.put, List.setIfInBounds_toArray, List.set_cons_zero, List.set_cons_succ]
        replace hCl := hCl'; clear hCl'
        refine takeG (i := 4) (d := (some 33)) (v := ?v10) rfl rfl (by kernel_rfl) (by kernel_rfl) (by decide) hCl (by kernel_rfl) (by kernel_rfl) (by kernel_rfl) (fun _ _ _ h => h) (by rfl) ?hy10 (fun _ _ _ => trivial) (by assumption) (fun hCl' => ?_)
        case hy10 => ((intro w hSw; (try dsimp only at hSw); (try go_split_ands); go_simp); try with_reducible rfl)
        simp only [Act.put, List.setIfInBounds_toArray, List.set_cons_zero, List.set_cons_succ]
        replace hCl := hCl'; clear hCl'
        refine takeG (i := 2) (d := (some 31)) (v := ?v11) rfl rfl (by kernel_rfl) (by kernel_rfl) (by decide) hCl (by kernel_rfl) (by kernel_rfl) (by kernel_rfl) (fun _ _ _ h => h) (by rfl) ?hy11 (fun _ _ _ => trivial) (by assumption) (fun hCl' => ?_)
        case hy11 => ((intro w hSw; (try dsimp only at hSw); (try go_split_ands); go_simp); try with_reducible rfl)
        simp only [Act.put, List.setIfInBounds_toArray, List.set_cons_zero, List.set_cons_succ]
        replace hCl := hCl'; clear hCl'
        clear hHeld
        refine nextG2 (i := 0) (j := 5) (by kernel_rfl) rfl rfl (by rfl) (by rfl) hCl ?_ ?_
        · skip
          refine (fun K hK => ?_)
          go_simp
          have A1 : Up Z3 (Z3.alloc (.cells #[] 63)).drew := Up.drew (Up.alloc (Up.refl Z3) _)
          have b1kB := blk_lt (Up.blk (Up.refl Z3) kB)
          have b1kM := blk_lt (Up.blk (Up.refl Z3) kM)
          have b1kN := blk_lt (Up.blk (Up.refl Z3) kN)
          have b1kx := blk_lt (Up.blk (Up.refl Z3) kx)
          have b1ky := blk_lt (Up.blk (Up.refl Z3) ky)
          have s1 := Up.size (Up.refl Z3)
          have e1 : Z3.heap.size ≤ (Z3.alloc (.cells #[] 63)).drew.heap.size := by have := Up.size (Up.drew (Up.alloc (Up.refl Z3) (.cells #[] 63))); exact this
          have R1 := row_up (World.ownsRow_lit (base := Z3.heap.size) (e := 63) (size := 5) Z3 #[] 0 (Nat.le_refl _) (by unfold maxLen; omega) rfl) (Up.refl _).drew
          obtain ⟨b0, hqf⟩ : ∃ q, Z3.heap.size = q := ⟨_, rfl⟩
          obtain ⟨X1, hX⟩ : ∃ X, (Z3.alloc (.cells #[] 63)).drew = X := ⟨_, rfl⟩
          rw [hX] at A1 e1 R1
          rw [hqf] at b1kB b1kM b1kN b1kx b1ky s1 e1 R1
          have z1 : b0 < X1.heap.size := (R1.lt b0 rfl).2
          try rw [hX]
          try rw [hqf]
          refine hK.out _ _ ⟨U.trans A1, Up.blk A1 kB, Up.blk A1 kM, Up.blk A1 kN, Up.blk A1 kx, Up.blk A1 ky⟩ (fun _ hCl => ?_)
          clear hK K hX
          try simp only [Act.put, List.setIfInBounds_toArray, List.set_cons_zero, List.set_cons_succ]
          refine nextG2 (i := 3) (j := 5) (by kernel_rfl) rfl rfl (by rfl) (by rfl) hCl ?_ ?_
          · skip
            refine (fun K hK => ?_)
            refine T.opIn_app (ys := []) T.elL (.tmp 29) (.tmp 31) rfl (HK.out _ (U.trans A1)) rfl b0 _ 0 rfl R1 (by omega) (by omega) (by omega) ?_
            intro v1 X2 R2 hg2
            rw [Nat.zero_add, List.nil_append] at R2
            have A2 := Up.grown A1 hg2 (fun k e => by have := row_base R1 k e; omega)
            have z2 : b0 < X2.heap.size := Nat.lt_of_lt_of_le z1 hg2.size
            refine hK.out _ _ ⟨U.trans A2, Up.blk A2 kB, Up.blk A2 kM, Up.blk A2 kN, Up.blk A2 kx, Up.blk A2 ky⟩ (fun _ hCl => ?_)
            clear hK K hg2
            try simp only [Act.put, List.setIfInBounds_toArray, List.set_cons_zero, List.set_cons_succ]
            refine nextG (i := 5) (by kernel_rfl) rfl (by rfl) hCl (fun K hK => ?_)
            go_simp
            have A3 : Up Z3 (X2.alloc (.cells #[.int .i64 m0, .int .i64 m1, .int .i64 m2, .int .i64 m3, .int .i64 m4] 63)) := (Up.alloc A2 _)
            have b3kB := blk_lt (Up.blk A2 kB)
            have b3kM := blk_lt (Up.blk A2 kM)
            have b3kN := blk_lt (Up.blk A2 kN)
            have b3kx := blk_lt (Up.blk A2 kx)
            have b3ky := blk_lt (Up.blk A2 ky)
            have s3 := Up.size A2
            have e3 : X2.heap.size ≤ (X2.alloc (.cells #[.int .i64 m0, .int .i64 m1, .int .i64 m2, .int .i64 m3, .int .i64 m4] 63)).heap.size := by have := Up.size ((Up.alloc (Up.refl X2) (.cells #[.int .i64 m0, .int .i64 m1, .int .i64 m2, .int .i64 m3, .int .i64 m4] 63))); exact this
            have R3 := World.ownsRow.alloc R2 (.cells #[.int .i64 m0, .int .i64 m1, .int .i64 m2, .int .i64 m3, .int .i64 m4] 63)
            have l3 : mblk (X2.alloc (.cells #[.int .i64 m0, .int .i64 m1, .int .i64 m2, .int .i64 m3, .int .i64 m4] 63)) X2.heap.size = some (.cells #[.int .i64 m0, .int .i64 m1, .int .i64 m2, .int .i64 m3, .int .i64 m4] 63 (0, 0)) := by exact blk_new _ _ _ rfl
            have h50 : b0 < X2.heap.size := by have := z2; omega
            obtain ⟨b5, hq⟩ : ∃ q, X2.heap.size = q := ⟨_, rfl⟩
            obtain ⟨X3, hX⟩ : ∃ X, (X2.alloc (.cells #[.int .i64 m0, .int .i64 m1, .int .i64 m2, .int .i64 m3, .int .i64 m4] 63)) = X := ⟨_, rfl⟩
            rw [hX] at A3 e3 R3 l3
            rw [hq] at b3kB b3kM b3kN b3kx b3ky s3 e3 l3 h50
            have z3 : b0 < X3.heap.size := by omega
            try rw [hX]
            try rw [hq]
            refine hK.out _ _ ⟨U.trans A3, Up.blk A3 kB, Up.blk A3 kM, Up.blk A3 kN, Up.blk A3 kx, Up.blk A3 ky⟩ (fun _ hCl => ?_)
            clear hK K hX hq
            try simp only [Act.put, List.setIfInBounds_toArray, List.set_cons_zero, List.set_cons_succ]
            refine nextG (i := 6) (by kernel_rfl) rfl (by rfl) hCl (fun K hK => ?_)
            refine T.opIn_app T.elL (.tmp 32) (.tmp 34) rfl (T.one_look l3) rfl b0 _ ls.length rfl R3 (by omega) (by simp) (by omega) ?_
            intro v2 X4 R4 hg4
            replace R4 : X4.ownsRow b0 63 5 v2 (ls.length + 1) _ := R4
            have A4 := Up.grown A3 hg4 (fun k e => by have := row_base R3 k e; omega)
            obtain ⟨g2, cap, curx, rfl, hg2, hbk, hcap, hcapm, hcs⟩ := row_open R4 (by omega)
            refine hK.out _ _ ⟨U.trans A4, Up.blk A4 kB, Up.blk A4 kM, Up.blk A4 kN, Up.blk A4 kx, Up.blk A4 ky⟩ (fun _ hCl => ?_)
            clear hK K hg4
            try simp only [Act.put, List.setIfInBounds_toArray, List.set_cons_zero, List.set_cons_succ]
            refine takeG (i := 7) (d := (some 36)) (v := ?v13) rfl rfl (by kernel_rfl) (by kernel_rfl) (by decide) hCl (by kernel_rfl) (by kernel_rfl) (by kernel_rfl) (fun _ _ _ h => h) (by rfl) ?hy13 (fun _ _ _ => trivial) (by assumption) (fun hCl' => ?_)
            case hy13 => ((intro w hSw; (try dsimp only at hSw); (try go_split_ands); go_simp); try with_reducible rfl)
            simp only [Act.put, List.setIfInBounds_toArray, List.set_cons_zero, List.set_cons_succ]
            replace hCl := hCl'; clear hCl'
            have pb := Up.blk A4 kx
            have zf := frozB pb
            clear hCl
            refine lastG (i := 8) (by kernel_rfl) rfl (by rfl) (by decide) (fun K hK => ?_)
            go_simp
            obtain ⟨Z, hZ⟩ : ∃ X, X4.setCell ⟨pkx, 7, none⟩ (.slice (some ⟨g2, 0, none⟩) (ls.length + 1) cap) = X := ⟨_, rfl⟩
            have hsz := U.size
            have hlp : pkx < b0 := by omega
            have U5 : Up w Z := by rw [← hZ]; exact Up.set (U.trans A4) (p := ⟨pkx, 7, none⟩) (show w.heap.size ≤ pkx by omega) _
            have ykx : mblk Z (pkx) = some (.cells (BoC (N : Int) bl bh rl rh (.slice aP ps.length cP) (.slice aQ qs.length cQ) (.slice (some ⟨g2, 0, none⟩) (ls.length + 1) cap)) 27 (0, 0)) := by rw [← hZ]; exact blk_put pb 7 _
            have ykB : mblk Z (q0) = some (.cells (BoC (N : Int) bl bh rl rh (.slice aP ps.length cP) (.slice aQ qs.length cQ) (.slice aL ls.length cL)) 27 (0, 0)) := by rw [← hZ, blk_set _ _ _ _ (by show q0 ≠ pkx; omega)]; exact Up.blk A4 kB
            have ykM : mblk Z (q0 + 1) = some (.cells #[.int .i64 m0, .int .i64 m1, .int .i64 m2, .int .i64 m3, .int .i64 m4] 63 (0, 0)) := by rw [← hZ, blk_set _ _ _ _ (by show q0 + 1 ≠ pkx; omega)]; exact Up.blk A4 kM
            have ykN : mblk Z (q0 + 2) = some (.cells #[.int .i64 n0, .int .i64 n1] 31 (0, 0)) := by rw [← hZ, blk_set _ _ _ _ (by show q0 + 2 ≠ pkx; omega)]; exact Up.blk A4 kN
            have yky : mblk Z (pky) = some (.cells (BoC (N : Int) bl bh rl rh (.slice aP ps.length cP) (.slice aQ qs.length cQ) (.slice aL ls.length cL)) 27 (0, 0)) := by rw [← hZ, blk_set _ _ _ _ (by show pky ≠ pkx; omega)]; exact Up.blk A4 ky
            have own5 := row_other R4 (grown_set X4 (pkx) 7 (.slice (some ⟨g2, 0, none⟩) (ls.length + 1) cap)) (row_block R4 hlp)
            rw [hZ] at own5
            have IZ := Lib.hid own5
            have hby : pky < b0 := by omega
            try rw [hZ]
            refine hK.out _ _ ?_
            clear hK K hZ
            refine doneG (by kernel_rfl) ?_ _
            refine S.nrm_intro ?_
            exact HKey.out _ b0 v1 b5 g2 cap ⟨U5, ykB, ykM, ykN, ykx, yky, IZ, hby⟩
          · skip
            refine (fun K hK => ?_)
            go_simp
            have A2 : Up Z3 (X1.alloc (.cells #[.int .i64 m0, .int .i64 m1, .int .i64 m2, .int .i64 m3, .int .i64 m4] 63)) := (Up.alloc A1 _)
            have b2kB := blk_lt (Up.blk A1 kB)
            have b2kM := blk_lt (Up.blk A1 kM)
            have b2kN := blk_lt (Up.blk A1 kN)
            have b2kx := blk_lt (Up.blk A1 kx)
            have b2ky := blk_lt (Up.blk A1 ky)
            have s2 := Up.size A1
            have e2 : X1.heap.size ≤ (X1.alloc (.cells #[.int .i64 m0, .int .i64 m1, .int .i64 m2, .int .i64 m3, .int .i64 m4] 63)).heap.size := by have := Up.size ((Up.alloc (Up.refl X1) (.cells #[.int .i64 m0, .int .i64 m1, .int .i64 m2, .int .i64 m3, .int .i64 m4] 63))); exact this
            have R2 := World.ownsRow.alloc R1 (.cells #[.int .i64 m0, .int .i64 m1, .int .i64 m2, .int .i64 m3, .int .i64 m4] 63)
            have l2 : mblk (X1.alloc (.cells #[.int .i64 m0, .int .i64 m1, .int .i64 m2, .int .i64 m3, .int .i64 m4] 63)) X1.heap.size = some (.cells #[.int .i64 m0, .int .i64 m1, .int .i64 m2, .int .i64 m3, .int .i64 m4] 63 (0, 0)) := by exact blk_new _ _ _ rfl
            have h50 : b0 < X1.heap.size := by have := z1; omega
            obtain ⟨b5, hq⟩ : ∃ q, X1.heap.size = q := ⟨_, rfl⟩
            obtain ⟨X2, hX⟩ : ∃ X, (X1.alloc (.cells #[.int .i64 m0, .int .i64 m1, .int .i64 m2, .int .i64 m3, .int .i64 m4] 63)) = X := ⟨_, rfl⟩
            rw [hX] at A2 e2 R2 l2
            rw [hq] at b2kB b2kM b2kN b2kx b2ky s2 e2 l2 h50
            have z2 : b0 < X2.heap.size := by omega
            try rw [hX]
            try rw [hq]
            refine hK.out _ _ ⟨U.trans A2, Up.blk A2 kB, Up.blk A2 kM, Up.blk A2 kN, Up.blk A2 kx, Up.blk A2 ky⟩ (fun _ hCl => ?_)
            clear hK K hX hq
            try simp only [Act.put, List.setIfInBounds_toArray, List.set_cons_zero, List.set_cons_succ]
            refine nextG (i := 3) (by kernel_rfl) rfl (by rfl) hCl (fun K hK => ?_)
            refine T.opIn_app (ys := []) T.elL (.tmp 29) (.tmp 31) rfl (HK.out _ (U.trans A2)) rfl b0 _ 0 rfl R2 (by omega) (by omega) (by omega) ?_
            intro v1 X3 R3 hg3
            rw [Nat.zero_add, List.nil_append] at R3
            have A3 := Up.grown A2 hg3 (fun k e => by have := row_base R2 k e; omega)
            have z3 : b0 < X3.heap.size := Nat.lt_of_lt_of_le z2 hg3.size
            have l3 := grown_blk hg3 l2 (show some b5 ≠ some b0 by simp; omega)
            refine hK.out _ _ ⟨U.trans A3, Up.blk A3 kB, Up.blk A3 kM, Up.blk A3 kN, Up.blk A3 kx, Up.blk A3 ky⟩ (fun _ hCl => ?_)
            clear hK K hg3
            try simp only [Act.put, List.setIfInBounds_toArray, List.set_cons_zero, List.set_cons_succ]
            refine nextG (i := 6) (by kernel_rfl) rfl (by rfl) hCl (fun K hK => ?_)
            refine T.opIn_app T.elL (.tmp 32) (.tmp 34) rfl (T.one_look l3) rfl b0 _ ls.length rfl R3 (by omega) (by simp) (by omega) ?_
            intro v2 X4 R4 hg4
            replace R4 : X4.ownsRow b0 63 5 v2 (ls.length + 1) _ := R4
            have A4 := Up.grown A3 hg4 (fun k e => by have := row_base R3 k e; omega)
            obtain ⟨g2, cap, curx, rfl, hg2, hbk, hcap, hcapm, hcs⟩ := row_open R4 (by omega)
            refine hK.out _ _ ⟨U.trans A4, Up.blk A4 kB, Up.blk A4 kM, Up.blk A4 kN, Up.blk A4 kx, Up.blk A4 ky⟩ (fun _ hCl => ?_)
            clear hK K hg4
            try simp only [Act.put, List.setIfInBounds_toArray, List.set_cons_zero, List.set_cons_succ]
            refine takeG (i := 7) (d := (some 36)) (v := ?v15) rfl rfl (by kernel_rfl) (by kernel_rfl) (by decide) hCl (by kernel_rfl) (by kernel_rfl) (by kernel_rfl) (fun _ _ _ h => h) (by rfl) ?hy15 (fun _ _ _ => trivial) (by assumption) (fun hCl' => ?_)
            case hy15 => ((intro w hSw; (try dsimp only at hSw); (try go_split_ands); go_simp); try with_reducible rfl)
            simp only [Act.put, List.setIfInBounds_toArray, List.set_cons_zero, List.set_cons_succ]
            replace hCl := hCl'; clear hCl'
            have pb := Up.blk A4 kx
            have zf := frozB pb
            clear hCl
            refine lastG (i := 8) (by kernel_rfl) rfl (by rfl) (by decide) (fun K hK => ?_)
            go_simp
            obtain ⟨Z, hZ⟩ : ∃ X, X4.setCell ⟨pkx, 7, none⟩ (.slice (some ⟨g2, 0, none⟩) (ls.length + 1) cap) = X := ⟨_, rfl⟩
            have hsz := U.size
            have hlp : pkx < b0 := by omega
            have U5 : Up w Z := by rw [← hZ]; exact Up.set (U.trans A4) (p := ⟨pkx, 7, none⟩) (show w.heap.size ≤ pkx by omega) _
            have ykx : mblk Z (pkx) = some (.cells (BoC (N : Int) bl bh rl rh (.slice aP ps.length cP) (.slice aQ qs.length cQ) (.slice (some ⟨g2, 0, none⟩) (ls.length + 1) cap)) 27 (0, 0)) := by rw [← hZ]; exact blk_put pb 7 _
            have ykB : mblk Z (q0) = some (.cells (BoC (N : Int) bl bh rl rh (.slice aP ps.length cP) (.slice aQ qs.length cQ) (.slice aL ls.length cL)) 27 (0, 0)) := by rw [← hZ, blk_set _ _ _ _ (by show q0 ≠ pkx; omega)]; exact Up.blk A4 kB
            have ykM : mblk Z (q0 + 1) = some (.cells #[.int .i64 m0, .int .i64 m1, .int .i64 m2, .int .i64 m3, .int .i64 m4] 63 (0, 0)) := by rw [← hZ, blk_set _ _ _ _ (by show q0 + 1 ≠ pkx; omega)]; exact Up.blk A4 kM
            have ykN : mblk Z (q0 + 2) = some (.cells #[.int .i64 n0, .int .i64 n1] 31 (0, 0)) := by rw [← hZ, blk_set _ _ _ _ (by show q0 + 2 ≠ pkx; omega)]; exact Up.blk A4 kN
            have yky : mblk Z (pky) = some (.cells (BoC (N : Int) bl bh rl rh (.slice aP ps.length cP) (.slice aQ qs.length cQ) (.slice aL ls.length cL)) 27 (0, 0)) := by rw [← hZ, blk_set _ _ _ _ (by show pky ≠ pkx; omega)]; exact Up.blk A4 ky
            have own5 := row_other R4 (grown_set X4 (pkx) 7 (.slice (some ⟨g2, 0, none⟩) (ls.length + 1) cap)) (row_block R4 hlp)
            rw [hZ] at own5
            have IZ := Lib.hid own5
            have hby : pky < b0 := by omega
            try rw [hZ]
            refine hK.out _ _ ?_
            clear hK K hZ
            refine doneG (by kernel_rfl) ?_ _
            refine S.nrm_intro ?_
            exact HKey.out _ b0 v1 b5 g2 cap ⟨U5, ykB, ykM, ykN, ykx, yky, IZ, hby⟩
        · skip
          refine (fun K hK => ?_)
          go_simp
          have A1 : Up Z3 (Z3.alloc (.cells #[.int .i64 m0, .int .i64 m1, .int .i64 m2, .int .i64 m3, .int .i64 m4] 63)).drew := Up.drew (Up.alloc (Up.refl Z3) _)
          have b1kB := blk_lt (Up.blk (Up.refl Z3) kB)
          have b1kM := blk_lt (Up.blk (Up.refl Z3) kM)
          have b1kN := blk_lt (Up.blk (Up.refl Z3) kN)
          have b1kx := blk_lt (Up.blk (Up.refl Z3) kx)
          have b1ky := blk_lt (Up.blk (Up.refl Z3) ky)
          have s1 := Up.size (Up.refl Z3)
          have e1 : Z3.heap.size ≤ (Z3.alloc (.cells #[.int .i64 m0, .int .i64 m1, .int .i64 m2, .int .i64 m3, .int .i64 m4] 63)).drew.heap.size := by have := Up.size (Up.drew (Up.alloc (Up.refl Z3) (.cells #[.int .i64 m0, .int .i64 m1, .int .i64 m2, .int .i64 m3, .int .i64 m4] 63))); exact this
          have l1 : mblk (Z3.alloc (.cells #[.int .i64 m0, .int .i64 m1, .int .i64 m2, .int .i64 m3, .int .i64 m4] 63)).drew Z3.heap.size = some (.cells #[.int .i64 m0, .int .i64 m1, .int .i64 m2, .int .i64 m3, .int .i64 m4] 63 (0, 0)) := by rw [blk_drew]; exact blk_new _ _ _ rfl
          obtain ⟨b5, hqf⟩ : ∃ q, Z3.heap.size = q := ⟨_, rfl⟩
          obtain ⟨X1, hX⟩ : ∃ X, (Z3.alloc (.cells #[.int .i64 m0, .int .i64 m1, .int .i64 m2, .int .i64 m3, .int .i64 m4] 63)).drew = X := ⟨_, rfl⟩
          rw [hX] at A1 e1 l1
          rw [hqf] at b1kB b1kM b1kN b1kx b1ky s1 e1 l1
          try rw [hX]
          try rw [hqf]
          refine hK.out _ _ ⟨U.trans A1, Up.blk A1 kB, Up.blk A1 kM, Up.blk A1 kN, Up.blk A1 kx, Up.blk A1 ky⟩ (fun _ hCl => ?_)
          clear hK K hX
          try simp only [Act.put, List.setIfInBounds_toArray, List.set_cons_zero, List.set_cons_succ]
          refine nextG (i := 0) (by kernel_rfl) rfl (by rfl) hCl (fun K hK => ?_)
          go_simp
          have A2 : Up Z3 (X1.alloc (.cells #[] 63)) := (Up.alloc A1 _)
          have b2kB := blk_lt (Up.blk A1 kB)
          have b2kM := blk_lt (Up.blk A1 kM)
          have b2kN := blk_lt (Up.blk A1 kN)
          have b2kx := blk_lt (Up.blk A1 kx)
          have b2ky := blk_lt (Up.blk A1 ky)
          have s2 := Up.size A1
          have e2 : X1.heap.size ≤ (X1.alloc (.cells #[] 63)).heap.size := by have := Up.size ((Up.alloc (Up.refl X1) (.cells #[] 63))); exact this
          have R2 := World.ownsRow_lit (base := X1.heap.size) (e := 63) (size := 5) X1 #[] 0 (Nat.le_refl _) (by unfold maxLen; omega) rfl
          have l2 := blk_keep (.cells #[] 63) l1
          have h05 : b5 < X1.heap.size := blk_lt l1
          obtain ⟨b0, hq⟩ : ∃ q, X1.heap.size = q := ⟨_, rfl⟩
          obtain ⟨X2, hX⟩ : ∃ X, (X1.alloc (.cells #[] 63)) = X := ⟨_, rfl⟩
          rw [hX] at A2 e2 R2 l2
          rw [hq] at b2kB b2kM b2kN b2kx b2ky s2 e2 R2 h05
          have z2 : b0 < X2.heap.size := (R2.lt b0 rfl).2
          try rw [hX]
          try rw [hq]
          refine hK.out _ _ ⟨U.trans A2, Up.blk A2 kB, Up.blk A2 kM, Up.blk A2 kN, Up.blk A2 kx, Up.blk A2 ky⟩ (fun _ hCl => ?_)
          clear hK K hX hq
          try simp only [Act.put, List.setIfInBounds_toArray, List.set_cons_zero, List.set_cons_succ]
          refine nextG (i := 3) (by kernel_rfl) rfl (by rfl) hCl (fun K hK => ?_)
          refine T.opIn_app (ys := []) T.elL (.tmp 29) (.tmp 31) rfl (HK.out _ (U.trans A2)) rfl b0 _ 0 rfl R2 (by omega) (by omega) (by omega) ?_
          intro v1 X3 R3 hg3
          rw [Nat.zero_add, List.nil_append] at R3
          have A3 := Up.grown A2 hg3 (fun k e => by have := row_base R2 k e; omega)
          have z3 : b0 < X3.heap.size := Nat.lt_of_lt_of_le z2 hg3.size
          have l3 := grown_blk hg3 l2 (show some b5 ≠ some b0 by simp; omega)
          refine hK.out _ _ ⟨U.trans A3, Up.blk A3 kB, Up.blk A3 kM, Up.blk A3 kN, Up.blk A3 kx, Up.blk A3 ky⟩ (fun _ hCl => ?_)
          clear hK K hg3
          try simp only [Act.put, List.setIfInBounds_toArray, List.set_cons_zero, List.set_cons_succ]
          refine nextG (i := 6) (by kernel_rfl) rfl (by rfl) hCl (fun K hK => ?_)
          refine T.opIn_app T.elL (.tmp 32) (.tmp 34) rfl (T.one_look l3) rfl b0 _ ls.length rfl R3 (by omega) (by simp) (by omega) ?_
          intro v2 X4 R4 hg4
          replace R4 : X4.ownsRow b0 63 5 v2 (ls.length + 1) _ := R4
          have A4 := Up.grown A3 hg4 (fun k e => by have := row_base R3 k e; omega)
          obtain ⟨g2, cap, curx, rfl, hg2, hbk, hcap, hcapm, hcs⟩ := row_open R4 (by omega)
          refine hK.out _ _ ⟨U.trans A4, Up.blk A4 kB, Up.blk A4 kM, Up.blk A4 kN, Up.blk A4 kx, Up.blk A4 ky⟩ (fun _ hCl => ?_)
          clear hK K hg4
          try simp only [Act.put, List.setIfInBounds_toArray, List.set_cons_zero, List.set_cons_succ]
          refine takeG (i := 7) (d := (some 36)) (v := ?v18) rfl rfl (by kernel_rfl) (by kernel_rfl) (by decide) hCl (by kernel_rfl) (by kernel_rfl) (by kernel_rfl) (fun _ _ _ h => h) (by rfl) ?hy18 (fun _ _ _ => trivial) (by assumption) (fun hCl' => ?_)
          case hy18 => ((intro w hSw; (try dsimp only at hSw); (try go_split_ands); go_simp); try with_reducible rfl)
          simp only [Act.put, List.setIfInBounds_toArray, List.set_cons_zero, List.set_cons_succ]
          replace hCl := hCl'; clear hCl'
          have pb := Up.blk A4 kx
          have zf := frozB pb
          clear hCl
          refine lastG (i := 8) (by kernel_rfl) rfl (by rfl) (by decide) (fun K hK => ?_)
          go_simp
          obtain ⟨Z, hZ⟩ : ∃ X, X4.setCell ⟨pkx, 7, none⟩ (.slice (some ⟨g2, 0, none⟩) (ls.length + 1) cap) = X := ⟨_, rfl⟩
          have hsz := U.size
          have hlp : pkx < b0 := by omega
          have U5 : Up w Z := by rw [← hZ]; exact Up.set (U.trans A4) (p := ⟨pkx, 7, none⟩) (show w.heap.size ≤ pkx by omega) _
          have ykx : mblk Z (pkx) = some (.cells (BoC (N : Int) bl bh rl rh (.slice aP ps.length cP) (.slice aQ qs.length cQ) (.slice (some ⟨g2, 0, none⟩) (ls.length + 1) cap)) 27 (0, 0)) := by rw [← hZ]; exact blk_put pb 7 _
          have ykB : mblk Z (q0) = some (.cells (BoC (N : Int) bl bh rl rh (.slice aP ps.length cP) (.slice aQ qs.length cQ) (.slice aL ls.length cL)) 27 (0, 0)) := by rw [← hZ, blk_set _ _ _ _ (by show q0 ≠ pkx; omega)]; exact Up.blk A4 kB
          have ykM : mblk Z (q0 + 1) = some (.cells #[.int .i64 m0, .int .i64 m1, .int .i64 m2, .int .i64 m3, .int .i64 m4] 63 (0, 0)) := by rw [← hZ, blk_set _ _ _ _ (by show q0 + 1 ≠ pkx; omega)]; exact Up.blk A4 kM
          have ykN : mblk Z (q0 + 2) = some (.cells #[.int .i64 n0, .int .i64 n1] 31 (0, 0)) := by rw [← hZ, blk_set _ _ _ _ (by show q0 + 2 ≠ pkx; omega)]; exact Up.blk A4 kN
          have yky : mblk Z (pky) = some (.cells (BoC (N : Int) bl bh rl rh (.slice aP ps.length cP) (.slice aQ qs.length cQ) (.slice aL ls.length cL)) 27 (0, 0)) := by rw [← hZ, blk_set _ _ _ _ (by show pky ≠ pkx; omega)]; exact Up.blk A4 ky
          have own5 := row_other R4 (grown_set X4 (pkx) 7 (.slice (some ⟨g2, 0, none⟩) (ls.length + 1) cap)) (row_block R4 hlp)
          rw [hZ] at own5
          have IZ := Lib.hid own5
          have hby : pky < b0 := by omega
          try rw [hZ]
          refine hK.out _ _ ?_
          clear hK K hZ
          refine doneG (by kernel_rfl) ?_ _
          refine S.nrm_intro ?_
          exact HKey.out _ b0 v1 b5 g2 cap ⟨U5, ykB, ykM, ykN, ykx, yky, IZ, hby⟩
      clear U kB kM kN kx ky
      rintro Z4 b0 v1 b5 g2 cap ⟨U, kB, kM, kN, kx, ky, IZ, hby⟩
      have HX := IZ
      clear IZ
      have gb2 : b0 ≤ g2 := row_base HX.out g2 rfl
      have lg2 := (HX.out.lt g2 rfl).2
      have HX1 := Lib.hid (row_keep HX.out (grown_set Z4 (pky) 7 (.slice none 0 0)) (fun g0 e0 => by have := row_base HX.out g0 e0; simp; omega))
      clear HX
      have zf := frozB ky
      have i0 := ky
      have U1 := (U.set (p := ⟨pky, 7, none⟩) (show w.heap.size ≤ pky by omega) (.slice none 0 0))
      have jkB := kB
      rw [← blk_set (Z4) ⟨pky, 7, none⟩ (.slice none 0 0) (q0) (by show q0 ≠ pky; omega)] at jkB
      have jkM := kM
      rw [← blk_set (Z4) ⟨pky, 7, none⟩ (.slice none 0 0) (q0 + 1) (by show q0 + 1 ≠ pky; omega)] at jkM
      have jkN := kN
      rw [← blk_set (Z4) ⟨pky, 7, none⟩ (.slice none 0 0) (q0 + 2) (by show q0 + 2 ≠ pky; omega)] at jkN
      have jkx := kx
      rw [← blk_set (Z4) ⟨pky, 7, none⟩ (.slice none 0 0) (pkx) (by show pkx ≠ pky; omega)] at jkx
      have jky : mblk ((Z4).setCell ⟨pky, 7, none⟩ (.slice none 0 0)) pky = some (.cells (BoC (N : Int) bl bh rl rh (.slice aP ps.length cP) (.slice aQ qs.length cQ) (.slice none 0 0)) 27 (0, 0)) := (blk_put ky 7 (.slice none 0 0))
      obtain ⟨W5, hW5⟩ : ∃ z, (Z4).setCell ⟨pky, 7, none⟩ (.slice none 0 0) = z := ⟨_, rfl⟩
      rw [hW5] at jkB jkM jkN jkx jky U1 
      clear kB kM kN kx ky U
      have kB := jkB
      have kM := jkM
      have kN := jkN
      have kx := jkx
      have ky := jky
      have U := U1
      clear jkB jkM jkN jkx jky U1
      rw [hW5] at HX1
      have HX := HX1
      clear HX1
      go_wp2_with fail
      clear hW5 zf i0
      obtain ⟨bq, hbq⟩ : ∃ x, W5.heap.size = x := ⟨_, rfl⟩
      have hb0 : bq ≤ W5.heap.size := by omega
      have hap : g2 < bq := by rw [← hbq]; exact (HX.out.lt g2 rfl).2
      have sky := blk_lt ky
      have skx := blk_lt kx
      rw [hbq] at sky skx
      clear lg2 hbq
      go_loopw [9] (fun i wr => ∃ (z : Int) (n : Nat) (a : Option Addr) (c : Nat), -1 ≤ z ∧ z < ls.length ∧ (n : Int) + (z + 1) = ls.length ∧ i = .int .i64 z ∧ Hid (wr.ownsRow bq 63 5 (.slice a n c) n (T.flat 5 T.encL (ls.drop (z + 1).toNat).reverse)) ∧ Hid (wr.ownsRow b0 63 5 (.slice (some ⟨g2, 0, none⟩) (ls.length + 1) cap) (ls.length + 1) (T.flat 5 T.encL (ls ++ [(m0, m1, m2, m3, m4)]))) ∧ bq ≤ wr.heap.size ∧ Up w wr ∧ mblk wr (q0) = some (.cells (BoC (N : Int) bl bh rl rh (.slice aP ps.length cP) (.slice aQ qs.length cQ) (.slice aL ls.length cL)) 27 (0, 0)) ∧ mblk wr (q0 + 1) = some (.cells #[.int .i64 m0, .int .i64 m1, .int .i64 m2, .int .i64 m3, .int .i64 m4] 63 (0, 0)) ∧ mblk wr (q0 + 2) = some (.cells #[.int .i64 n0, .int .i64 n1] 31 (0, 0)) ∧ mblk wr (pkx) = some (.cells (BoC (N : Int) bl bh rl rh (.slice aP ps.length cP) (.slice aQ qs.length cQ) (.slice (some ⟨g2, 0, none⟩) (ls.length + 1) cap)) 27 (0, 0)) ∧ mblk wr (pky) = some (.cells (BoC (N : Int) bl bh rl rh (.slice aP ps.length cP) (.slice aQ qs.length cQ) (.slice a n c)) 27 (0, 0))) (fun i _ => (intOf i + 1).toNat)
      case atStart => exact ⟨(ls.length : Int) - 1, 0, none, 0, by omega, by omega, by omega, rfl, Lib.hid (by rw [show ((ls.length : Int) - 1 + 1).toNat = ls.length by omega, List.drop_length]; exact ⟨rfl, .inl ⟨rfl, rfl⟩⟩), HX, hb0, U, kB, kM, kN, kx, ky⟩
      case round =>
        clear U kB kM kN kx ky HX hb0
        obtain ⟨z, n, a, c, hz1, hz2, hn, rfl, HO1, HX, hb0, U, kB, kM, kN, kx, ky⟩ := hrel
        by_cases hz : 0 ≤ z
        · skip
          obtain ⟨j, rfl⟩ := Int.eq_ofNat_of_zero_le hz
          have HNN := Lib.hid hn
          have hn7 : n ≤ 10 := by omega
          clear hn
          have hlt : j < ls.length := by omega
          have ew : IntKind.i64.wrap ((j : Int) - 1) = (j : Int) - 1 := IntWalk.i64_in _ (by omega)
          have dk : decide ((j : Int) ≥ 0) = true := decide_eq_true (by omega)
          have ilt : (j : Int) < (ls.length : Int) := by omega
          have st := T.rev_step (d := (0, 0, 0, 0, 0)) hlt
          obtain ⟨a', c', e', _, _, hm⟩ := (HK.out w (Up.refl w)).is
          injection e' with ea eb ec
          clear eb ec
          obtain ⟨g, off, ga, gl, hx⟩ := hm (by omega)
          subst ea ga
          clear hm
          obtain ⟨⟨r0, r1, r2, r3, r4⟩, hss⟩ : ∃ s, ls.getD j (0, 0, 0, 0, 0) = s := ⟨_, rfl⟩
          have cc0 := Up.cell2 U (hx j hlt 0 (by omega))
          have cc1 := Up.cell2 U (hx j hlt 1 (by omega))
          have cc2 := Up.cell2 U (hx j hlt 2 (by omega))
          have cc3 := Up.cell2 U (hx j hlt 3 (by omega))
          have cc4 := Up.cell2 U (hx j hlt 4 (by omega))
          rw [hss] at cc0
          replace cc0 : wr.cell? ⟨g, off + j * 5, none⟩ = some (.int .i64 r0) := cc0
          rw [hss] at cc1
          replace cc1 : wr.cell? ⟨g, off + j * 5 + 1, none⟩ = some (.int .i64 r1) := cc1
          rw [hss] at cc2
          replace cc2 : wr.cell? ⟨g, off + j * 5 + 2, none⟩ = some (.int .i64 r2) := cc2
          rw [hss] at cc3
          replace cc3 : wr.cell? ⟨g, off + j * 5 + 3, none⟩ = some (.int .i64 r3) := cc3
          rw [hss] at cc4
          replace cc4 : wr.cell? ⟨g, off + j * 5 + 4, none⟩ = some (.int .i64 r4) := cc4
          have glw := U.size
          rw [hss] at st
          have HS := Lib.hid st
          clear hx hss st
          have HO2 := HO1.out
          rw [show ((j : Int) + 1).toNat = j + 1 by omega] at HO2
          replace HO1 := Lib.hid HO2
          clear HO2
          have hq2 : ∀ g0, (Value.slice (some ⟨g2, 0, none⟩) (ls.length + 1) cap).ownBlock = some g0 → g0 < bq := fun g0 e0 => by have : g2 = g0 := Option.some.inj e0; omega
          have hq2' : ∀ g0, (Value.slice (some ⟨g2, 0, none⟩) (ls.length + 1) cap).ownBlock = some g0 → pky < g0 := fun g0 e0 => by have : g2 = g0 := Option.some.inj e0; omega
          have HQ2 := Lib.hid (And.intro hq2 hq2')
          clear hq2 hq2'
          go_wp2_with fail
          refine (wpIn_wide (n := 5)).1 ?_
          refine wpIn_nrm ?_
          refine regionG (fun w' => Up w w' ∧ mblk w' (q0) = some (.cells (BoC (N : Int) bl bh rl rh (.slice aP ps.length cP) (.slice aQ qs.length cQ) (.slice (some ⟨g, off, none⟩) ls.length cL)) 27 (0, 0)) ∧ mblk w' (q0 + 1) = some (.cells #[.int .i64 m0, .int .i64 m1, .int .i64 m2, .int .i64 m3, .int .i64 m4] 63 (0, 0)) ∧ mblk w' (q0 + 2) = some (.cells #[.int .i64 n0, .int .i64 n1] 31 (0, 0)) ∧ mblk w' (pkx) = some (.cells (BoC (N : Int) bl bh rl rh (.slice aP ps.length cP) (.slice aQ qs.length cQ) (.slice (some ⟨g2, 0, none⟩) (ls.length + 1) cap)) 27 (0, 0)) ∧ mblk w' (pky) = some (.cells (BoC (N : Int) bl bh rl rh (.slice aP ps.length cP) (.slice aQ qs.length cQ) (.slice a n c)) 27 (0, 0)) ∧ w'.cell? ⟨g, off + j * 5, none⟩ = some (.int .i64 r0) ∧ w'.cell? ⟨g, off + j * 5 + 1, none⟩ = some (.int .i64 r1) ∧ w'.cell? ⟨g, off + j * 5 + 2, none⟩ = some (.int .i64 r2) ∧ w'.cell? ⟨g, off + j * 5 + 3, none⟩ = some (.int .i64 r3) ∧ w'.cell? ⟨g, off + j * 5 + 4, none⟩ = some (.int .i64 r4)) 10 hmx ⟨U.drew, (by rw [blk_drew]; exact kB), (by rw [blk_drew]; exact kM), (by rw [blk_drew]; exact kN), (by rw [blk_drew]; exact kx), (by rw [blk_drew]; exact ky), cc0, cc1, cc2, cc3, cc4⟩ (fun hHeld hCl => ?_)
          refine takeG (i := 0) (d := (some 46)) (v := ?v20) rfl rfl (by kernel_rfl) (by kernel_rfl) (by decide) hCl (by kernel_rfl) (by kernel_rfl) (by kernel_rfl) (fun _ _ _ h => h) (by rfl) ?hy20 (fun _ _ _ => trivial) (by assumption) (fun hCl' => ?_)
          case hy20 => ((intro w hSw; (try dsimp only at hSw); (try go_split_ands); go_simp); try with_reducible rfl)
          simp only [Act.put, List.setIfInBounds_toArray, List.set_cons_zero, List.set_cons_succ]
          replace hCl := hCl'; clear hCl'
          refine takeG (i := 1) (d := (some 47)) (v := ?v21) rfl rfl (by kernel_rfl) (by kernel_rfl) (by decide) hCl (by kernel_rfl) (by kernel_rfl) (by kernel_rfl) (fun _ _ _ h => h) (by rfl) ?hy21 (fun _ _ _ => trivial) (by assumption) (fun hCl' => ?_)
          case hy21 => ((intro w hSw; (try dsimp only at hSw); (try go_split_ands); go_simp); try with_reducible rfl)
          simp only [Act.put, List.setIfInBounds_toArray, List.set_cons_zero, List.set_cons_succ]
          replace hCl := hCl'; clear hCl'
          refine takeG (i := 2) (d := (some 48)) (v := ?v22) rfl rfl (by kernel_rfl) (by kernel_rfl) (by decide) hCl (by kernel_rfl) (by kernel_rfl) (by kernel_rfl) (fun _ _ _ h => h) (by rfl) ?hy22 (fun _ _ _ => trivial) (by assumption) (fun hCl' => ?_)
          case hy22 => ((intro w hSw; (try dsimp only at hSw); (try go_split_ands); go_simp); try with_reducible rfl)
          simp only [Act.put, List.setIfInBounds_toArray, List.set_cons_zero, List.set_cons_succ]
          replace hCl := hCl'; clear hCl'
          refine takeG (i := 3) (d := (some 49)) (v := ?v23) rfl rfl (by kernel_rfl) (by kernel_rfl) (by decide) hCl (by kernel_rfl) (by kernel_rfl) (by kernel_rfl) (fun _ _ _ h => h) (by rfl) ?hy23 (fun _ _ _ => trivial) (by assumption) (fun hCl' => ?_)
          case hy23 => ((intro w hSw; (try dsimp only at hSw); (try go_split_ands); go_simp); try with_reducible rfl)
          simp only [Act.put, List.setIfInBounds_toArray, List.set_cons_zero, List.set_cons_succ]
          replace hCl := hCl'; clear hCl'
          refine takeG (i := 4) (d := (some 50)) (v := ?v24) rfl rfl (by kernel_rfl) (by kernel_rfl) (by decide) hCl (by kernel_rfl) (by kernel_rfl) (by kernel_rfl) (fun _ _ _ h => h) (by rfl) ?hy24 (fun _ _ _ => trivial) (by assumption) (fun hCl' => ?_)
          case hy24 => ((intro w hSw; (try dsimp only at hSw); (try go_split_ands); go_simp); try with_reducible rfl)
          simp only [Act.put, List.setIfInBounds_toArray, List.set_cons_zero, List.set_cons_succ]
          replace hCl := hCl'; clear hCl'
          refine takeG (i := 5) (d := (some 51)) (v := ?v25) rfl rfl (by kernel_rfl) (by kernel_rfl) (by decide) hCl (by kernel_rfl) (by kernel_rfl) (by kernel_rfl) (fun _ _ _ h => h) (by rfl) ?hy25 (fun _ _ _ => trivial) (by assumption) (fun hCl' => ?_)
          case hy25 => ((intro w hSw; (try dsimp only at hSw); (try go_split_ands); go_simp); try with_reducible rfl)
          simp only [Act.put, List.setIfInBounds_toArray, List.set_cons_zero, List.set_cons_succ]
          replace hCl := hCl'; clear hCl'
          refine takeG (i := 6) (d := (some 52)) (v := ?v26) rfl rfl (by kernel_rfl) (by kernel_rfl) (by decide) hCl (by kernel_rfl) (by kernel_rfl) (by kernel_rfl) (fun _ _ _ h => h) (by rfl) ?hy26 (fun _ _ _ => trivial) (by assumption) (fun hCl' => ?_)
          case hy26 => ((intro w hSw; (try dsimp only at hSw); (try go_split_ands); go_simp); try with_reducible rfl)
          simp only [Act.put, List.setIfInBounds_toArray, List.set_cons_zero, List.set_cons_succ]
          replace hCl := hCl'; clear hCl'
          refine nextG (i := 7) (by kernel_rfl) rfl (by rfl) hCl (fun K hK => ?_)
          go_simp
          clear hHeld
          have A1 : Up wr (wr.alloc (.cells #[.int .i64 r0, .int .i64 r1, .int .i64 r2, .int .i64 r3, .int .i64 r4] 63)).drew := Up.drew (Up.alloc (Up.refl wr) _)
          have pl : mblk (wr.alloc (.cells #[.int .i64 r0, .int .i64 r1, .int .i64 r2, .int .i64 r3, .int .i64 r4] 63)).drew wr.heap.size = some (.cells #[.int .i64 r0, .int .i64 r1, .int .i64 r2, .int .i64 r3, .int .i64 r4] 63 (0, 0)) := by rw [blk_drew]; exact blk_new _ _ _ rfl
          have hb1 : bq ≤ wr.heap.size := by omega
          obtain ⟨q7, hq7⟩ : ∃ q, wr.heap.size = q := ⟨_, rfl⟩
          obtain ⟨X1, hX1⟩ : ∃ X, (wr.alloc (.cells #[.int .i64 r0, .int .i64 r1, .int .i64 r2, .int .i64 r3, .int .i64 r4] 63)).drew = X := ⟨_, rfl⟩
          rw [hX1] at A1 pl
          have hb2 := A1.size
          rw [hq7] at pl hb1 hb2
          try rw [hX1]
          try rw [hq7]
          refine hK.out _ _ ⟨U.trans A1, A1.blk kB, A1.blk kM, A1.blk kN, A1.blk kx, A1.blk ky, A1.cell2 cc0, A1.cell2 cc1, A1.cell2 cc2, A1.cell2 cc3, A1.cell2 cc4⟩ (fun _ hCl => ?_)
          clear hK K hX1 hq7
          try simp only [Act.put, List.setIfInBounds_toArray, List.set_cons_zero, List.set_cons_succ]
          refine nextG (i := 8) (by kernel_rfl) rfl (by rfl) hCl (fun K hK => ?_)
          have R1 := row_up HO1.out A1
          refine T.opIn_app T.elL (.tmp 47) (.tmp 53) rfl (T.one_look pl) rfl (bq) _ (n) rfl R1 (by omega) (by simp) (by omega) ?_
          intro v2 X2 R2 hg2
          replace R2 : X2.ownsRow (bq) 63 5 v2 (n + 1) _ := R2
          obtain ⟨ra, rc, rfl, _, _⟩ := row_val R2
          have V2 := Up.grown (U.trans A1) hg2 (fun k e => by have := row_base R1 k e; omega)
          have ekB := grown_blk hg2 (A1.blk kB) (row_block R1 (by omega))
          have ekM := grown_blk hg2 (A1.blk kM) (row_block R1 (by omega))
          have ekN := grown_blk hg2 (A1.blk kN) (row_block R1 (by omega))
          have ekx := grown_blk hg2 (A1.blk kx) (row_block R1 (by omega))
          have eky := grown_blk hg2 (A1.blk ky) (row_block R1 (by omega))
          have fcc0 := hg2.cell (A1.cell2 cc0) (row_block R1 (show g < bq by omega))
          have fcc1 := hg2.cell (A1.cell2 cc1) (row_block R1 (show g < bq by omega))
          have fcc2 := hg2.cell (A1.cell2 cc2) (row_block R1 (show g < bq by omega))
          have fcc3 := hg2.cell (A1.cell2 cc3) (row_block R1 (show g < bq by omega))
          have fcc4 := hg2.cell (A1.cell2 cc4) (row_block R1 (show g < bq by omega))
          have KHX := row_keep (row_up HX.out A1) hg2 (fun g0 e0 => row_block R1 (HQ2.out.1 g0 e0))
          have hb3 := hg2.size
          refine hK.out _ _ ⟨V2, ekB, ekM, ekN, ekx, eky, fcc0, fcc1, fcc2, fcc3, fcc4⟩ (fun _ hCl => ?_)
          clear hK K hg2 pl R1
          try dsimp only [List.getElem_toArray, List.getElem_cons_succ, List.getElem_cons_zero]
          simp only [Act.put, List.setIfInBounds_toArray, List.set_cons_zero, List.set_cons_succ]
          refine takeG (i := 9) (d := (some 55)) (v := ?v28) rfl rfl (by kernel_rfl) (by kernel_rfl) (by decide) hCl (by kernel_rfl) (by kernel_rfl) (by kernel_rfl) (fun _ _ _ h => h) (by rfl) ?hy28 (fun _ _ _ => trivial) (by assumption) (fun hCl' => ?_)
          case hy28 => ((intro w hSw; (try dsimp only at hSw); (try go_split_ands); go_simp); try with_reducible rfl)
          simp only [Act.put, List.setIfInBounds_toArray, List.set_cons_zero, List.set_cons_succ]
          replace hCl := hCl'; clear hCl'
          have zf := frozB eky
          clear hCl
          refine lastG (i := 10) (by kernel_rfl) rfl (by rfl) (by decide) (fun K hK => ?_)
          go_simp
          obtain ⟨Z101, hZ⟩ : ∃ X, X2.setCell ⟨pky, 7, none⟩ (.slice ra (n + 1) rc) = X := ⟨_, rfl⟩
          have V3 : Up w Z101 := by rw [← hZ]; exact V2.set (p := ⟨pky, 7, none⟩) (show w.heap.size ≤ pky by omega) _
          have hb4 : bq ≤ Z101.heap.size := by rw [← hZ]; simp; omega
          have dky : mblk Z101 (pky) = some (.cells (BoC (N : Int) bl bh rl rh (.slice aP ps.length cP) (.slice aQ qs.length cQ) (.slice ra (n + 1) rc)) 27 (0, 0)) := by rw [← hZ]; exact blk_put eky 7 _
          have dkB : mblk Z101 (q0) = some (.cells (BoC (N : Int) bl bh rl rh (.slice aP ps.length cP) (.slice aQ qs.length cQ) (.slice (some ⟨g, off, none⟩) ls.length cL)) 27 (0, 0)) := by rw [← hZ, blk_set _ _ _ _ (by show q0 ≠ pky; omega)]; exact ekB
          have dkM : mblk Z101 (q0 + 1) = some (.cells #[.int .i64 m0, .int .i64 m1, .int .i64 m2, .int .i64 m3, .int .i64 m4] 63 (0, 0)) := by rw [← hZ, blk_set _ _ _ _ (by show q0 + 1 ≠ pky; omega)]; exact ekM
          have dkN : mblk Z101 (q0 + 2) = some (.cells #[.int .i64 n0, .int .i64 n1] 31 (0, 0)) := by rw [← hZ, blk_set _ _ _ _ (by show q0 + 2 ≠ pky; omega)]; exact ekN
          have dkx : mblk Z101 (pkx) = some (.cells (BoC (N : Int) bl bh rl rh (.slice aP ps.length cP) (.slice aQ qs.length cQ) (.slice (some ⟨g2, 0, none⟩) (ls.length + 1) cap)) 27 (0, 0)) := by rw [← hZ, blk_set _ _ _ _ (by show pkx ≠ pky; omega)]; exact ekx
          have LHX := Lib.hid (row_keep KHX (grown_set X2 (pky) 7 (.slice ra (n + 1) rc)) (fun g0 e0 => by have := HQ2.out.2 g0 e0; simp; omega))
          rw [hZ] at LHX
          have HO2 := Lib.hid (row_other R2 (grown_set X2 (pky) 7 (.slice ra (n + 1) rc)) (row_block R2 (show pky < bq by omega)))
          rw [hZ] at HO2
          try rw [hZ]
          refine hK.out _ _ ?_
          clear hK K hZ V2 R2 zf A1 hb1 hb2 hb3 ekB ekM ekN ekx eky fcc0 fcc1 fcc2 fcc3 fcc4 cc0 cc1 cc2 cc3 cc4 kB kM kN kx ky U KHX HX HO1
          refine doneG (by kernel_rfl) ?_ _
          refine S.nrm_intro ?_
          have U := V3
          clear V3
          have kB := dkB
          clear dkB
          have kM := dkM
          clear dkM
          have kN := dkN
          clear dkN
          have kx := dkx
          clear dkx
          have ky := dky
          clear dky
          have HX := LHX
          clear LHX
          have HO3 := HO2.out
          rw [← HS.out] at HO3
          have HO4 := Lib.hid (show Z101.ownsRow bq 63 5 (.slice ra (n + 1) rc) (n + 1) (T.flat 5 T.encL (ls.drop (((j : Int) - 1 + 1)).toNat).reverse) by rw [show ((j : Int) - 1 + 1).toNat = j by omega]; exact HO3)
          clear HO3 HO2 HS HQ2
          go_wp2_with fail
          have hn := HNN.out
          go_roundw
          case rel => exact ⟨(j : Int) - 1, n + 1, ra, rc, by omega, by omega, by omega, by go_num, HO4, HX, hb4, U, kB, kM, kN, kx, ky⟩
          case measure => (simp only [intOf]; omega)
        · skip
          obtain rfl : z = -1 := by omega
          obtain rfl : n = ls.length := by omega
          have dk : decide ((-1 : Int) ≥ 0) = false := by decide
          have own := HO1.out
          rw [show ((-1 : Int) + 1).toNat = 0 by decide, List.drop_zero] at own
          replace HO1 := Lib.hid own
          clear own hz hz1 hz2 hn
          by_cases hne : 0 < ls.length
          · skip
            have d1 : decide ((ls.length : Int) > 0) = true := decide_eq_true (by omega)
            have il0 : (0 : Int) < (ls.length : Int) := by omega
            have HRz := Lib.hid (fun w => B_Rest_any n1 (ls.length : Int) w (by omega) (by omega))
            have az := Int.emod_nonneg n1 (b := (ls.length : Int)) (by omega)
            have bz := Int.emod_lt_of_pos n1 (b := (ls.length : Int)) (by omega)
            generalize n1 % (ls.length : Int) = kk at *
            obtain ⟨kk, rfl⟩ := Int.eq_ofNat_of_zero_le az
            have hkk : kk < ls.length := by omega
            have ikk : (kk : Int) < (ls.length : Int) := by omega
            obtain ⟨a', c', e', _, _, hm⟩ := (HK.out w (Up.refl w)).is
            injection e' with ea eb ec
            clear eb ec
            obtain ⟨g, off, ga, gl, hx⟩ := hm (by omega)
            subst ea ga
            clear hm
            obtain ⟨⟨r0, r1, r2, r3, r4⟩, hss⟩ : ∃ s, ls.getD kk (0, 0, 0, 0, 0) = s := ⟨_, rfl⟩
            have cc0 := Up.cell2 U (hx kk hkk 0 (by omega))
            have cc1 := Up.cell2 U (hx kk hkk 1 (by omega))
            have cc2 := Up.cell2 U (hx kk hkk 2 (by omega))
            have cc3 := Up.cell2 U (hx kk hkk 3 (by omega))
            have cc4 := Up.cell2 U (hx kk hkk 4 (by omega))
            rw [hss] at cc0
            replace cc0 : wr.cell? ⟨g, off + kk * 5, none⟩ = some (.int .i64 r0) := cc0
            rw [hss] at cc1
            replace cc1 : wr.cell? ⟨g, off + kk * 5 + 1, none⟩ = some (.int .i64 r1) := cc1
            rw [hss] at cc2
            replace cc2 : wr.cell? ⟨g, off + kk * 5 + 2, none⟩ = some (.int .i64 r2) := cc2
            rw [hss] at cc3
            replace cc3 : wr.cell? ⟨g, off + kk * 5 + 3, none⟩ = some (.int .i64 r3) := cc3
            rw [hss] at cc4
            replace cc4 : wr.cell? ⟨g, off + kk * 5 + 4, none⟩ = some (.int .i64 r4) := cc4
            have glw := U.size
            have HSS := Lib.hid hss
            clear hx hss az bz
            have hq2 : ∀ g0, (Value.slice (some ⟨g2, 0, none⟩) (ls.length + 1) cap).ownBlock = some g0 → g0 < bq := fun g0 e0 => by have : g2 = g0 := Option.some.inj e0; omega
            have hq2' : ∀ g0, (Value.slice (some ⟨g2, 0, none⟩) (ls.length + 1) cap).ownBlock = some g0 → pky < g0 := fun g0 e0 => by have : g2 = g0 := Option.some.inj e0; omega
            have HQ2 := Lib.hid (And.intro hq2 hq2')
            clear hq2 hq2'
            go_wp2_with fail
            refine (wpIn_wide (n := 5)).1 ?_
            refine wpIn_nrm ?_
            refine regionG (fun w' => Up w w' ∧ mblk w' (q0) = some (.cells (BoC (N : Int) bl bh rl rh (.slice aP ps.length cP) (.slice aQ qs.length cQ) (.slice (some ⟨g, off, none⟩) ls.length cL)) 27 (0, 0)) ∧ mblk w' (q0 + 1) = some (.cells #[.int .i64 m0, .int .i64 m1, .int .i64 m2, .int .i64 m3, .int .i64 m4] 63 (0, 0)) ∧ mblk w' (q0 + 2) = some (.cells #[.int .i64 n0, .int .i64 n1] 31 (0, 0)) ∧ mblk w' (pkx) = some (.cells (BoC (N : Int) bl bh rl rh (.slice aP ps.length cP) (.slice aQ qs.length cQ) (.slice (some ⟨g2, 0, none⟩) (ls.length + 1) cap)) 27 (0, 0)) ∧ mblk w' (pky) = some (.cells (BoC (N : Int) bl bh rl rh (.slice aP ps.length cP) (.slice aQ qs.length cQ) (.slice a ls.length c)) 27 (0, 0)) ∧ w'.cell? ⟨g, off + kk * 5, none⟩ = some (.int .i64 r0) ∧ w'.cell? ⟨g, off + kk * 5 + 1, none⟩ = some (.int .i64 r1) ∧ w'.cell? ⟨g, off + kk * 5 + 2, none⟩ = some (.int .i64 r2) ∧ w'.cell? ⟨g, off + kk * 5 + 3, none⟩ = some (.int .i64 r3) ∧ w'.cell? ⟨g, off + kk * 5 + 4, none⟩ = some (.int .i64 r4)) 15 hmx ⟨U.drew, (by rw [blk_drew]; exact kB), (by rw [blk_drew]; exact kM), (by rw [blk_drew]; exact kN), (by rw [blk_drew]; exact kx), (by rw [blk_drew]; exact ky), cc0, cc1, cc2, cc3, cc4⟩ (fun hHeld hCl => ?_)
            refine takeG (i := 0) (d := (some 60)) (v := ?v30) rfl rfl (by kernel_rfl) (by kernel_rfl) (by decide) hCl (by kernel_rfl) (by kernel_rfl) (by kernel_rfl) (fun _ _ _ h => h) (by rfl) ?hy30 (fun _ _ _ => trivial) (by assumption) (fun hCl' => ?_)
            case hy30 => ((intro w hSw; (try dsimp only at hSw); (try go_split_ands); go_simp); try with_reducible rfl)
            simp only [Act.put, List.setIfInBounds_toArray, List.set_cons_zero, List.set_cons_succ]
            replace hCl := hCl'; clear hCl'
            refine takeG (i := 1) (d := (some 61)) (v := ?v31) rfl rfl (by kernel_rfl) (by kernel_rfl) (by decide) hCl (by kernel_rfl) (by kernel_rfl) (by kernel_rfl) (fun _ _ _ h => h) (by rfl) ?hy31 (fun _ _ _ => trivial) (by assumption) (fun hCl' => ?_)
            case hy31 => ((intro w hSw; (try dsimp only at hSw); (try go_split_ands); go_simp); try with_reducible rfl)
            simp only [Act.put, List.setIfInBounds_toArray, List.set_cons_zero, List.set_cons_succ]
            replace hCl := hCl'; clear hCl'
            refine takeG (i := 2) (d := (some 62)) (v := ?v32) rfl rfl (by kernel_rfl) (by kernel_rfl) (by decide) hCl (by kernel_rfl) (by kernel_rfl) (by kernel_rfl) (fun _ _ _ h => h) (by rfl) ?hy32 (fun _ _ _ => trivial) (by assumption) (fun hCl' => ?_)
            case hy32 => ((intro w hSw; (try dsimp only at hSw); (try go_split_ands); go_simp); try with_reducible rfl)
            simp only [Act.put, List.setIfInBounds_toArray, List.set_cons_zero, List.set_cons_succ]
            replace hCl := hCl'; clear hCl'
            refine takeG (i := 3) (d := (some 63)) (v := ?v33) rfl rfl (by kernel_rfl) (by kernel_rfl) (by decide) hCl (by kernel_rfl) (by kernel_rfl) (by kernel_rfl) (fun _ _ _ h => h) (by rfl) ?hy33 (fun _ _ _ => trivial) (by assumption) (fun hCl' => ?_)
            case hy33 => ((intro w hSw; (try dsimp only at hSw); (try go_split_ands); go_simp); try with_reducible rfl)
            simp only [Act.put, List.setIfInBounds_toArray, List.set_cons_zero, List.set_cons_succ]
            replace hCl := hCl'; clear hCl'
            refine takeG (i := 4) (d := (some 64)) (v := ?v34) rfl rfl (by kernel_rfl) (by kernel_rfl) (by decide) hCl (by kernel_rfl) (by kernel_rfl) (by kernel_rfl) (fun _ _ _ h => h) (by rfl) ?hy34 (fun _ _ _ => trivial) (by assumption) (fun hCl' => ?_)
            case hy34 => ((intro w hSw; (try dsimp only at hSw); (try go_split_ands); go_simp); try with_reducible rfl)
            simp only [Act.put, List.setIfInBounds_toArray, List.set_cons_zero, List.set_cons_succ]
            replace hCl := hCl'; clear hCl'
            refine takeG (i := 5) (d := (some 65)) (v := ?v35) rfl rfl (by kernel_rfl) (by kernel_rfl) (by decide) hCl (by kernel_rfl) (by kernel_rfl) (by kernel_rfl) (fun _ _ _ h => h) (by rfl) ?hy35 (fun _ _ _ => trivial) (by assumption) (fun hCl' => ?_)
            case hy35 => ((intro w hSw; (try dsimp only at hSw); (try go_split_ands); go_simp); try with_reducible rfl)
            simp only [Act.put, List.setIfInBounds_toArray, List.set_cons_zero, List.set_cons_succ]
            replace hCl := hCl'; clear hCl'
            refine takeG (i := 6) (d := (some 66)) (v := ?v36) rfl rfl (by kernel_rfl) (by kernel_rfl) (by decide) hCl (by kernel_rfl) (by kernel_rfl) (by kernel_rfl) (fun _ _ _ h => h) (by rfl) ?hy36 (fun _ _ _ => trivial) (by assumption) (fun hCl' => ?_)
            case hy36 => ((intro w hSw; (try dsimp only at hSw); (try go_split_ands); go_simp); try with_reducible rfl)
            simp only [Act.put, List.setIfInBounds_toArray, List.set_cons_zero, List.set_cons_succ]
            replace hCl := hCl'; clear hCl'
            refine takeG (i := 7) (d := (some 67)) (v := ?v37) rfl rfl (by kernel_rfl) (by kernel_rfl) (by decide) hCl (by kernel_rfl) (by kernel_rfl) (by kernel_rfl) (fun _ _ _ h => h) (by rfl) ?hy37 (fun _ _ _ => trivial) (by assumption) (fun hCl' => ?_)
            case hy37 => ((intro w hSw; (try dsimp only at hSw); (try go_split_ands); go_simp); try with_reducible rfl)
            simp only [Act.put, List.setIfInBounds_toArray, List.set_cons_zero, List.set_cons_succ]
            replace hCl := hCl'; clear hCl'
            refine takeG (i := 8) (d := (some 68)) (v := ?v38) rfl rfl (by kernel_rfl) (by kernel_rfl) (by decide) hCl (by kernel_rfl) (by kernel_rfl) (by kernel_rfl) (fun _ _ _ h => h) (by rfl) ?hy38 (fun _ _ _ => trivial) (by assumption) (fun hCl' => ?_)
            case hy38 => ((intro w hSw; (try dsimp only at hSw); (try go_split_ands); go_simp); try with_reducible rfl)
            simp only [Act.put, List.setIfInBounds_toArray, List.set_cons_zero, List.set_cons_succ]
            replace hCl := hCl'; clear hCl'
            refine nextG (i := 9) (by kernel_rfl) rfl (by rfl) hCl (fun K hK => ?_)
            go_simp
            refine ⟨trivial, (callsIn_wide.2 (HRz.out _)).mono ?_⟩
            rintro e w9 ⟨rfl, rfl⟩
            refine hK.out _ _ hHeld (fun hHeld hCl => ?_)
            clear hK K
            try dsimp only [List.getElem_toArray, List.getElem_cons_succ, List.getElem_cons_zero]
            try simp only [Act.put, List.setIfInBounds_toArray, List.set_cons_zero, List.set_cons_succ]
            refine takeG (i := 10) (d := (some 70)) (v := ?v40) rfl rfl (by kernel_rfl) (by kernel_rfl) (by decide) hCl (by kernel_rfl) (by kernel_rfl) (by kernel_rfl) (fun _ _ _ h => h) (by rfl) ?hy40 (fun _ _ _ => trivial) (by assumption) (fun hCl' => ?_)
            case hy40 => ((intro w hSw; (try dsimp only at hSw); (try go_split_ands); go_simp); try with_reducible rfl)
            simp only [Act.put, List.setIfInBounds_toArray, List.set_cons_zero, List.set_cons_succ]
            replace hCl := hCl'; clear hCl'
            refine takeG (i := 11) (d := (some 71)) (v := ?v41) rfl rfl (by kernel_rfl) (by kernel_rfl) (by decide) hCl (by kernel_rfl) (by kernel_rfl) (by kernel_rfl) (fun _ _ _ h => h) (by rfl) ?hy41 (fun _ _ _ => trivial) (by assumption) (fun hCl' => ?_)
            case hy41 => ((intro w hSw; (try dsimp only at hSw); (try go_split_ands); go_simp); try with_reducible rfl)
            simp only [Act.put, List.setIfInBounds_toArray, List.set_cons_zero, List.set_cons_succ]
            replace hCl := hCl'; clear hCl'
            refine nextG (i := 12) (by kernel_rfl) rfl (by rfl) hCl (fun K hK => ?_)
            go_simp
            clear hHeld
            have A1 : Up wr (wr.alloc (.cells #[.int .i64 r0, .int .i64 r1, .int .i64 r2, .int .i64 r3, .int .i64 r4] 63)).drew := Up.drew (Up.alloc (Up.refl wr) _)
            have pl : mblk (wr.alloc (.cells #[.int .i64 r0, .int .i64 r1, .int .i64 r2, .int .i64 r3, .int .i64 r4] 63)).drew wr.heap.size = some (.cells #[.int .i64 r0, .int .i64 r1, .int .i64 r2, .int .i64 r3, .int .i64 r4] 63 (0, 0)) := by rw [blk_drew]; exact blk_new _ _ _ rfl
            have hb1 : bq ≤ wr.heap.size := by omega
            obtain ⟨q7, hq7⟩ : ∃ q, wr.heap.size = q := ⟨_, rfl⟩
            obtain ⟨X1, hX1⟩ : ∃ X, (wr.alloc (.cells #[.int .i64 r0, .int .i64 r1, .int .i64 r2, .int .i64 r3, .int .i64 r4] 63)).drew = X := ⟨_, rfl⟩
            rw [hX1] at A1 pl
            have hb2 := A1.size
            rw [hq7] at pl hb1 hb2
            try rw [hX1]
            try rw [hq7]
            refine hK.out _ _ ⟨U.trans A1, A1.blk kB, A1.blk kM, A1.blk kN, A1.blk kx, A1.blk ky, A1.cell2 cc0, A1.cell2 cc1, A1.cell2 cc2, A1.cell2 cc3, A1.cell2 cc4⟩ (fun _ hCl => ?_)
            clear hK K hX1 hq7
            try simp only [Act.put, List.setIfInBounds_toArray, List.set_cons_zero, List.set_cons_succ]
            refine nextG (i := 13) (by kernel_rfl) rfl (by rfl) hCl (fun K hK => ?_)
            have R1 := row_up HO1.out A1
            refine T.opIn_app T.elL (.tmp 61) (.tmp 72) rfl (T.one_look pl) rfl (bq) _ (ls.length) rfl R1 (by omega) (by simp) (by omega) ?_
            intro v2 X2 R2 hg2
            replace R2 : X2.ownsRow (bq) 63 5 v2 (ls.length + 1) _ := R2
            obtain ⟨ra, rc, rfl, _, _⟩ := row_val R2
            have V2 := Up.grown (U.trans A1) hg2 (fun k e => by have := row_base R1 k e; omega)
            have ekB := grown_blk hg2 (A1.blk kB) (row_block R1 (by omega))
            have ekM := grown_blk hg2 (A1.blk kM) (row_block R1 (by omega))
            have ekN := grown_blk hg2 (A1.blk kN) (row_block R1 (by omega))
            have ekx := grown_blk hg2 (A1.blk kx) (row_block R1 (by omega))
            have eky := grown_blk hg2 (A1.blk ky) (row_block R1 (by omega))
            have fcc0 := hg2.cell (A1.cell2 cc0) (row_block R1 (show g < bq by omega))
            have fcc1 := hg2.cell (A1.cell2 cc1) (row_block R1 (show g < bq by omega))
            have fcc2 := hg2.cell (A1.cell2 cc2) (row_block R1 (show g < bq by omega))
            have fcc3 := hg2.cell (A1.cell2 cc3) (row_block R1 (show g < bq by omega))
            have fcc4 := hg2.cell (A1.cell2 cc4) (row_block R1 (show g < bq by omega))
            have KHX := row_keep (row_up HX.out A1) hg2 (fun g0 e0 => row_block R1 (HQ2.out.1 g0 e0))
            have hb3 := hg2.size
            refine hK.out _ _ ⟨V2, ekB, ekM, ekN, ekx, eky, fcc0, fcc1, fcc2, fcc3, fcc4⟩ (fun _ hCl => ?_)
            clear hK K hg2 pl R1
            try dsimp only [List.getElem_toArray, List.getElem_cons_succ, List.getElem_cons_zero]
            simp only [Act.put, List.setIfInBounds_toArray, List.set_cons_zero, List.set_cons_succ]
            refine takeG (i := 14) (d := (some 74)) (v := ?v43) rfl rfl (by kernel_rfl) (by kernel_rfl) (by decide) hCl (by kernel_rfl) (by kernel_rfl) (by kernel_rfl) (fun _ _ _ h => h) (by rfl) ?hy43 (fun _ _ _ => trivial) (by assumption) (fun hCl' => ?_)
            case hy43 => ((intro w hSw; (try dsimp only at hSw); (try go_split_ands); go_simp); try with_reducible rfl)
            simp only [Act.put, List.setIfInBounds_toArray, List.set_cons_zero, List.set_cons_succ]
            replace hCl := hCl'; clear hCl'
            have zf := frozB eky
            clear hCl
            refine lastG (i := 15) (by kernel_rfl) rfl (by rfl) (by decide) (fun K hK => ?_)
            go_simp
            obtain ⟨Z301, hZ⟩ : ∃ X, X2.setCell ⟨pky, 7, none⟩ (.slice ra (ls.length + 1) rc) = X := ⟨_, rfl⟩
            have V3 : Up w Z301 := by rw [← hZ]; exact V2.set (p := ⟨pky, 7, none⟩) (show w.heap.size ≤ pky by omega) _
            have hb4 : bq ≤ Z301.heap.size := by rw [← hZ]; simp; omega
            have dky : mblk Z301 (pky) = some (.cells (BoC (N : Int) bl bh rl rh (.slice aP ps.length cP) (.slice aQ qs.length cQ) (.slice ra (ls.length + 1) rc)) 27 (0, 0)) := by rw [← hZ]; exact blk_put eky 7 _
            have dkB : mblk Z301 (q0) = some (.cells (BoC (N : Int) bl bh rl rh (.slice aP ps.length cP) (.slice aQ qs.length cQ) (.slice (some ⟨g, off, none⟩) ls.length cL)) 27 (0, 0)) := by rw [← hZ, blk_set _ _ _ _ (by show q0 ≠ pky; omega)]; exact ekB
            have dkM : mblk Z301 (q0 + 1) = some (.cells #[.int .i64 m0, .int .i64 m1, .int .i64 m2, .int .i64 m3, .int .i64 m4] 63 (0, 0)) := by rw [← hZ, blk_set _ _ _ _ (by show q0 + 1 ≠ pky; omega)]; exact ekM
            have dkN : mblk Z301 (q0 + 2) = some (.cells #[.int .i64 n0, .int .i64 n1] 31 (0, 0)) := by rw [← hZ, blk_set _ _ _ _ (by show q0 + 2 ≠ pky; omega)]; exact ekN
            have dkx : mblk Z301 (pkx) = some (.cells (BoC (N : Int) bl bh rl rh (.slice aP ps.length cP) (.slice aQ qs.length cQ) (.slice (some ⟨g2, 0, none⟩) (ls.length + 1) cap)) 27 (0, 0)) := by rw [← hZ, blk_set _ _ _ _ (by show pkx ≠ pky; omega)]; exact ekx
            have LHX := Lib.hid (row_keep KHX (grown_set X2 (pky) 7 (.slice ra (ls.length + 1) rc)) (fun g0 e0 => by have := HQ2.out.2 g0 e0; simp; omega))
            rw [hZ] at LHX
            have HO2 := Lib.hid (row_other R2 (grown_set X2 (pky) 7 (.slice ra (ls.length + 1) rc)) (row_block R2 (show pky < bq by omega)))
            rw [hZ] at HO2
            try rw [hZ]
            refine hK.out _ _ ?_
            clear hK K hZ V2 R2 zf A1 hb1 hb2 hb3 ekB ekM ekN ekx eky fcc0 fcc1 fcc2 fcc3 fcc4 cc0 cc1 cc2 cc3 cc4 kB kM kN kx ky U KHX HX HO1
            refine doneG (by kernel_rfl) ?_ _
            refine S.nrm_intro ?_
            have U := V3
            clear V3
            have kB := dkB
            clear dkB
            have kM := dkM
            clear dkM
            have kN := dkN
            clear dkN
            have kx := dkx
            clear dkx
            have ky := dky
            clear dky
            have HX := LHX
            clear LHX
            have HO3 : Z301.ownsRow bq 63 5 (.slice ra (ls.length + 1) rc) (ls.length + 1) (T.flat 5 T.encL (ls.reverse ++ (if ls.length = 0 then [] else [ls.getD kk (0, 0, 0, 0, 0)]))) := by
              rw [if_neg (by omega), HSS.out]
              exact HO2.out
            have HO1 := Lib.hid HO3
            clear HO3 HO2 HSS HQ2
            have HMEM : ∀ x, x ∈ (ls.reverse ++ (if ls.length = 0 then [] else [ls.getD kk (0, 0, 0, 0, 0)])) ↔ x ∈ ls := fun x => T.turned_mem (x := x) (d := (0, 0, 0, 0, 0)) (.inl hkk)
            have hv2 := T.turn_valid (ls' := (ls.reverse ++ (if ls.length = 0 then [] else [ls.getD kk (0, 0, 0, 0, 0)]))) HV.out HMEM (by rw [if_neg (by omega)]; simp; omega)
            have tt := HKN.out.2.congr (T.turn_tr HMEM)
            clear HMEM
            have IYx : Lks Z301 (.slice ra (ls.length + 1) rc) (ls.reverse ++ (if ls.length = 0 then [] else [ls.getD kk (0, 0, 0, 0, 0)])) := Tab.of_row HO1.out (by decide) (by omega)
            have IXx : Lks Z301 (.slice (some ⟨g2, 0, none⟩) (ls.length + 1) cap) (ls ++ [(m0, m1, m2, m3, m4)]) := Tab.of_row HX.out (by decide) (by omega)
            have Ct := Lib.hid (fun w' (u : Up Z301 w') => Offset_tells hv2 HKN.out.1 tt (HI.out _ (U.trans u)) (HJ.out _ (U.trans u)) (IYx.up u))
            have Cu := Lib.hid (fun w' (u : Up Z301 w') => HM.out w' _ _ _ _ _ _ _ _ _ (HI.out _ (U.trans u)) (HJ.out _ (U.trans u)) (IXx.up u))
            have Uz := Up.refl Z301
            clear hv2 tt IYx IXx HO1 HX HK HI HJ HV HM hb4
            go_wp2_with fail
            refine (HRk.out _).mono ?_
            rintro e x302 ⟨rfl, rfl⟩
            clear HRk
            clear kM kN
            rcases Hm.out with ⟨rfl, rfl, f1, f2⟩ | ⟨rfl, rfl, rfl⟩ | ⟨rfl, rfl, rfl⟩
            · skip
              go_wp2_with fail
              refine (Co.out _ U).mono ?_
              rintro e x323 ⟨rfl, u324⟩
              replace U := U.trans u324
              replace kB := u324.blk kB
              replace kx := u324.blk kx
              replace ky := u324.blk ky
              replace Uz := Uz.trans u324
              clear u324 
              have dkBko := blk_lt kB
              have dkxko := blk_lt kx
              have dkyko := blk_lt ky
              have gko := U.size
              have ko := blk_new x323 (.cells #[.int .i64 lo, .int .i64 ho] 23) _ rfl
              replace kB := blk_keep (.cells #[.int .i64 lo, .int .i64 ho] 23) kB
              replace kx := blk_keep (.cells #[.int .i64 lo, .int .i64 ho] 23) kx
              replace ky := blk_keep (.cells #[.int .i64 lo, .int .i64 ho] 23) ky
              replace U := U.alloc (.cells #[.int .i64 lo, .int .i64 ho] 23)
              replace Uz := Uz.alloc (.cells #[.int .i64 lo, .int .i64 ho] 23)
              obtain ⟨pko, hpko⟩ : ∃ z, x323.heap.size = z := ⟨_, rfl⟩
              obtain ⟨W325, hW325⟩ : ∃ z, x323.alloc (.cells #[.int .i64 lo, .int .i64 ho] 23) = z := ⟨_, rfl⟩
              rw [hpko] at ko dkBko dkxko dkyko gko
              rw [hW325] at ko U kB kx ky Uz
              go_wp2_with fail
              clear hpko hW325
              refine (Cu.out _ Uz).mono ?_
              rintro e x326 ⟨rfl, u327⟩
              replace U := U.trans u327
              replace kB := u327.blk kB
              replace kx := u327.blk kx
              replace ky := u327.blk ky
              replace ko := u327.blk ko
              replace Uz := Uz.trans u327
              clear u327 
              have dkBku := blk_lt kB
              have dkxku := blk_lt kx
              have dkyku := blk_lt ky
              have dkoku := blk_lt ko
              have gku := U.size
              have ku := blk_new x326 (.cells #[.int .i64 lm, .int .i64 um] 23) _ rfl
              replace kB := blk_keep (.cells #[.int .i64 lm, .int .i64 um] 23) kB
              replace kx := blk_keep (.cells #[.int .i64 lm, .int .i64 um] 23) kx
              replace ky := blk_keep (.cells #[.int .i64 lm, .int .i64 um] 23) ky
              replace ko := blk_keep (.cells #[.int .i64 lm, .int .i64 um] 23) ko
              replace U := U.alloc (.cells #[.int .i64 lm, .int .i64 um] 23)
              replace Uz := Uz.alloc (.cells #[.int .i64 lm, .int .i64 um] 23)
              obtain ⟨pku, hpku⟩ : ∃ z, x326.heap.size = z := ⟨_, rfl⟩
              obtain ⟨W328, hW328⟩ : ∃ z, x326.alloc (.cells #[.int .i64 lm, .int .i64 um] 23) = z := ⟨_, rfl⟩
              rw [hpku] at ku dkBku dkxku dkyku dkoku gku
              rw [hW328] at ku U kB kx ky ko Uz
              go_wp2_with fail
              clear hpku hW328
              refine (Ct.out _ Uz).mono ?_
              rintro e x329 ⟨rfl, u330⟩
              replace U := U.trans u330
              replace kB := u330.blk kB
              replace kx := u330.blk kx
              replace ky := u330.blk ky
              replace ko := u330.blk ko
              replace ku := u330.blk ku
              replace Uz := Uz.trans u330
              clear u330 
              have dkBkt := blk_lt kB
              have dkxkt := blk_lt kx
              have dkykt := blk_lt ky
              have dkokt := blk_lt ko
              have dkukt := blk_lt ku
              have gkt := U.size
              have kt := blk_new x329 (.cells #[.int .i64 lo, .int .i64 ho] 23) _ rfl
              replace kB := blk_keep (.cells #[.int .i64 lo, .int .i64 ho] 23) kB
              replace kx := blk_keep (.cells #[.int .i64 lo, .int .i64 ho] 23) kx
              replace ky := blk_keep (.cells #[.int .i64 lo, .int .i64 ho] 23) ky
              replace ko := blk_keep (.cells #[.int .i64 lo, .int .i64 ho] 23) ko
              replace ku := blk_keep (.cells #[.int .i64 lo, .int .i64 ho] 23) ku
              replace U := U.alloc (.cells #[.int .i64 lo, .int .i64 ho] 23)
              replace Uz := Uz.alloc (.cells #[.int .i64 lo, .int .i64 ho] 23)
              obtain ⟨pkt, hpkt⟩ : ∃ z, x329.heap.size = z := ⟨_, rfl⟩
              obtain ⟨W331, hW331⟩ : ∃ z, x329.alloc (.cells #[.int .i64 lo, .int .i64 ho] 23) = z := ⟨_, rfl⟩
              rw [hpkt] at kt dkBkt dkxkt dkykt dkokt dkukt gkt
              rw [hW331] at kt U kB kx ky ko ku Uz
              go_wp2_with fail
              clear hpkt hW331
              refine (HWi.out _ _ _ _ _ ⟨f1, f2⟩).mono ?_
              rintro e x332 ⟨rfl, u333⟩
              replace U := U.trans u333
              replace kB := u333.blk kB
              replace kx := u333.blk kx
              replace ky := u333.blk ky
              replace ko := u333.blk ko
              replace ku := u333.blk ku
              replace kt := u333.blk kt
              replace Uz := Uz.trans u333
              clear u333 
              go_wp2_with fail
              refine (HW.out _).mono ?_
              rintro e x334 ⟨rfl, u335⟩
              replace U := U.trans u335
              replace kB := u335.blk kB
              replace kx := u335.blk kx
              replace ky := u335.blk ky
              replace ko := u335.blk ko
              replace ku := u335.blk ku
              replace kt := u335.blk kt
              replace Uz := Uz.trans u335
              clear u335 
              go_wp2
              go_ret
              exact ⟨rfl, U⟩
            · skip
              go_wp2_with fail
              refine (Co.out _ U).mono ?_
              rintro e x323 ⟨rfl, u324⟩
              replace U := U.trans u324
              replace kB := u324.blk kB
              replace kx := u324.blk kx
              replace ky := u324.blk ky
              replace Uz := Uz.trans u324
              clear u324 
              have dkBko := blk_lt kB
              have dkxko := blk_lt kx
              have dkyko := blk_lt ky
              have gko := U.size
              have ko := blk_new x323 (.cells #[.int .i64 lo, .int .i64 ho] 23) _ rfl
              replace kB := blk_keep (.cells #[.int .i64 lo, .int .i64 ho] 23) kB
              replace kx := blk_keep (.cells #[.int .i64 lo, .int .i64 ho] 23) kx
              replace ky := blk_keep (.cells #[.int .i64 lo, .int .i64 ho] 23) ky
              replace U := U.alloc (.cells #[.int .i64 lo, .int .i64 ho] 23)
              replace Uz := Uz.alloc (.cells #[.int .i64 lo, .int .i64 ho] 23)
              obtain ⟨pko, hpko⟩ : ∃ z, x323.heap.size = z := ⟨_, rfl⟩
              obtain ⟨W325, hW325⟩ : ∃ z, x323.alloc (.cells #[.int .i64 lo, .int .i64 ho] 23) = z := ⟨_, rfl⟩
              rw [hpko] at ko dkBko dkxko dkyko gko
              rw [hW325] at ko U kB kx ky Uz
              go_wp2_with fail
              clear hpko hW325
              refine (Cu.out _ Uz).mono ?_
              rintro e x326 ⟨rfl, u327⟩
              replace U := U.trans u327
              replace kB := u327.blk kB
              replace kx := u327.blk kx
              replace ky := u327.blk ky
              replace ko := u327.blk ko
              replace Uz := Uz.trans u327
              clear u327 
              have dkBku := blk_lt kB
              have dkxku := blk_lt kx
              have dkyku := blk_lt ky
              have dkoku := blk_lt ko
              have gku := U.size
              have ku := blk_new x326 (.cells #[.int .i64 0, .int .i64 0] 23) _ rfl
              replace kB := blk_keep (.cells #[.int .i64 0, .int .i64 0] 23) kB
              replace kx := blk_keep (.cells #[.int .i64 0, .int .i64 0] 23) kx
              replace ky := blk_keep (.cells #[.int .i64 0, .int .i64 0] 23) ky
              replace ko := blk_keep (.cells #[.int .i64 0, .int .i64 0] 23) ko
              replace U := U.alloc (.cells #[.int .i64 0, .int .i64 0] 23)
              replace Uz := Uz.alloc (.cells #[.int .i64 0, .int .i64 0] 23)
              go_wp2_with fail
              obtain ⟨pku, hpku⟩ : ∃ z, x326.heap.size = z := ⟨_, rfl⟩
              obtain ⟨W328, hW328⟩ : ∃ z, x326.alloc (.cells #[.int .i64 0, .int .i64 0] 23) = z := ⟨_, rfl⟩
              rw [hpku] at ku dkBku dkxku dkyku dkoku gku
              rw [hW328] at ku U kB kx ky ko Uz
              rw [hW328, hpku]
              go_wp2_with fail
              clear hpku hW328
              refine (Ct.out _ Uz).mono ?_
              rintro e x329 ⟨rfl, u330⟩
              replace U := U.trans u330
              replace kB := u330.blk kB
              replace kx := u330.blk kx
              replace ky := u330.blk ky
              replace ko := u330.blk ko
              replace ku := u330.blk ku
              replace Uz := Uz.trans u330
              clear u330 
              have dkBkt := blk_lt kB
              have dkxkt := blk_lt kx
              have dkykt := blk_lt ky
              have dkokt := blk_lt ko
              have dkukt := blk_lt ku
              have gkt := U.size
              have kt := blk_new x329 (.cells #[.int .i64 lo, .int .i64 ho] 23) _ rfl
              replace kB := blk_keep (.cells #[.int .i64 lo, .int .i64 ho] 23) kB
              replace kx := blk_keep (.cells #[.int .i64 lo, .int .i64 ho] 23) kx
              replace ky := blk_keep (.cells #[.int .i64 lo, .int .i64 ho] 23) ky
              replace ko := blk_keep (.cells #[.int .i64 lo, .int .i64 ho] 23) ko
              replace ku := blk_keep (.cells #[.int .i64 lo, .int .i64 ho] 23) ku
              replace U := U.alloc (.cells #[.int .i64 lo, .int .i64 ho] 23)
              replace Uz := Uz.alloc (.cells #[.int .i64 lo, .int .i64 ho] 23)
              obtain ⟨pkt, hpkt⟩ : ∃ z, x329.heap.size = z := ⟨_, rfl⟩
              obtain ⟨W331, hW331⟩ : ∃ z, x329.alloc (.cells #[.int .i64 lo, .int .i64 ho] 23) = z := ⟨_, rfl⟩
              rw [hpkt] at kt dkBkt dkxkt dkykt dkokt dkukt gkt
              rw [hW331] at kt U kB kx ky ko ku Uz
              go_wp2_with fail
              clear hpkt hW331
              have F333 := Lib.hid (fun w (u : Up W331 w) => cellB (u.blk kB))
              have F334 := Lib.hid (fun w (u : Up W331 w) => cellB (u.blk kx))
              have F335 := Lib.hid (fun w (u : Up W331 w) => cellB (u.blk ky))
              have F336 := Lib.hid (fun w (u : Up W331 w) => cellB (u.blk ko))
              have F337 := Lib.hid (fun w (u : Up W331 w) => cellB (u.blk ku))
              have F338 := Lib.hid (fun w (u : Up W331 w) => cellB (u.blk kt))
              refine (wpIn_wide (n := 5)).1 ?_
              refine wpIn_nrm ?_
              refine T.regionQ (fun w' => Up W331 w') 14 1 hmx (by kernel_rfl) (by kernel_rfl) ((Up.refl W331).drew) (fun hCl => ?_)
              refine T.qT 0 (some 108) ?v45 rfl rfl hCl ?hy45 (fun hCl' => ?_)
              case hy45 => (intro w hSw; refine T.qVal ?_ hSw; (try dsimp only [List.getElem_toArray, List.getElem_cons_succ, List.getElem_cons_zero]); go_simp; try with_reducible rfl)
              simp only [Act.put, List.setIfInBounds_toArray, List.set_cons_zero, List.set_cons_succ]; replace hCl := hCl'; clear hCl'
              refine T.qT 1 (some 109) ?v46 rfl rfl hCl ?hy46 (fun hCl' => ?_)
              case hy46 => (intro w hSw; refine T.qVal ?_ hSw; (try dsimp only [List.getElem_toArray, List.getElem_cons_succ, List.getElem_cons_zero]); go_simp; try with_reducible rfl)
              simp only [Act.put, List.setIfInBounds_toArray, List.set_cons_zero, List.set_cons_succ]; replace hCl := hCl'; clear hCl'
              refine T.qT 2 (some 110) ?v47 rfl rfl hCl ?hy47 (fun hCl' => ?_)
              case hy47 => (intro w hSw; refine T.qVal ?_ hSw; (try dsimp only [List.getElem_toArray, List.getElem_cons_succ, List.getElem_cons_zero]); go_simp; try with_reducible rfl)
              simp only [Act.put, List.setIfInBounds_toArray, List.set_cons_zero, List.set_cons_succ]; replace hCl := hCl'; clear hCl'
              refine T.qS 3 (some 111) rfl rfl hCl (fun hCl' => ?_)
              simp only [Act.put, List.setIfInBounds_toArray, List.set_cons_zero, List.set_cons_succ]; replace hCl := hCl'; clear hCl'
              refine T.qS 4 (some 112) rfl rfl hCl (fun hCl' => ?_)
              simp only [Act.put, List.setIfInBounds_toArray, List.set_cons_zero, List.set_cons_succ]; replace hCl := hCl'; clear hCl'
              refine T.qT 5 (some 113) ?v50 rfl rfl hCl ?hy50 (fun hCl' => ?_)
              case hy50 => (intro w hSw; refine T.qVal ?_ hSw; (try dsimp only [List.getElem_toArray, List.getElem_cons_succ, List.getElem_cons_zero]); go_simp; try with_reducible rfl)
              simp only [Act.put, List.setIfInBounds_toArray, List.set_cons_zero, List.set_cons_succ]; replace hCl := hCl'; clear hCl'
              refine T.qT 6 (some 114) ?v51 rfl rfl hCl ?hy51 (fun hCl' => ?_)
              case hy51 => (intro w hSw; refine T.qVal ?_ hSw; (try dsimp only [List.getElem_toArray, List.getElem_cons_succ, List.getElem_cons_zero]); go_simp; try with_reducible rfl)
              simp only [Act.put, List.setIfInBounds_toArray, List.set_cons_zero, List.set_cons_succ]; replace hCl := hCl'; clear hCl'
              refine T.qT 7 (some 115) ?v52 rfl rfl hCl ?hy52 (fun hCl' => ?_)
              case hy52 => (intro w hSw; refine T.qVal ?_ hSw; (have fF333 := F333.out w hSw; have fF334 := F334.out w hSw; have fF335 := F335.out w hSw; have fF336 := F336.out w hSw; have fF337 := F337.out w hSw; have fF338 := F338.out w hSw); (try dsimp only [List.getElem_toArray, List.getElem_cons_succ, List.getElem_cons_zero]); go_simp; try with_reducible rfl)
              simp only [Act.put, List.setIfInBounds_toArray, List.set_cons_zero, List.set_cons_succ]; replace hCl := hCl'; clear hCl'
              refine T.qT 8 (some 116) ((SpV 0 0)) rfl rfl hCl ?hy53 (fun hCl' => ?_)
              case hy53 => (intro w hSw; (have fF333 := F333.out w hSw; have fF334 := F334.out w hSw; have fF335 := F335.out w hSw; have fF336 := F336.out w hSw; have fF337 := F337.out w hSw; have fF338 := F338.out w hSw); (try dsimp only [List.getElem_toArray, List.getElem_cons_succ, List.getElem_cons_zero]); go_simp; (refine (callsIn_wide.2 (HTo.out 0 0 w)).mono ?_; rintro e w3 ⟨rfl, u3⟩; exact ⟨rfl, hSw.trans u3⟩))
              simp only [Act.put, List.setIfInBounds_toArray, List.set_cons_zero, List.set_cons_succ]
              replace hCl := hCl'; clear hCl'
              refine T.qT 9 (some 117) ?v54 rfl rfl hCl ?hy54 (fun hCl' => ?_)
              case hy54 => (intro w hSw; refine T.qVal ?_ hSw; (try dsimp only [List.getElem_toArray, List.getElem_cons_succ, List.getElem_cons_zero]); go_simp; try with_reducible rfl)
              simp only [Act.put, List.setIfInBounds_toArray, List.set_cons_zero, List.set_cons_succ]; replace hCl := hCl'; clear hCl'
              refine T.qT 10 (some 118) ?v55 rfl rfl hCl ?hy55 (fun hCl' => ?_)
              case hy55 => (intro w hSw; refine T.qVal ?_ hSw; (try dsimp only [List.getElem_toArray, List.getElem_cons_succ, List.getElem_cons_zero]); go_simp; try with_reducible rfl)
              simp only [Act.put, List.setIfInBounds_toArray, List.set_cons_zero, List.set_cons_succ]; replace hCl := hCl'; clear hCl'
              refine T.qT 11 (some 119) ?v56 rfl rfl hCl ?hy56 (fun hCl' => ?_)
              case hy56 => (intro w hSw; refine T.qVal ?_ hSw; (try dsimp only [List.getElem_toArray, List.getElem_cons_succ, List.getElem_cons_zero]); go_simp; try with_reducible rfl)
              simp only [Act.put, List.setIfInBounds_toArray, List.set_cons_zero, List.set_cons_succ]; replace hCl := hCl'; clear hCl'
              refine T.qT 12 (some 120) ((.bool true)) rfl rfl hCl ?hy57 (fun hCl' => ?_)
              case hy57 => (intro w hSw; (have fF333 := F333.out w hSw; have fF334 := F334.out w hSw; have fF335 := F335.out w hSw; have fF336 := F336.out w hSw; have fF337 := F337.out w hSw; have fF338 := F338.out w hSw); (try dsimp only [List.getElem_toArray, List.getElem_cons_succ, List.getElem_cons_zero]); go_simp; (refine (callsIn_wide.2 (HW.out w)).mono ?_; rintro e w3 ⟨rfl, u3⟩; exact ⟨rfl, hSw.trans u3⟩))
              simp only [Act.put, List.setIfInBounds_toArray, List.set_cons_zero, List.set_cons_succ]
              replace hCl := hCl'; clear hCl'
              refine T.qT 13 (some 121) ?v58 rfl rfl hCl ?hy58 (fun hCl' => ?_)
              case hy58 => (intro w hSw; refine T.qVal ?_ hSw; (try dsimp only [List.getElem_toArray, List.getElem_cons_succ, List.getElem_cons_zero]); go_simp; try with_reducible rfl)
              simp only [Act.put, List.setIfInBounds_toArray, List.set_cons_zero, List.set_cons_succ]; replace hCl := hCl'; clear hCl'
              refine T.tail_intro (by kernel_rfl) (fun Y332 hY332 => ?_)
              replace U := U.trans hY332
              replace kB := hY332.blk kB
              replace kx := hY332.blk kx
              replace ky := hY332.blk ky
              replace ko := hY332.blk ko
              replace ku := hY332.blk ku
              replace kt := hY332.blk kt
              replace Uz := Uz.trans hY332
              clear F333 F334 F335 F336 F337 F338 hY332
              refine lastG (i := 14) (by kernel_rfl) rfl (by rfl) (by decide) (fun K hK => ?_)
              go_simp
              refine hK.out _ _ ?_
              clear hK K
              refine doneG (by kernel_rfl) ?_ _
              refine S.nrm_intro ?_
              go_wp2
              go_ret
              exact ⟨rfl, U⟩
            · skip
              go_wp2_with fail
              refine (Co.out _ U).mono ?_
              rintro e x323 ⟨rfl, u324⟩
              replace U := U.trans u324
              replace kB := u324.blk kB
              replace kx := u324.blk kx
              replace ky := u324.blk ky
              replace Uz := Uz.trans u324
              clear u324 
              have dkBko := blk_lt kB
              have dkxko := blk_lt kx
              have dkyko := blk_lt ky
              have gko := U.size
              have ko := blk_new x323 (.cells #[.int .i64 lo, .int .i64 ho] 23) _ rfl
              replace kB := blk_keep (.cells #[.int .i64 lo, .int .i64 ho] 23) kB
              replace kx := blk_keep (.cells #[.int .i64 lo, .int .i64 ho] 23) kx
              replace ky := blk_keep (.cells #[.int .i64 lo, .int .i64 ho] 23) ky
              replace U := U.alloc (.cells #[.int .i64 lo, .int .i64 ho] 23)
              replace Uz := Uz.alloc (.cells #[.int .i64 lo, .int .i64 ho] 23)
              obtain ⟨pko, hpko⟩ : ∃ z, x323.heap.size = z := ⟨_, rfl⟩
              obtain ⟨W325, hW325⟩ : ∃ z, x323.alloc (.cells #[.int .i64 lo, .int .i64 ho] 23) = z := ⟨_, rfl⟩
              rw [hpko] at ko dkBko dkxko dkyko gko
              rw [hW325] at ko U kB kx ky Uz
              go_wp2_with fail
              clear hpko hW325
              refine (Cu.out _ Uz).mono ?_
              rintro e x326 ⟨rfl, u327⟩
              replace U := U.trans u327
              replace kB := u327.blk kB
              replace kx := u327.blk kx
              replace ky := u327.blk ky
              replace ko := u327.blk ko
              replace Uz := Uz.trans u327
              clear u327 
              have dkBku := blk_lt kB
              have dkxku := blk_lt kx
              have dkyku := blk_lt ky
              have dkoku := blk_lt ko
              have gku := U.size
              have ku := blk_new x326 (.cells #[.int .i64 0, .int .i64 0] 23) _ rfl
              replace kB := blk_keep (.cells #[.int .i64 0, .int .i64 0] 23) kB
              replace kx := blk_keep (.cells #[.int .i64 0, .int .i64 0] 23) kx
              replace ky := blk_keep (.cells #[.int .i64 0, .int .i64 0] 23) ky
              replace ko := blk_keep (.cells #[.int .i64 0, .int .i64 0] 23) ko
              replace U := U.alloc (.cells #[.int .i64 0, .int .i64 0] 23)
              replace Uz := Uz.alloc (.cells #[.int .i64 0, .int .i64 0] 23)
              go_wp2_with fail
              obtain ⟨pku, hpku⟩ : ∃ z, x326.heap.size = z := ⟨_, rfl⟩
              obtain ⟨W328, hW328⟩ : ∃ z, x326.alloc (.cells #[.int .i64 0, .int .i64 0] 23) = z := ⟨_, rfl⟩
              rw [hpku] at ku dkBku dkxku dkyku dkoku gku
              rw [hW328] at ku U kB kx ky ko Uz
              rw [hW328, hpku]
              go_wp2_with fail
              clear hpku hW328
              refine (Ct.out _ Uz).mono ?_
              rintro e x329 ⟨rfl, u330⟩
              replace U := U.trans u330
              replace kB := u330.blk kB
              replace kx := u330.blk kx
              replace ky := u330.blk ky
              replace ko := u330.blk ko
              replace ku := u330.blk ku
              replace Uz := Uz.trans u330
              clear u330 
              have dkBkt := blk_lt kB
              have dkxkt := blk_lt kx
              have dkykt := blk_lt ky
              have dkokt := blk_lt ko
              have dkukt := blk_lt ku
              have gkt := U.size
              have kt := blk_new x329 (.cells #[.int .i64 lo, .int .i64 ho] 23) _ rfl
              replace kB := blk_keep (.cells #[.int .i64 lo, .int .i64 ho] 23) kB
              replace kx := blk_keep (.cells #[.int .i64 lo, .int .i64 ho] 23) kx
              replace ky := blk_keep (.cells #[.int .i64 lo, .int .i64 ho] 23) ky
              replace ko := blk_keep (.cells #[.int .i64 lo, .int .i64 ho] 23) ko
              replace ku := blk_keep (.cells #[.int .i64 lo, .int .i64 ho] 23) ku
              replace U := U.alloc (.cells #[.int .i64 lo, .int .i64 ho] 23)
              replace Uz := Uz.alloc (.cells #[.int .i64 lo, .int .i64 ho] 23)
              obtain ⟨pkt, hpkt⟩ : ∃ z, x329.heap.size = z := ⟨_, rfl⟩
              obtain ⟨W331, hW331⟩ : ∃ z, x329.alloc (.cells #[.int .i64 lo, .int .i64 ho] 23) = z := ⟨_, rfl⟩
              rw [hpkt] at kt dkBkt dkxkt dkykt dkokt dkukt gkt
              rw [hW331] at kt U kB kx ky ko ku Uz
              go_wp2_with fail
              clear hpkt hW331
              have F333 := Lib.hid (fun w (u : Up W331 w) => cellB (u.blk kB))
              have F334 := Lib.hid (fun w (u : Up W331 w) => cellB (u.blk kx))
              have F335 := Lib.hid (fun w (u : Up W331 w) => cellB (u.blk ky))
              have F336 := Lib.hid (fun w (u : Up W331 w) => cellB (u.blk ko))
              have F337 := Lib.hid (fun w (u : Up W331 w) => cellB (u.blk ku))
              have F338 := Lib.hid (fun w (u : Up W331 w) => cellB (u.blk kt))
              refine (wpIn_wide (n := 5)).1 ?_
              refine wpIn_nrm ?_
              refine T.regionQ (fun w' => Up W331 w') 14 1 hmx (by kernel_rfl) (by kernel_rfl) ((Up.refl W331).drew) (fun hCl => ?_)
              refine T.qT 0 (some 108) ?v59 rfl rfl hCl ?hy59 (fun hCl' => ?_)
              case hy59 => (intro w hSw; refine T.qVal ?_ hSw; (try dsimp only [List.getElem_toArray, List.getElem_cons_succ, List.getElem_cons_zero]); go_simp; try with_reducible rfl)
              simp only [Act.put, List.setIfInBounds_toArray, List.set_cons_zero, List.set_cons_succ]; replace hCl := hCl'; clear hCl'
              refine T.qT 1 (some 109) ?v60 rfl rfl hCl ?hy60 (fun hCl' => ?_)
              case hy60 => (intro w hSw; refine T.qVal ?_ hSw; (try dsimp only [List.getElem_toArray, List.getElem_cons_succ, List.getElem_cons_zero]); go_simp; try with_reducible rfl)
              simp only [Act.put, List.setIfInBounds_toArray, List.set_cons_zero, List.set_cons_succ]; replace hCl := hCl'; clear hCl'
              refine T.qT 2 (some 110) ?v61 rfl rfl hCl ?hy61 (fun hCl' => ?_)
              case hy61 => (intro w hSw; refine T.qVal ?_ hSw; (try dsimp only [List.getElem_toArray, List.getElem_cons_succ, List.getElem_cons_zero]); go_simp; try with_reducible rfl)
              simp only [Act.put, List.setIfInBounds_toArray, List.set_cons_zero, List.set_cons_succ]; replace hCl := hCl'; clear hCl'
              refine T.qT 3 (some 111) ?v62 rfl rfl hCl ?hy62 (fun hCl' => ?_)
              case hy62 => (intro w hSw; refine T.qVal ?_ hSw; (try dsimp only [List.getElem_toArray, List.getElem_cons_succ, List.getElem_cons_zero]); go_simp; try with_reducible rfl)
              simp only [Act.put, List.setIfInBounds_toArray, List.set_cons_zero, List.set_cons_succ]; replace hCl := hCl'; clear hCl'
              refine T.qT 4 (some 112) ?v63 rfl rfl hCl ?hy63 (fun hCl' => ?_)
              case hy63 => (intro w hSw; refine T.qVal ?_ hSw; (try dsimp only [List.getElem_toArray, List.getElem_cons_succ, List.getElem_cons_zero]); go_simp; try with_reducible rfl)
              simp only [Act.put, List.setIfInBounds_toArray, List.set_cons_zero, List.set_cons_succ]; replace hCl := hCl'; clear hCl'
              refine T.qT 5 (some 113) ?v64 rfl rfl hCl ?hy64 (fun hCl' => ?_)
              case hy64 => (intro w hSw; refine T.qVal ?_ hSw; (try dsimp only [List.getElem_toArray, List.getElem_cons_succ, List.getElem_cons_zero]); go_simp; try with_reducible rfl)
              simp only [Act.put, List.setIfInBounds_toArray, List.set_cons_zero, List.set_cons_succ]; replace hCl := hCl'; clear hCl'
              refine T.qT 6 (some 114) ?v65 rfl rfl hCl ?hy65 (fun hCl' => ?_)
              case hy65 => (intro w hSw; refine T.qVal ?_ hSw; (try dsimp only [List.getElem_toArray, List.getElem_cons_succ, List.getElem_cons_zero]); go_simp; try with_reducible rfl)
              simp only [Act.put, List.setIfInBounds_toArray, List.set_cons_zero, List.set_cons_succ]; replace hCl := hCl'; clear hCl'
              refine T.qT 7 (some 115) ?v66 rfl rfl hCl ?hy66 (fun hCl' => ?_)
              case hy66 => (intro w hSw; refine T.qVal ?_ hSw; (have fF333 := F333.out w hSw; have fF334 := F334.out w hSw; have fF335 := F335.out w hSw; have fF336 := F336.out w hSw; have fF337 := F337.out w hSw; have fF338 := F338.out w hSw); (try dsimp only [List.getElem_toArray, List.getElem_cons_succ, List.getElem_cons_zero]); go_simp; try with_reducible rfl)
              simp only [Act.put, List.setIfInBounds_toArray, List.set_cons_zero, List.set_cons_succ]; replace hCl := hCl'; clear hCl'
              refine T.qT 8 (some 116) ((SpV 0 0)) rfl rfl hCl ?hy67 (fun hCl' => ?_)
              case hy67 => (intro w hSw; (have fF333 := F333.out w hSw; have fF334 := F334.out w hSw; have fF335 := F335.out w hSw; have fF336 := F336.out w hSw; have fF337 := F337.out w hSw; have fF338 := F338.out w hSw); (try dsimp only [List.getElem_toArray, List.getElem_cons_succ, List.getElem_cons_zero]); go_simp; (refine (callsIn_wide.2 (HTo.out 0 0 w)).mono ?_; rintro e w3 ⟨rfl, u3⟩; exact ⟨rfl, hSw.trans u3⟩))
              simp only [Act.put, List.setIfInBounds_toArray, List.set_cons_zero, List.set_cons_succ]
              replace hCl := hCl'; clear hCl'
              refine T.qT 9 (some 117) ?v68 rfl rfl hCl ?hy68 (fun hCl' => ?_)
              case hy68 => (intro w hSw; refine T.qVal ?_ hSw; (try dsimp only [List.getElem_toArray, List.getElem_cons_succ, List.getElem_cons_zero]); go_simp; try with_reducible rfl)
              simp only [Act.put, List.setIfInBounds_toArray, List.set_cons_zero, List.set_cons_succ]; replace hCl := hCl'; clear hCl'
              refine T.qT 10 (some 118) ?v69 rfl rfl hCl ?hy69 (fun hCl' => ?_)
              case hy69 => (intro w hSw; refine T.qVal ?_ hSw; (try dsimp only [List.getElem_toArray, List.getElem_cons_succ, List.getElem_cons_zero]); go_simp; try with_reducible rfl)
              simp only [Act.put, List.setIfInBounds_toArray, List.set_cons_zero, List.set_cons_succ]; replace hCl := hCl'; clear hCl'
              refine T.qT 11 (some 119) ?v70 rfl rfl hCl ?hy70 (fun hCl' => ?_)
              case hy70 => (intro w hSw; refine T.qVal ?_ hSw; (try dsimp only [List.getElem_toArray, List.getElem_cons_succ, List.getElem_cons_zero]); go_simp; try with_reducible rfl)
              simp only [Act.put, List.setIfInBounds_toArray, List.set_cons_zero, List.set_cons_succ]; replace hCl := hCl'; clear hCl'
              refine T.qT 12 (some 120) ((.bool true)) rfl rfl hCl ?hy71 (fun hCl' => ?_)
              case hy71 => (intro w hSw; (have fF333 := F333.out w hSw; have fF334 := F334.out w hSw; have fF335 := F335.out w hSw; have fF336 := F336.out w hSw; have fF337 := F337.out w hSw; have fF338 := F338.out w hSw); (try dsimp only [List.getElem_toArray, List.getElem_cons_succ, List.getElem_cons_zero]); go_simp; (refine (callsIn_wide.2 (HW.out w)).mono ?_; rintro e w3 ⟨rfl, u3⟩; exact ⟨rfl, hSw.trans u3⟩))
              simp only [Act.put, List.setIfInBounds_toArray, List.set_cons_zero, List.set_cons_succ]
              replace hCl := hCl'; clear hCl'
              refine T.qT 13 (some 121) ?v72 rfl rfl hCl ?hy72 (fun hCl' => ?_)
              case hy72 => (intro w hSw; refine T.qVal ?_ hSw; (try dsimp only [List.getElem_toArray, List.getElem_cons_succ, List.getElem_cons_zero]); go_simp; try with_reducible rfl)
              simp only [Act.put, List.setIfInBounds_toArray, List.set_cons_zero, List.set_cons_succ]; replace hCl := hCl'; clear hCl'
              refine T.tail_intro (by kernel_rfl) (fun Y332 hY332 => ?_)
              replace U := U.trans hY332
              replace kB := hY332.blk kB
              replace kx := hY332.blk kx
              replace ky := hY332.blk ky
              replace ko := hY332.blk ko
              replace ku := hY332.blk ku
              replace kt := hY332.blk kt
              replace Uz := Uz.trans hY332
              clear F333 F334 F335 F336 F337 F338 hY332
              refine lastG (i := 14) (by kernel_rfl) rfl (by rfl) (by decide) (fun K hK => ?_)
              go_simp
              refine hK.out _ _ ?_
              clear hK K
              refine doneG (by kernel_rfl) ?_ _
              refine S.nrm_intro ?_
              go_wp2
              go_ret
              exact ⟨rfl, U⟩
          · skip
            have hz0 : ls.length = 0 := by omega
            have d1 : decide ((ls.length : Int) > 0) = false := decide_eq_false (by omega)
            have il0 : ¬ (0 : Int) < (ls.length : Int) := by omega
            have HO3 : wr.ownsRow bq 63 5 (.slice a ls.length c) ls.length (T.flat 5 T.encL (ls.reverse ++ (if ls.length = 0 then [] else [ls.getD 0 (0, 0, 0, 0, 0)]))) := by
              rw [if_pos hz0, List.append_nil]
              exact HO1.out
            replace HO1 := Lib.hid HO3
            have HZ := Lib.hid hz0
            clear HO3 hz0 hne
            have HMEM : ∀ x, x ∈ (ls.reverse ++ (if ls.length = 0 then [] else [ls.getD 0 (0, 0, 0, 0, 0)])) ↔ x ∈ ls := fun x => T.turned_mem (x := x) (d := (0, 0, 0, 0, 0)) (.inr HZ.out)
            have hv2 := T.turn_valid (ls' := (ls.reverse ++ (if ls.length = 0 then [] else [ls.getD 0 (0, 0, 0, 0, 0)]))) HV.out HMEM (by rw [if_pos HZ.out]; simp; omega)
            have tt := HKN.out.2.congr (T.turn_tr HMEM)
            clear HMEM
            have IYx : Lks wr (.slice a ls.length c) (ls.reverse ++ (if ls.length = 0 then [] else [ls.getD 0 (0, 0, 0, 0, 0)])) := Tab.of_row HO1.out (by decide) (by omega)
            have IXx : Lks wr (.slice (some ⟨g2, 0, none⟩) (ls.length + 1) cap) (ls ++ [(m0, m1, m2, m3, m4)]) := Tab.of_row HX.out (by decide) (by omega)
            have Ct := Lib.hid (fun w' (u : Up wr w') => Offset_tells hv2 HKN.out.1 tt (HI.out _ (U.trans u)) (HJ.out _ (U.trans u)) (IYx.up u))
            have Cu := Lib.hid (fun w' (u : Up wr w') => HM.out w' _ _ _ _ _ _ _ _ _ (HI.out _ (U.trans u)) (HJ.out _ (U.trans u)) (IXx.up u))
            have Uz := Up.refl wr
            clear hv2 tt IYx IXx HO1 HX HK HI HJ HV hb0 HM
            go_wp2_with fail
            refine (HRk.out _).mono ?_
            rintro e x401 ⟨rfl, rfl⟩
            clear HRk
            clear kM kN
            rcases Hm.out with ⟨rfl, rfl, f1, f2⟩ | ⟨rfl, rfl, rfl⟩ | ⟨rfl, rfl, rfl⟩
            · skip
              go_wp2_with fail
              refine (Co.out _ U).mono ?_
              rintro e x422 ⟨rfl, u423⟩
              replace U := U.trans u423
              replace kB := u423.blk kB
              replace kx := u423.blk kx
              replace ky := u423.blk ky
              replace Uz := Uz.trans u423
              clear u423 
              have dkBko := blk_lt kB
              have dkxko := blk_lt kx
              have dkyko := blk_lt ky
              have gko := U.size
              have ko := blk_new x422 (.cells #[.int .i64 lo, .int .i64 ho] 23) _ rfl
              replace kB := blk_keep (.cells #[.int .i64 lo, .int .i64 ho] 23) kB
              replace kx := blk_keep (.cells #[.int .i64 lo, .int .i64 ho] 23) kx
              replace ky := blk_keep (.cells #[.int .i64 lo, .int .i64 ho] 23) ky
              replace U := U.alloc (.cells #[.int .i64 lo, .int .i64 ho] 23)
              replace Uz := Uz.alloc (.cells #[.int .i64 lo, .int .i64 ho] 23)
              obtain ⟨pko, hpko⟩ : ∃ z, x422.heap.size = z := ⟨_, rfl⟩
              obtain ⟨W424, hW424⟩ : ∃ z, x422.alloc (.cells #[.int .i64 lo, .int .i64 ho] 23) = z := ⟨_, rfl⟩
              rw [hpko] at ko dkBko dkxko dkyko gko
              rw [hW424] at ko U kB kx ky Uz
              go_wp2_with fail
              clear hpko hW424
              refine (Cu.out _ Uz).mono ?_
              rintro e x425 ⟨rfl, u426⟩
              replace U := U.trans u426
              replace kB := u426.blk kB
              replace kx := u426.blk kx
              replace ky := u426.blk ky
              replace ko := u426.blk ko
              replace Uz := Uz.trans u426
              clear u426 
              have dkBku := blk_lt kB
              have dkxku := blk_lt kx
              have dkyku := blk_lt ky
              have dkoku := blk_lt ko
              have gku := U.size
              have ku := blk_new x425 (.cells #[.int .i64 lm, .int .i64 um] 23) _ rfl
              replace kB := blk_keep (.cells #[.int .i64 lm, .int .i64 um] 23) kB
              replace kx := blk_keep (.cells #[.int .i64 lm, .int .i64 um] 23) kx
              replace ky := blk_keep (.cells #[.int .i64 lm, .int .i64 um] 23) ky
              replace ko := blk_keep (.cells #[.int .i64 lm, .int .i64 um] 23) ko
              replace U := U.alloc (.cells #[.int .i64 lm, .int .i64 um] 23)
              replace Uz := Uz.alloc (.cells #[.int .i64 lm, .int .i64 um] 23)
              obtain ⟨pku, hpku⟩ : ∃ z, x425.heap.size = z := ⟨_, rfl⟩
              obtain ⟨W427, hW427⟩ : ∃ z, x425.alloc (.cells #[.int .i64 lm, .int .i64 um] 23) = z := ⟨_, rfl⟩
              rw [hpku] at ku dkBku dkxku dkyku dkoku gku
              rw [hW427] at ku U kB kx ky ko Uz
              go_wp2_with fail
              clear hpku hW427
              refine (Ct.out _ Uz).mono ?_
              rintro e x428 ⟨rfl, u429⟩
              replace U := U.trans u429
              replace kB := u429.blk kB
              replace kx := u429.blk kx
              replace ky := u429.blk ky
              replace ko := u429.blk ko
              replace ku := u429.blk ku
              replace Uz := Uz.trans u429
              clear u429 
              have dkBkt := blk_lt kB
              have dkxkt := blk_lt kx
              have dkykt := blk_lt ky
              have dkokt := blk_lt ko
              have dkukt := blk_lt ku
              have gkt := U.size
              have kt := blk_new x428 (.cells #[.int .i64 lo, .int .i64 ho] 23) _ rfl
              replace kB := blk_keep (.cells #[.int .i64 lo, .int .i64 ho] 23) kB
              replace kx := blk_keep (.cells #[.int .i64 lo, .int .i64 ho] 23) kx
              replace ky := blk_keep (.cells #[.int .i64 lo, .int .i64 ho] 23) ky
              replace ko := blk_keep (.cells #[.int .i64 lo, .int .i64 ho] 23) ko
              replace ku := blk_keep (.cells #[.int .i64 lo, .int .i64 ho] 23) ku
              replace U := U.alloc (.cells #[.int .i64 lo, .int .i64 ho] 23)
              replace Uz := Uz.alloc (.cells #[.int .i64 lo, .int .i64 ho] 23)
              obtain ⟨pkt, hpkt⟩ : ∃ z, x428.heap.size = z := ⟨_, rfl⟩
              obtain ⟨W430, hW430⟩ : ∃ z, x428.alloc (.cells #[.int .i64 lo, .int .i64 ho] 23) = z := ⟨_, rfl⟩
              rw [hpkt] at kt dkBkt dkxkt dkykt dkokt dkukt gkt
              rw [hW430] at kt U kB kx ky ko ku Uz
              go_wp2_with fail
              clear hpkt hW430
              refine (HWi.out _ _ _ _ _ ⟨f1, f2⟩).mono ?_
              rintro e x431 ⟨rfl, u432⟩
              replace U := U.trans u432
              replace kB := u432.blk kB
              replace kx := u432.blk kx
              replace ky := u432.blk ky
              replace ko := u432.blk ko
              replace ku := u432.blk ku
              replace kt := u432.blk kt
              replace Uz := Uz.trans u432
              clear u432 
              go_wp2_with fail
              refine (HW.out _).mono ?_
              rintro e x433 ⟨rfl, u434⟩
              replace U := U.trans u434
              replace kB := u434.blk kB
              replace kx := u434.blk kx
              replace ky := u434.blk ky
              replace ko := u434.blk ko
              replace ku := u434.blk ku
              replace kt := u434.blk kt
              replace Uz := Uz.trans u434
              clear u434 
              go_wp2
              go_ret
              exact ⟨rfl, U⟩
            · skip
              go_wp2_with fail
              refine (Co.out _ U).mono ?_
              rintro e x422 ⟨rfl, u423⟩
              replace U := U.trans u423
              replace kB := u423.blk kB
              replace kx := u423.blk kx
              replace ky := u423.blk ky
              replace Uz := Uz.trans u423
              clear u423 
              have dkBko := blk_lt kB
              have dkxko := blk_lt kx
              have dkyko := blk_lt ky
              have gko := U.size
              have ko := blk_new x422 (.cells #[.int .i64 lo, .int .i64 ho] 23) _ rfl
              replace kB := blk_keep (.cells #[.int .i64 lo, .int .i64 ho] 23) kB
              replace kx := blk_keep (.cells #[.int .i64 lo, .int .i64 ho] 23) kx
              replace ky := blk_keep (.cells #[.int .i64 lo, .int .i64 ho] 23) ky
              replace U := U.alloc (.cells #[.int .i64 lo, .int .i64 ho] 23)
              replace Uz := Uz.alloc (.cells #[.int .i64 lo, .int .i64 ho] 23)
              obtain ⟨pko, hpko⟩ : ∃ z, x422.heap.size = z := ⟨_, rfl⟩
              obtain ⟨W424, hW424⟩ : ∃ z, x422.alloc (.cells #[.int .i64 lo, .int .i64 ho] 23) = z := ⟨_, rfl⟩
              rw [hpko] at ko dkBko dkxko dkyko gko
              rw [hW424] at ko U kB kx ky Uz
              go_wp2_with fail
              clear hpko hW424
              refine (Cu.out _ Uz).mono ?_
              rintro e x425 ⟨rfl, u426⟩
              replace U := U.trans u426
              replace kB := u426.blk kB
              replace kx := u426.blk kx
              replace ky := u426.blk ky
              replace ko := u426.blk ko
              replace Uz := Uz.trans u426
              clear u426 
              have dkBku := blk_lt kB
              have dkxku := blk_lt kx
              have dkyku := blk_lt ky
              have dkoku := blk_lt ko
              have gku := U.size
              have ku := blk_new x425 (.cells #[.int .i64 0, .int .i64 0] 23) _ rfl
              replace kB := blk_keep (.cells #[.int .i64 0, .int .i64 0] 23) kB
              replace kx := blk_keep (.cells #[.int .i64 0, .int .i64 0] 23) kx
              replace ky := blk_keep (.cells #[.int .i64 0, .int .i64 0] 23) ky
              replace ko := blk_keep (.cells #[.int .i64 0, .int .i64 0] 23) ko
              replace U := U.alloc (.cells #[.int .i64 0, .int .i64 0] 23)
              replace Uz := Uz.alloc (.cells #[.int .i64 0, .int .i64 0] 23)
              go_wp2_with fail
              obtain ⟨pku, hpku⟩ : ∃ z, x425.heap.size = z := ⟨_, rfl⟩
              obtain ⟨W427, hW427⟩ : ∃ z, x425.alloc (.cells #[.int .i64 0, .int .i64 0] 23) = z := ⟨_, rfl⟩
              rw [hpku] at ku dkBku dkxku dkyku dkoku gku
              rw [hW427] at ku U kB kx ky ko Uz
              rw [hW427, hpku]
              go_wp2_with fail
              clear hpku hW427
              refine (Ct.out _ Uz).mono ?_
              rintro e x428 ⟨rfl, u429⟩
              replace U := U.trans u429
              replace kB := u429.blk kB
              replace kx := u429.blk kx
              replace ky := u429.blk ky
              replace ko := u429.blk ko
              replace ku := u429.blk ku
              replace Uz := Uz.trans u429
              clear u429 
              have dkBkt := blk_lt kB
              have dkxkt := blk_lt kx
              have dkykt := blk_lt ky
              have dkokt := blk_lt ko
              have dkukt := blk_lt ku
              have gkt := U.size
              have kt := blk_new x428 (.cells #[.int .i64 lo, .int .i64 ho] 23) _ rfl
              replace kB := blk_keep (.cells #[.int .i64 lo, .int .i64 ho] 23) kB
              replace kx := blk_keep (.cells #[.int .i64 lo, .int .i64 ho] 23) kx
              replace ky := blk_keep (.cells #[.int .i64 lo, .int .i64 ho] 23) ky
              replace ko := blk_keep (.cells #[.int .i64 lo, .int .i64 ho] 23) ko
              replace ku := blk_keep (.cells #[.int .i64 lo, .int .i64 ho] 23) ku
              replace U := U.alloc (.cells #[.int .i64 lo, .int .i64 ho] 23)
              replace Uz := Uz.alloc (.cells #[.int .i64 lo, .int .i64 ho] 23)
              obtain ⟨pkt, hpkt⟩ : ∃ z, x428.heap.size = z := ⟨_, rfl⟩
              obtain ⟨W430, hW430⟩ : ∃ z, x428.alloc (.cells #[.int .i64 lo, .int .i64 ho] 23) = z := ⟨_, rfl⟩
              rw [hpkt] at kt dkBkt dkxkt dkykt dkokt dkukt gkt
              rw [hW430] at kt U kB kx ky ko ku Uz
              go_wp2_with fail
              clear hpkt hW430
              have F432 := Lib.hid (fun w (u : Up W430 w) => cellB (u.blk kB))
              have F433 := Lib.hid (fun w (u : Up W430 w) => cellB (u.blk kx))
              have F434 := Lib.hid (fun w (u : Up W430 w) => cellB (u.blk ky))
              have F435 := Lib.hid (fun w (u : Up W430 w) => cellB (u.blk ko))
              have F436 := Lib.hid (fun w (u : Up W430 w) => cellB (u.blk ku))
              have F437 := Lib.hid (fun w (u : Up W430 w) => cellB (u.blk kt))
              refine (wpIn_wide (n := 5)).1 ?_
              refine wpIn_nrm ?_
              refine T.regionQ (fun w' => Up W430 w') 14 1 hmx (by kernel_rfl) (by kernel_rfl) ((Up.refl W430).drew) (fun hCl => ?_)
              refine T.qT 0 (some 108) ?v73 rfl rfl hCl ?hy73 (fun hCl' => ?_)
              case hy73 => (intro w hSw; refine T.qVal ?_ hSw; (try dsimp only [List.getElem_toArray, List.getElem_cons_succ, List.getElem_cons_zero]); go_simp; try with_reducible rfl)
              simp only [Act.put, List.setIfInBounds_toArray, List.set_cons_zero, List.set_cons_succ]; replace hCl := hCl'; clear hCl'
              refine T.qT 1 (some 109) ?v74 rfl rfl hCl ?hy74 (fun hCl' => ?_)
              case hy74 => (intro w hSw; refine T.qVal ?_ hSw; (try dsimp only [List.getElem_toArray, List.getElem_cons_succ, List.getElem_cons_zero]); go_simp; try with_reducible rfl)
              simp only [Act.put, List.setIfInBounds_toArray, List.set_cons_zero, List.set_cons_succ]; replace hCl := hCl'; clear hCl'
              refine T.qT 2 (some 110) ?v75 rfl rfl hCl ?hy75 (fun hCl' => ?_)
              case hy75 => (intro w hSw; refine T.qVal ?_ hSw; (try dsimp only [List.getElem_toArray, List.getElem_cons_succ, List.getElem_cons_zero]); go_simp; try with_reducible rfl)
              simp only [Act.put, List.setIfInBounds_toArray, List.set_cons_zero, List.set_cons_succ]; replace hCl := hCl'; clear hCl'
              refine T.qS 3 (some 111) rfl rfl hCl (fun hCl' => ?_)
              simp only [Act.put, List.setIfInBounds_toArray, List.set_cons_zero, List.set_cons_succ]; replace hCl := hCl'; clear hCl'
              refine T.qS 4 (some 112) rfl rfl hCl (fun hCl' => ?_)
              simp only [Act.put, List.setIfInBounds_toArray, List.set_cons_zero, List.set_cons_succ]; replace hCl := hCl'; clear hCl'
              refine T.qT 5 (some 113) ?v78 rfl rfl hCl ?hy78 (fun hCl' => ?_)
              case hy78 => (intro w hSw; refine T.qVal ?_ hSw; (try dsimp only [List.getElem_toArray, List.getElem_cons_succ, List.getElem_cons_zero]); go_simp; try with_reducible rfl)
              simp only [Act.put, List.setIfInBounds_toArray, List.set_cons_zero, List.set_cons_succ]; replace hCl := hCl'; clear hCl'
              refine T.qT 6 (some 114) ?v79 rfl rfl hCl ?hy79 (fun hCl' => ?_)
              case hy79 => (intro w hSw; refine T.qVal ?_ hSw; (try dsimp only [List.getElem_toArray, List.getElem_cons_succ, List.getElem_cons_zero]); go_simp; try with_reducible rfl)
              simp only [Act.put, List.setIfInBounds_toArray, List.set_cons_zero, List.set_cons_succ]; replace hCl := hCl'; clear hCl'
              refine T.qT 7 (some 115) ?v80 rfl rfl hCl ?hy80 (fun hCl' => ?_)
              case hy80 => (intro w hSw; refine T.qVal ?_ hSw; (have fF432 := F432.out w hSw; have fF433 := F433.out w hSw; have fF434 := F434.out w hSw; have fF435 := F435.out w hSw; have fF436 := F436.out w hSw; have fF437 := F437.out w hSw); (try dsimp only [List.getElem_toArray, List.getElem_cons_succ, List.getElem_cons_zero]); go_simp; try with_reducible rfl)
              simp only [Act.put, List.setIfInBounds_toArray, List.set_cons_zero, List.set_cons_succ]; replace hCl := hCl'; clear hCl'
              refine T.qT 8 (some 116) ((SpV 0 0)) rfl rfl hCl ?hy81 (fun hCl' => ?_)
              case hy81 => (intro w hSw; (have fF432 := F432.out w hSw; have fF433 := F433.out w hSw; have fF434 := F434.out w hSw; have fF435 := F435.out w hSw; have fF436 := F436.out w hSw; have fF437 := F437.out w hSw); (try dsimp only [List.getElem_toArray, List.getElem_cons_succ, List.getElem_cons_zero]); go_simp; (refine (callsIn_wide.2 (HTo.out 0 0 w)).mono ?_; rintro e w3 ⟨rfl, u3⟩; exact ⟨rfl, hSw.trans u3⟩))
              simp only [Act.put, List.setIfInBounds_toArray, List.set_cons_zero, List.set_cons_succ]
              replace hCl := hCl'; clear hCl'
              refine T.qT 9 (some 117) ?v82 rfl rfl hCl ?hy82 (fun hCl' => ?_)
              case hy82 => (intro w hSw; refine T.qVal ?_ hSw; (try dsimp only [List.getElem_toArray, List.getElem_cons_succ, List.getElem_cons_zero]); go_simp; try with_reducible rfl)
              simp only [Act.put, List.setIfInBounds_toArray, List.set_cons_zero, List.set_cons_succ]; replace hCl := hCl'; clear hCl'
              refine T.qT 10 (some 118) ?v83 rfl rfl hCl ?hy83 (fun hCl' => ?_)
              case hy83 => (intro w hSw; refine T.qVal ?_ hSw; (try dsimp only [List.getElem_toArray, List.getElem_cons_succ, List.getElem_cons_zero]); go_simp; try with_reducible rfl)
              simp only [Act.put, List.setIfInBounds_toArray, List.set_cons_zero, List.set_cons_succ]; replace hCl := hCl'; clear hCl'
              refine T.qT 11 (some 119) ?v84 rfl rfl hCl ?hy84 (fun hCl' => ?_)
              case hy84 => (intro w hSw; refine T.qVal ?_ hSw; (try dsimp only [List.getElem_toArray, List.getElem_cons_succ, List.getElem_cons_zero]); go_simp; try with_reducible rfl)
              simp only [Act.put, List.setIfInBounds_toArray, List.set_cons_zero, List.set_cons_succ]; replace hCl := hCl'; clear hCl'
              refine T.qT 12 (some 120) ((.bool true)) rfl rfl hCl ?hy85 (fun hCl' => ?_)
              case hy85 => (intro w hSw; (have fF432 := F432.out w hSw; have fF433 := F433.out w hSw; have fF434 := F434.out w hSw; have fF435 := F435.out w hSw; have fF436 := F436.out w hSw; have fF437 := F437.out w hSw); (try dsimp only [List.getElem_toArray, List.getElem_cons_succ, List.getElem_cons_zero]); go_simp; (refine (callsIn_wide.2 (HW.out w)).mono ?_; rintro e w3 ⟨rfl, u3⟩; exact ⟨rfl, hSw.trans u3⟩))
              simp only [Act.put, List.setIfInBounds_toArray, List.set_cons_zero, List.set_cons_succ]
              replace hCl := hCl'; clear hCl'
              refine T.qT 13 (some 121) ?v86 rfl rfl hCl ?hy86 (fun hCl' => ?_)
              case hy86 => (intro w hSw; refine T.qVal ?_ hSw; (try dsimp only [List.getElem_toArray, List.getElem_cons_succ, List.getElem_cons_zero]); go_simp; try with_reducible rfl)
              simp only [Act.put, List.setIfInBounds_toArray, List.set_cons_zero, List.set_cons_succ]; replace hCl := hCl'; clear hCl'
              refine T.tail_intro (by kernel_rfl) (fun Y431 hY431 => ?_)
              replace U := U.trans hY431
              replace kB := hY431.blk kB
              replace kx := hY431.blk kx
              replace ky := hY431.blk ky
              replace ko := hY431.blk ko
              replace ku := hY431.blk ku
              replace kt := hY431.blk kt
              replace Uz := Uz.trans hY431
              clear F432 F433 F434 F435 F436 F437 hY431
              refine lastG (i := 14) (by kernel_rfl) rfl (by rfl) (by decide) (fun K hK => ?_)
              go_simp
              refine hK.out _ _ ?_
              clear hK K
              refine doneG (by kernel_rfl) ?_ _
              refine S.nrm_intro ?_
              go_wp2
              go_ret
              exact ⟨rfl, U⟩
            · skip
              go_wp2_with fail
              refine (Co.out _ U).mono ?_
              rintro e x422 ⟨rfl, u423⟩
              replace U := U.trans u423
              replace kB := u423.blk kB
              replace kx := u423.blk kx
              replace ky := u423.blk ky
              replace Uz := Uz.trans u423
              clear u423 
              have dkBko := blk_lt kB
              have dkxko := blk_lt kx
              have dkyko := blk_lt ky
              have gko := U.size
              have ko := blk_new x422 (.cells #[.int .i64 lo, .int .i64 ho] 23) _ rfl
              replace kB := blk_keep (.cells #[.int .i64 lo, .int .i64 ho] 23) kB
              replace kx := blk_keep (.cells #[.int .i64 lo, .int .i64 ho] 23) kx
              replace ky := blk_keep (.cells #[.int .i64 lo, .int .i64 ho] 23) ky
              replace U := U.alloc (.cells #[.int .i64 lo, .int .i64 ho] 23)
              replace Uz := Uz.alloc (.cells #[.int .i64 lo, .int .i64 ho] 23)
              obtain ⟨pko, hpko⟩ : ∃ z, x422.heap.size = z := ⟨_, rfl⟩
              obtain ⟨W424, hW424⟩ : ∃ z, x422.alloc (.cells #[.int .i64 lo, .int .i64 ho] 23) = z := ⟨_, rfl⟩
              rw [hpko] at ko dkBko dkxko dkyko gko
              rw [hW424] at ko U kB kx ky Uz
              go_wp2_with fail
              clear hpko hW424
              refine (Cu.out _ Uz).mono ?_
              rintro e x425 ⟨rfl, u426⟩
              replace U := U.trans u426
              replace kB := u426.blk kB
              replace kx := u426.blk kx
              replace ky := u426.blk ky
              replace ko := u426.blk ko
              replace Uz := Uz.trans u426
              clear u426 
              have dkBku := blk_lt kB
              have dkxku := blk_lt kx
              have dkyku := blk_lt ky
              have dkoku := blk_lt ko
              have gku := U.size
              have ku := blk_new x425 (.cells #[.int .i64 0, .int .i64 0] 23) _ rfl
              replace kB := blk_keep (.cells #[.int .i64 0, .int .i64 0] 23) kB
              replace kx := blk_keep (.cells #[.int .i64 0, .int .i64 0] 23) kx
              replace ky := blk_keep (.cells #[.int .i64 0, .int .i64 0] 23) ky
              replace ko := blk_keep (.cells #[.int .i64 0, .int .i64 0] 23) ko
              replace U := U.alloc (.cells #[.int .i64 0, .int .i64 0] 23)
              replace Uz := Uz.alloc (.cells #[.int .i64 0, .int .i64 0] 23)
              go_wp2_with fail
              obtain ⟨pku, hpku⟩ : ∃ z, x425.heap.size = z := ⟨_, rfl⟩
              obtain ⟨W427, hW427⟩ : ∃ z, x425.alloc (.cells #[.int .i64 0, .int .i64 0] 23) = z := ⟨_, rfl⟩
              rw [hpku] at ku dkBku dkxku dkyku dkoku gku
              rw [hW427] at ku U kB kx ky ko Uz
              rw [hW427, hpku]
              go_wp2_with fail
              clear hpku hW427
              refine (Ct.out _ Uz).mono ?_
              rintro e x428 ⟨rfl, u429⟩
              replace U := U.trans u429
              replace kB := u429.blk kB
              replace kx := u429.blk kx
              replace ky := u429.blk ky
              replace ko := u429.blk ko
              replace ku := u429.blk ku
              replace Uz := Uz.trans u429
              clear u429 
              have dkBkt := blk_lt kB
              have dkxkt := blk_lt kx
              have dkykt := blk_lt ky
              have dkokt := blk_lt ko
              have dkukt := blk_lt ku
              have gkt := U.size
              have kt := blk_new x428 (.cells #[.int .i64 lo, .int .i64 ho] 23) _ rfl
              replace kB := blk_keep (.cells #[.int .i64 lo, .int .i64 ho] 23) kB
              replace kx := blk_keep (.cells #[.int .i64 lo, .int .i64 ho] 23) kx
              replace ky := blk_keep (.cells #[.int .i64 lo, .int .i64 ho] 23) ky
              replace ko := blk_keep (.cells #[.int .i64 lo, .int .i64 ho] 23) ko
              replace ku := blk_keep (.cells #[.int .i64 lo, .int .i64 ho] 23) ku
              replace U := U.alloc (.cells #[.int .i64 lo, .int .i64 ho] 23)
              replace Uz := Uz.alloc (.cells #[.int .i64 lo, .int .i64 ho] 23)
              obtain ⟨pkt, hpkt⟩ : ∃ z, x428.heap.size = z := ⟨_, rfl⟩
              obtain ⟨W430, hW430⟩ : ∃ z, x428.alloc (.cells #[.int .i64 lo, .int .i64 ho] 23) = z := ⟨_, rfl⟩
              rw [hpkt] at kt dkBkt dkxkt dkykt dkokt dkukt gkt
              rw [hW430] at kt U kB kx ky ko ku Uz
              go_wp2_with fail
              clear hpkt hW430
              have F432 := Lib.hid (fun w (u : Up W430 w) => cellB (u.blk kB))
              have F433 := Lib.hid (fun w (u : Up W430 w) => cellB (u.blk kx))
              have F434 := Lib.hid (fun w (u : Up W430 w) => cellB (u.blk ky))
              have F435 := Lib.hid (fun w (u : Up W430 w) => cellB (u.blk ko))
              have F436 := Lib.hid (fun w (u : Up W430 w) => cellB (u.blk ku))
              have F437 := Lib.hid (fun w (u : Up W430 w) => cellB (u.blk kt))
              refine (wpIn_wide (n := 5)).1 ?_
              refine wpIn_nrm ?_
              refine T.regionQ (fun w' => Up W430 w') 14 1 hmx (by kernel_rfl) (by kernel_rfl) ((Up.refl W430).drew) (fun hCl => ?_)
              refine T.qT 0 (some 108) ?v87 rfl rfl hCl ?hy87 (fun hCl' => ?_)
              case hy87 => (intro w hSw; refine T.qVal ?_ hSw; (try dsimp only [List.getElem_toArray, List.getElem_cons_succ, List.getElem_cons_zero]); go_simp; try with_reducible rfl)
              simp only [Act.put, List.setIfInBounds_toArray, List.set_cons_zero, List.set_cons_succ]; replace hCl := hCl'; clear hCl'
              refine T.qT 1 (some 109) ?v88 rfl rfl hCl ?hy88 (fun hCl' => ?_)
              case hy88 => (intro w hSw; refine T.qVal ?_ hSw; (try dsimp only [List.getElem_toArray, List.getElem_cons_succ, List.getElem_cons_zero]); go_simp; try with_reducible rfl)
              simp only [Act.put, List.setIfInBounds_toArray, List.set_cons_zero, List.set_cons_succ]; replace hCl := hCl'; clear hCl'
              refine T.qT 2 (some 110) ?v89 rfl rfl hCl ?hy89 (fun hCl' => ?_)
              case hy89 => (intro w hSw; refine T.qVal ?_ hSw; (try dsimp only [List.getElem_toArray, List.getElem_cons_succ, List.getElem_cons_zero]); go_simp; try with_reducible rfl)
              simp only [Act.put, List.setIfInBounds_toArray, List.set_cons_zero, List.set_cons_succ]; replace hCl := hCl'; clear hCl'
              refine T.qT 3 (some 111) ?v90 rfl rfl hCl ?hy90 (fun hCl' => ?_)
              case hy90 => (intro w hSw; refine T.qVal ?_ hSw; (try dsimp only [List.getElem_toArray, List.getElem_cons_succ, List.getElem_cons_zero]); go_simp; try with_reducible rfl)
              simp only [Act.put, List.setIfInBounds_toArray, List.set_cons_zero, List.set_cons_succ]; replace hCl := hCl'; clear hCl'
              refine T.qT 4 (some 112) ?v91 rfl rfl hCl ?hy91 (fun hCl' => ?_)
              case hy91 => (intro w hSw; refine T.qVal ?_ hSw; (try dsimp only [List.getElem_toArray, List.getElem_cons_succ, List.getElem_cons_zero]); go_simp; try with_reducible rfl)
              simp only [Act.put, List.setIfInBounds_toArray, List.set_cons_zero, List.set_cons_succ]; replace hCl := hCl'; clear hCl'
              refine T.qT 5 (some 113) ?v92 rfl rfl hCl ?hy92 (fun hCl' => ?_)
              case hy92 => (intro w hSw; refine T.qVal ?_ hSw; (try dsimp only [List.getElem_toArray, List.getElem_cons_succ, List.getElem_cons_zero]); go_simp; try with_reducible rfl)
              simp only [Act.put, List.setIfInBounds_toArray, List.set_cons_zero, List.set_cons_succ]; replace hCl := hCl'; clear hCl'
              refine T.qT 6 (some 114) ?v93 rfl rfl hCl ?hy93 (fun hCl' => ?_)
              case hy93 => (intro w hSw; refine T.qVal ?_ hSw; (try dsimp only [List.getElem_toArray, List.getElem_cons_succ, List.getElem_cons_zero]); go_simp; try with_reducible rfl)
              simp only [Act.put, List.setIfInBounds_toArray, List.set_cons_zero, List.set_cons_succ]; replace hCl := hCl'; clear hCl'
              refine T.qT 7 (some 115) ?v94 rfl rfl hCl ?hy94 (fun hCl' => ?_)
              case hy94 => (intro w hSw; refine T.qVal ?_ hSw; (have fF432 := F432.out w hSw; have fF433 := F433.out w hSw; have fF434 := F434.out w hSw; have fF435 := F435.out w hSw; have fF436 := F436.out w hSw; have fF437 := F437.out w hSw); (try dsimp only [List.getElem_toArray, List.getElem_cons_succ, List.getElem_cons_zero]); go_simp; try with_reducible rfl)
              simp only [Act.put, List.setIfInBounds_toArray, List.set_cons_zero, List.set_cons_succ]; replace hCl := hCl'; clear hCl'
              refine T.qT 8 (some 116) ((SpV 0 0)) rfl rfl hCl ?hy95 (fun hCl' => ?_)
              case hy95 => (intro w hSw; (have fF432 := F432.out w hSw; have fF433 := F433.out w hSw; have fF434 := F434.out w hSw; have fF435 := F435.out w hSw; have fF436 := F436.out w hSw; have fF437 := F437.out w hSw); (try dsimp only [List.getElem_toArray, List.getElem_cons_succ, List.getElem_cons_zero]); go_simp; (refine (callsIn_wide.2 (HTo.out 0 0 w)).mono ?_; rintro e w3 ⟨rfl, u3⟩; exact ⟨rfl, hSw.trans u3⟩))
              simp only [Act.put, List.setIfInBounds_toArray, List.set_cons_zero, List.set_cons_succ]
              replace hCl := hCl'; clear hCl'
              refine T.qT 9 (some 117) ?v96 rfl rfl hCl ?hy96 (fun hCl' => ?_)
              case hy96 => (intro w hSw; refine T.qVal ?_ hSw; (try dsimp only [List.getElem_toArray, List.getElem_cons_succ, List.getElem_cons_zero]); go_simp; try with_reducible rfl)
              simp only [Act.put, List.setIfInBounds_toArray, List.set_cons_zero, List.set_cons_succ]; replace hCl := hCl'; clear hCl'
              refine T.qT 10 (some 118) ?v97 rfl rfl hCl ?hy97 (fun hCl' => ?_)
              case hy97 => (intro w hSw; refine T.qVal ?_ hSw; (try dsimp only [List.getElem_toArray, List.getElem_cons_succ, List.getElem_cons_zero]); go_simp; try with_reducible rfl)
              simp only [Act.put, List.setIfInBounds_toArray, List.set_cons_zero, List.set_cons_succ]; replace hCl := hCl'; clear hCl'
              refine T.qT 11 (some 119) ?v98 rfl rfl hCl ?hy98 (fun hCl' => ?_)
              case hy98 => (intro w hSw; refine T.qVal ?_ hSw; (try dsimp only [List.getElem_toArray, List.getElem_cons_succ, List.getElem_cons_zero]); go_simp; try with_reducible rfl)
              simp only [Act.put, List.setIfInBounds_toArray, List.set_cons_zero, List.set_cons_succ]; replace hCl := hCl'; clear hCl'
              refine T.qT 12 (some 120) ((.bool true)) rfl rfl hCl ?hy99 (fun hCl' => ?_)
              case hy99 => (intro w hSw; (have fF432 := F432.out w hSw; have fF433 := F433.out w hSw; have fF434 := F434.out w hSw; have fF435 := F435.out w hSw; have fF436 := F436.out w hSw; have fF437 := F437.out w hSw); (try dsimp only [List.getElem_toArray, List.getElem_cons_succ, List.getElem_cons_zero]); go_simp; (refine (callsIn_wide.2 (HW.out w)).mono ?_; rintro e w3 ⟨rfl, u3⟩; exact ⟨rfl, hSw.trans u3⟩))
              simp only [Act.put, List.setIfInBounds_toArray, List.set_cons_zero, List.set_cons_succ]
              replace hCl := hCl'; clear hCl'
              refine T.qT 13 (some 121) ?v100 rfl rfl hCl ?hy100 (fun hCl' => ?_)
              case hy100 => (intro w hSw; refine T.qVal ?_ hSw; (try dsimp only [List.getElem_toArray, List.getElem_cons_succ, List.getElem_cons_zero]); go_simp; try with_reducible rfl)
              simp only [Act.put, List.setIfInBounds_toArray, List.set_cons_zero, List.set_cons_succ]; replace hCl := hCl'; clear hCl'
              refine T.tail_intro (by kernel_rfl) (fun Y431 hY431 => ?_)
              replace U := U.trans hY431
              replace kB := hY431.blk kB
              replace kx := hY431.blk kx
              replace ky := hY431.blk ky
              replace ko := hY431.blk ko
              replace ku := hY431.blk ku
              replace kt := hY431.blk kt
              replace Uz := Uz.trans hY431
              clear F432 F433 F434 F435 F436 F437 hY431
              refine lastG (i := 14) (by kernel_rfl) rfl (by rfl) (by decide) (fun K hK => ?_)
              go_simp
              refine hK.out _ _ ?_
              clear hK K
              refine doneG (by kernel_rfl) ?_ _
              refine S.nrm_intro ?_
              go_wp2
              go_ret
              exact ⟨rfl, U⟩
end

end Go.Proofs.Ytlpkheoljbdajaa
