import Derived.Test.YtoipfakcmnjenaaTel
import Derived.Test.YtoipfakcmnjenaaLsy
import Derived.Test.YtoipfakcmnjenaaMay
import Derived.Test.YtoipfakcmnjenaaFst
import Derived.Test.YtoipfakcmnjenaaWdm
/- The law BeatWider. -/
namespace Go.Proofs.Ytoipfakcmnjenaa
open Go.RowKit Go.Shelf
attribute [local go_sem] Oper.semAt_some

theorem cell_int5 {w : World} {b : Nat} {cs : Array Value} (h : mblk w b = some (.cells cs 66 (0, 0))) (j : Nat) : w.cell? ⟨b, j, none⟩ = cs[j]? := cellB h j
attribute [local go_sem] cell_int5
section
variable {aR aO aP : Option Addr} {nR cR nO cO nP cP : Nat} {rs : T.LR} {os : T.LO} {ps : T.LP}
set_option maxRecDepth 100000 in
set_option maxHeartbeats 8000000 in
theorem beatWider_any {Hi n0 n1 n2 n3 n4 : Int} {w : World} (I : Sps w (.slice aR nR cR) rs) (IO : Ops w (.slice aO nO cO) os) (IP : Prs w (.slice aP nP cP) ps) :
    Calls Try.prog 10 #[ClV Hi (.slice aR nR cR) (.slice aO nO cO) (.slice aP nP cP), .agg #[.int .i64 n0, .int .i64 n1, .int .i64 n2, .int .i64 n3, .int .i64 n4]] w fun e w' => e = .returned (.bool true) ∧ Up w w' := by
  have U := ((Up.refl w).alloc (.cells #[.int .i64 Hi, .slice aR nR cR, .slice aO nO cO, .slice aP nP cP] 26)).alloc (.cells #[.int .i64 n0, .int .i64 n1, .int .i64 n2, .int .i64 n3, .int .i64 n4] 66)
  have HW := Lib.hid (fun w => l_works_any w)
  cases hv : T.valid Hi rs os ps with
  | false =>
    have HS := Lib.hid (fun w' (u : Up w w') => l_sound_no (I.up u) (IO.up u) (IP.up u) hv)
    clear hv I IO IP
    go_enter Try.func10, Try.ntmps10
    go_wp2_with fail
    refine (HS.out _ U).mono ?_
    rintro e w1 ⟨rfl, u1⟩
    go_wp2_with fail
    refine (HW.out _).mono ?_
    rintro e w2 ⟨rfl, u2⟩
    go_wp2
    go_ret
    exact ⟨rfl, (U.trans u1).trans u2⟩
  | true =>
    obtain ⟨H, rfl⟩ := T.valid_nat hv
    have G := T.valid_good.1 hv
    have hn := I.len
    subst hn
    have hno := IO.len
    subst hno
    have hnp := IP.len
    subst hnp
    have q1 := G.h1
    have q2 := G.h2
    have q3 := G.r1
    have q4 := G.r2
    have q5 := G.o6
    have q6 := G.p14
    obtain ⟨a', c', e', _, _, hm⟩ := I.is
    injection e' with ea eb ec
    clear eb ec
    obtain ⟨gR, oR, ga, glR, hxR⟩ := hm (by omega)
    subst ea ga
    clear hm
    have HS := Lib.hid (fun w' (u : Up w w') => l_sound_yes (I.up u) (IO.up u) (IP.up u) hv)
    have HI := Lib.hid (fun w' (u : Up w w') => I.up u)
    have HO := Lib.hid (fun w' (u : Up w w') => IO.up u)
    have HP := Lib.hid (fun w' (u : Up w w') => IP.up u)
    have HxR := Lib.hid (And.intro glR hxR)
    clear glR hxR
    have HRk := Lib.hid (fun w => B_Rest_any n3 (rs.length : Int) w (by omega) (by omega))
    have ak := Int.emod_nonneg n3 (b := (rs.length : Int)) (by omega)
    have bk := Int.emod_lt_of_pos n3 (b := (rs.length : Int)) (by omega)
    generalize n3 % (rs.length : Int) = k at *
    have HRh := Lib.hid (fun w => B_Rest_any n4 ((H : Int) + 1) w (by omega) (by omega))
    have ah := Int.emod_nonneg n4 (b := ((H : Int) + 1)) (by omega)
    have bh := Int.emod_lt_of_pos n4 (b := ((H : Int) + 1)) (by omega)
    generalize n4 % ((H : Int) + 1) = h at *
    have HRbq := Lib.hid (fun w => B_Rest_any n1 (20 : Int) w (by omega) (by omega))
    have abq := Int.emod_nonneg n1 (b := (20 : Int)) (by omega)
    have bbq := Int.emod_lt_of_pos n1 (b := (20 : Int)) (by omega)
    generalize n1 % (20 : Int) = bq at *
    have HRcc := Lib.hid (fun w => B_Rest_any n0 (3 : Int) w (by omega) (by omega))
    have acc := Int.emod_nonneg n0 (b := (3 : Int)) (by omega)
    have bcc := Int.emod_lt_of_pos n0 (b := (3 : Int)) (by omega)
    generalize n0 % (3 : Int) = cc at *
    have wH : IntKind.i64.wrap ((H : Int) + 1) = (H : Int) + 1 := IntWalk.i64_in _ (by omega)
    have hmx : Try.prog.follows .mixedOrders = true := by kernel_rfl
    have mk := T.mom_in (n := rs.length) (H := H) (k := k) (h := h) ⟨ak, bk⟩ ⟨ah, by omega⟩
    have m0 := T.mom_in (n := rs.length) (H := H) (k := 0) (h := h) ⟨Int.le_refl _, by omega⟩ ⟨ah, by omega⟩
    obtain ⟨ls, hs, es, ts⟩ := T.Tells.ex (m1 := (k, h)) (m2 := (-1, 0)) G mk T.mom_0
    obtain ⟨lu, hu, eu, tu⟩ := T.Tells.ex (m1 := (k, h)) (m2 := (0, h)) G mk m0
    obtain rfl := ts.same tu
    have Cs := Lib.hid (fun w' (u : Up w w') => Offset_tells G ⟨ak, bk⟩ ⟨ah, (show h ≤ (H : Int) by omega)⟩ ts (I.up u) (IO.up u) (IP.up u))
    have Cu := Lib.hid (fun w' (u : Up w w') => Apart_tells G ⟨ak, bk⟩ ⟨Int.le_refl 0, (show (0 : Int) < rs.length by omega)⟩ ⟨ah, (show h ≤ (H : Int) by omega)⟩ tu (I.up u) (IO.up u) (IP.up u))
    have HG := Lib.hid (And.intro G (And.intro ts tu))
    have HQ := Lib.hid (And.intro (And.intro ak bk) (And.intro ah bh))
    have HTo := Lib.hid (fun l h w => B_To_any l h w)
    have HWi := Lib.hid (fun l h l' h' w (p : l' ≤ l ∧ h ≤ h') => show Calls Try.prog 36 #[SpV l h, SpV l' h'] w fun e w' => e = .returned (.bool true) ∧ Up w w' by rw [← decide_eq_true p]; exact B_Within_any _ _ _ _ w)
    clear ts tu mk m0 hv G
    clear I IO IP
    have hcc : cc = 0 ∨ cc = 1 ∨ cc = 2 := by omega
    clear acc bcc ak bk ah bh
    rcases hcc with rfl | rfl | rfl
    · skip
      have HRz := Lib.hid (fun w => B_Rest_any n2 (rs.length : Int) w (by omega) (by omega))
      have az := Int.emod_nonneg n2 (b := (rs.length : Int)) (by omega)
      have bz := Int.emod_lt_of_pos n2 (b := (rs.length : Int)) (by omega)
      generalize n2 % (rs.length : Int) = kk at *
      obtain ⟨kk, rfl⟩ := Int.eq_ofNat_of_zero_le az
      have hkk : kk < rs.length := by omega
      have hbs := HG.out.1.rsB (rs.getD kk (0, 0)) (by rw [List.getD_eq_getElem?_getD, List.getElem?_eq_getElem hkk]; exact List.getElem_mem _)
      obtain ⟨⟨r0, r1⟩, hss⟩ : ∃ s, rs.getD kk (0, 0) = s := ⟨_, rfl⟩
      have HcR := Lib.hid (fun w' (u : Up w w') => And.intro (show w'.cell? ⟨gR, oR + kk * 2, none⟩ = some (.int .i64 r0) by have := HxR.out.2 kk hkk 0 (by omega); rw [hss] at this; exact (u.facts.1 gR _ HxR.out.1).trans this) (show w'.cell? ⟨gR, oR + kk * 2 + 1, none⟩ = some (.int .i64 r1) by have := HxR.out.2 kk hkk 1 (by omega); rw [hss] at this; exact (u.facts.1 gR _ HxR.out.1).trans this))
      rw [hss] at hbs
      obtain ⟨l', hl⟩ : ∃ z, max (-1000) (r0 - bq) = z := ⟨_, rfl⟩
      obtain ⟨h', hh⟩ : ∃ z, min 1000 (r1 + bq) = z := ⟨_, rfl⟩
      have hMx := max_run hl
      have hMn := min_run hh
      have hb1 : (-1000 ≤ r0 ∧ r0 ≤ 1000) ∧ (-1000 ≤ r1 ∧ r1 ≤ 1000) := hbs.1
      have hb2 : r0 ≤ r1 := hbs.2
      have z0 : IntKind.i64.wrap (r0 - bq) = r0 - bq := IntWalk.i64_in _ (by omega)
      have z1 : IntKind.i64.wrap (r1 + bq) = r1 + bq := IntWalk.i64_in _ (by omega)
      have G' : T.Good H (rs.set kk (l', h')) os ps := T.good_rates HG.out.1 (show T.Bs 1000 (l', h') ∧ l' ≤ h' from ⟨⟨⟨by show -1000 ≤ l'; omega, by show l' ≤ 1000; omega⟩, by show -1000 ≤ h'; omega, by show h' ≤ 1000; omega⟩, by omega⟩)
      have hm' : ∀ y, T.Tr H rs os ps y → T.Tr H (rs.set kk (l', h')) os ps y := fun y hy => T.wd_rates hkk (by rw [hss]; exact ⟨by show l' ≤ r0; omega, by show r1 ≤ h'; omega⟩) hy
      have HGM := Lib.hid (And.intro G' hm')
      clear G' hm' hbs hb1 hb2 hl hh abq bbq
      go_enter Try.func10, Try.ntmps10
      obtain ⟨q0, e0⟩ : ∃ x, w.heap.size = x := ⟨_, rfl⟩
      have kC := blk_keep (.cells #[.int .i64 n0, .int .i64 n1, .int .i64 n2, .int .i64 n3, .int .i64 n4] 66) (blk_new w (.cells #[.int .i64 H, .slice (some ⟨gR, oR, none⟩) rs.length cR, .slice aO os.length cO, .slice aP ps.length cP] 26) q0 e0.symm)
      have kN := blk_new (w.alloc (.cells #[.int .i64 H, .slice (some ⟨gR, oR, none⟩) rs.length cR, .slice aO os.length cO, .slice aP ps.length cP] 26)) (.cells #[.int .i64 n0, .int .i64 n1, .int .i64 n2, .int .i64 n3, .int .i64 n4] 66) (q0 + 1) (by simp [e0])
      go_wp2_with fail
      refine (HS.out _ U).mono ?_
      rintro e x1 ⟨rfl, u2⟩
      replace U := U.trans u2
      replace kC := u2.blk kC
      replace kN := u2.blk kN
      clear u2 HS
      have i0 := kC
      have i1 := kN
      have dkCkx := blk_lt kC
      have dkNkx := blk_lt kN
      have gkx := U.size
      have kx := blk_new x1 (.cells #[.int .i64 H, .slice (some ⟨gR, oR, none⟩) rs.length cR, .slice aO os.length cO, .slice aP ps.length cP] 26) _ rfl
      replace kC := blk_keep (.cells #[.int .i64 H, .slice (some ⟨gR, oR, none⟩) rs.length cR, .slice aO os.length cO, .slice aP ps.length cP] 26) kC
      replace kN := blk_keep (.cells #[.int .i64 H, .slice (some ⟨gR, oR, none⟩) rs.length cR, .slice aO os.length cO, .slice aP ps.length cP] 26) kN
      replace U := U.alloc (.cells #[.int .i64 H, .slice (some ⟨gR, oR, none⟩) rs.length cR, .slice aO os.length cO, .slice aP ps.length cP] 26)
      obtain ⟨pkx, hpkx⟩ : ∃ z, x1.heap.size = z := ⟨_, rfl⟩
      obtain ⟨W3, hW3⟩ : ∃ z, x1.alloc (.cells #[.int .i64 H, .slice (some ⟨gR, oR, none⟩) rs.length cR, .slice aO os.length cO, .slice aP ps.length cP] 26) = z := ⟨_, rfl⟩
      rw [hpkx] at kx dkCkx dkNkx gkx
      rw [hW3] at kx U kC kN
      go_wp2_with fail
      clear hpkx hW3
      clear i0 i1
      refine (HRbq.out _).mono ?_
      rintro e x4 ⟨rfl, rfl⟩
      clear HRbq
      go_wp2_with fail
      refine (HRcc.out _).mono ?_
      rintro e x5 ⟨rfl, rfl⟩
      clear HRcc
      go_wp2_with fail
      refine (HRz.out _).mono ?_
      rintro e x6 ⟨rfl, rfl⟩
      clear HRz az
      have own0 := World.ownsRow_lit (base := W3.heap.size) (e := 34) (size := 2) W3 #[] 0 (Nat.le_refl _) (by unfold maxLen; omega) rfl
      obtain ⟨pe, hpe⟩ : ∃ z, W3.heap.size = z := ⟨_, rfl⟩
      have IX1 := HI.out _ (U.alloc (.cells #[] 34))
      have U1 := U.alloc (.cells #[] 34)
      have jkC := blk_keep (.cells #[] 34) kC
      have lkC := blk_lt kC
      have jkN := blk_keep (.cells #[] 34) kN
      have lkN := blk_lt kN
      have jkx := blk_keep (.cells #[] 34) kx
      have lkx := blk_lt kx
      rw [hpe] at own0 lkC lkN lkx
      have gw := U.size
      rw [hpe] at gw
      go_wp2_with (at_builtin; refine T.wpList_app (ys := []) T.elS rfl (.tmp 81) (.tmp 83) rfl IX1 rfl pe _ 0 rfl own0 (by omega) (by omega) (by simp [hpe]) ?_; intro v1 w1 own1 grow1; rw [Nat.zero_add] at own1; have rkC := grown_blk grow1 jkC (row_block own0 lkC); have rkN := grown_blk grow1 jkN (row_block own0 lkN); have rkx := grown_blk grow1 jkx (row_block own0 lkx); have U2 : Up w w1 := U1.grown grow1 (fun k e => by (have := row_base own0 k e; omega)); obtain ⟨g2, c2, cur, rfl, hg2, kg, hc2, hm2, hz2⟩ := row_open own1 (by omega); have zx := frozB rkx; have x3 := blk_put rkx 1 (.slice (some ⟨g2, 0, none⟩) rs.length c2))
      obtain ⟨W7, hW7⟩ : ∃ z, w1.setCell ⟨pkx, 1, none⟩ (.slice (some ⟨g2, 0, none⟩) rs.length c2) = z := ⟨_, rfl⟩
      have ltg : pkx < g2 := by omega
      have own3 : W7.ownsRow pe 34 2 (.slice (some ⟨g2, 0, none⟩) rs.length c2) rs.length (T.flat 2 T.encS rs) := by
        rw [← hW7]
        exact row_other own1 (grown_set w1 pkx 1 _) (row_block own1 lkx)
      have IX2 : Tab 2 T.encS (0, 0) W7 (.slice (some ⟨g2, 0, none⟩) rs.length c2) rs := Tab.of_row own3 (by decide) (by omega)
      have U4 : Up w W7 := by rw [← hW7]; exact U2.set (p := ⟨pkx, 1, none⟩) (show w.heap.size ≤ pkx by omega) _
      have jg : mblk W7 g2 = some (.cells cur 34 (0, 0)) := by rw [← hW7, blk_set _ _ _ _ (by show g2 ≠ pkx; omega)]; exact kg
      have jx4 : mblk W7 pkx = some (.cells #[.int .i64 H, .slice (some ⟨g2, 0, none⟩) rs.length c2, .slice aO os.length cO, .slice aP ps.length cP] 26 (0, 0)) := by rw [← hW7]; exact x3
      have ykC : mblk W7 (q0) = some (.cells #[.int .i64 H, .slice (some ⟨gR, oR, none⟩) rs.length cR, .slice aO os.length cO, .slice aP ps.length cP] 26 (0, 0)) := by rw [← hW7, blk_set _ _ _ _ (by show q0 ≠ pkx; omega)]; exact rkC
      have ykN : mblk W7 (q0 + 1) = some (.cells #[.int .i64 n0, .int .i64 n1, .int .i64 n2, .int .i64 n3, .int .i64 n4] 66 (0, 0)) := by rw [← hW7, blk_set _ _ _ _ (by show q0 + 1 ≠ pkx; omega)]; exact rkN
      have dgkC : q0 < g2 := by omega
      have dgkN : q0 + 1 < g2 := by omega
      rw [hW7]
      clear hW7 x3 zx kg own1 own3 U2 U1 own0 IX1 grow1 U hpe rkC jkC kC rkN jkN kN rkx jkx kx
      have U := U4
      have kx := jx4
      have kg := jg
      clear U4 jx4 jg
      have kC := ykC
      clear ykC
      have kN := ykN
      clear ykN
      obtain ⟨d0, d1⟩ := HcR.out _ U
      obtain ⟨_, _, e'', _, _, hmx2⟩ := IX2.is
      injection e'' with ea eb ec
      obtain ⟨_, _, ga, glg, hxg⟩ := hmx2 (by omega)
      rw [← ea] at ga
      injection ga with ga
      injection ga with ga gb
      subst ga gb
      have g0 := hxg kk hkk 0 (by omega)
      have g1 := hxg kk hkk 1 (by omega)
      rw [hss] at g0 g1
      rw [Nat.zero_add] at g0 g1
      replace g0 : W7.cell? ⟨g2, kk * 2, none⟩ = some (.int .i64 r0) := g0
      replace g1 : W7.cell? ⟨g2, kk * 2 + 1, none⟩ = some (.int .i64 r1) := g1
      clear hmx2 hxg ea eb ec d0 d1
      have ikk : (kk : Int) < (rs.length : Int) := by omega
      have HU := Lib.hid U
      have lg2 : g2 < W7.heap.size := blk_lt kg
      have Fg := Lib.hid (fun w (u : Up W7 w) => cellB (u.blk kg))
      have F9 := Lib.hid (fun w (u : Up W7 w) => cellB (u.blk kC))
      have F10 := Lib.hid (fun w (u : Up W7 w) => cellB (u.blk kN))
      have F11 := Lib.hid (fun w (u : Up W7 w) => cellB (u.blk kx))
      refine (wpIn_wide (n := 5)).1 ?_
      refine wpIn_nrm ?_
      refine T.regionQ (fun w' => Up W7 w') 23 1 hmx (by kernel_rfl) (by kernel_rfl) ((Up.refl W7).drew) (fun hCl => ?_)
      refine T.qTake (i := 0) (d := (some 86)) (v := ?v1) rfl rfl (by kernel_rfl) (by decide) hCl (by kernel_rfl) (by kernel_rfl) (by kernel_rfl) (by rfl) ?hy1 (fun _ _ _ => trivial) (fun hCl' => ?_)
      case hy1 => (intro w hSw; refine T.qVal ?_ hSw; (have fF9 := F9.out w hSw; have fF10 := F10.out w hSw; have fF11 := F11.out w hSw; have fFg := Fg.out w hSw; obtain ⟨d0, d1⟩ := HcR.out _ (HU.out.trans hSw)); (try dsimp only [List.getElem_toArray, List.getElem_cons_succ, List.getElem_cons_zero]); go_simp; try with_reducible rfl)
      simp only [Act.put, List.setIfInBounds_toArray, List.set_cons_zero, List.set_cons_succ]
      replace hCl := hCl'; clear hCl'
      refine T.qTake (i := 2) (d := (some 88)) (v := ?v2) rfl rfl (by kernel_rfl) (by decide) hCl (by kernel_rfl) (by kernel_rfl) (by kernel_rfl) (by rfl) ?hy2 (fun _ _ _ => trivial) (fun hCl' => ?_)
      case hy2 => (intro w hSw; refine T.qVal ?_ hSw; (have fF9 := F9.out w hSw; have fF10 := F10.out w hSw; have fF11 := F11.out w hSw; have fFg := Fg.out w hSw; obtain ⟨d0, d1⟩ := HcR.out _ (HU.out.trans hSw)); (try dsimp only [List.getElem_toArray, List.getElem_cons_succ, List.getElem_cons_zero]); go_simp; try with_reducible rfl)
      simp only [Act.put, List.setIfInBounds_toArray, List.set_cons_zero, List.set_cons_succ]
      replace hCl := hCl'; clear hCl'
      refine T.qTake (i := 3) (d := (some 89)) (v := ?v3) rfl rfl (by kernel_rfl) (by decide) hCl (by kernel_rfl) (by kernel_rfl) (by kernel_rfl) (by rfl) ?hy3 (fun _ _ _ => trivial) (fun hCl' => ?_)
      case hy3 => (intro w hSw; refine T.qVal ?_ hSw; (have fF9 := F9.out w hSw; have fF10 := F10.out w hSw; have fF11 := F11.out w hSw; have fFg := Fg.out w hSw; obtain ⟨d0, d1⟩ := HcR.out _ (HU.out.trans hSw)); (try dsimp only [List.getElem_toArray, List.getElem_cons_succ, List.getElem_cons_zero]); go_simp; try with_reducible rfl)
      simp only [Act.put, List.setIfInBounds_toArray, List.set_cons_zero, List.set_cons_succ]
      replace hCl := hCl'; clear hCl'
      refine T.qTake (i := 5) (d := (some 91)) (v := ?v4) rfl rfl (by kernel_rfl) (by decide) hCl (by kernel_rfl) (by kernel_rfl) (by kernel_rfl) (by rfl) ?hy4 (fun _ _ _ => trivial) (fun hCl' => ?_)
      case hy4 => (intro w hSw; refine T.qVal ?_ hSw; (have fF9 := F9.out w hSw; have fF10 := F10.out w hSw; have fF11 := F11.out w hSw; have fFg := Fg.out w hSw; obtain ⟨d0, d1⟩ := HcR.out _ (HU.out.trans hSw)); (try dsimp only [List.getElem_toArray, List.getElem_cons_succ, List.getElem_cons_zero]); go_simp; try with_reducible rfl)
      simp only [Act.put, List.setIfInBounds_toArray, List.set_cons_zero, List.set_cons_succ]
      replace hCl := hCl'; clear hCl'
      refine T.qTake (i := 9) (d := (some 95)) (v := ?v5) rfl rfl (by kernel_rfl) (by decide) hCl (by kernel_rfl) (by kernel_rfl) (by kernel_rfl) (by rfl) ?hy5 (fun _ _ _ => trivial) (fun hCl' => ?_)
      case hy5 => (intro w hSw; refine T.qVal ?_ hSw; (have fF9 := F9.out w hSw; have fF10 := F10.out w hSw; have fF11 := F11.out w hSw; have fFg := Fg.out w hSw; obtain ⟨d0, d1⟩ := HcR.out _ (HU.out.trans hSw)); (try dsimp only [List.getElem_toArray, List.getElem_cons_succ, List.getElem_cons_zero]); go_simp; try with_reducible rfl)
      simp only [Act.put, List.setIfInBounds_toArray, List.set_cons_zero, List.set_cons_succ]
      replace hCl := hCl'; clear hCl'
      refine T.qTake (i := 12) (d := (some 98)) (v := ?v6) rfl rfl (by kernel_rfl) (by decide) hCl (by kernel_rfl) (by kernel_rfl) (by kernel_rfl) (by rfl) ?hy6 (fun _ _ _ => trivial) (fun hCl' => ?_)
      case hy6 => (intro w hSw; refine T.qVal ?_ hSw; (have fF9 := F9.out w hSw; have fF10 := F10.out w hSw; have fF11 := F11.out w hSw; have fFg := Fg.out w hSw; obtain ⟨d0, d1⟩ := HcR.out _ (HU.out.trans hSw)); (try dsimp only [List.getElem_toArray, List.getElem_cons_succ, List.getElem_cons_zero]); go_simp; try with_reducible rfl)
      simp only [Act.put, List.setIfInBounds_toArray, List.set_cons_zero, List.set_cons_succ]
      replace hCl := hCl'; clear hCl'
      refine T.qTake (i := 14) (d := (some 100)) (v := ?v7) rfl rfl (by kernel_rfl) (by decide) hCl (by kernel_rfl) (by kernel_rfl) (by kernel_rfl) (by rfl) ?hy7 (fun _ _ _ => trivial) (fun hCl' => ?_)
      case hy7 => (intro w hSw; refine T.qVal ?_ hSw; (have fF9 := F9.out w hSw; have fF10 := F10.out w hSw; have fF11 := F11.out w hSw; have fFg := Fg.out w hSw; obtain ⟨d0, d1⟩ := HcR.out _ (HU.out.trans hSw)); (try dsimp only [List.getElem_toArray, List.getElem_cons_succ, List.getElem_cons_zero]); go_simp; try with_reducible rfl)
      simp only [Act.put, List.setIfInBounds_toArray, List.set_cons_zero, List.set_cons_succ]
      replace hCl := hCl'; clear hCl'
      refine T.qTake (i := 18) (d := (some 104)) (v := ?v8) rfl rfl (by kernel_rfl) (by decide) hCl (by kernel_rfl) (by kernel_rfl) (by kernel_rfl) (by rfl) ?hy8 (fun _ _ _ => trivial) (fun hCl' => ?_)
      case hy8 => (intro w hSw; refine T.qVal ?_ hSw; (have fF9 := F9.out w hSw; have fF10 := F10.out w hSw; have fF11 := F11.out w hSw; have fFg := Fg.out w hSw; obtain ⟨d0, d1⟩ := HcR.out _ (HU.out.trans hSw)); (try dsimp only [List.getElem_toArray, List.getElem_cons_succ, List.getElem_cons_zero]); go_simp; try with_reducible rfl)
      simp only [Act.put, List.setIfInBounds_toArray, List.set_cons_zero, List.set_cons_succ]
      replace hCl := hCl'; clear hCl'
      refine T.qTake (i := 1) (d := (some 87)) (v := ?v9) rfl rfl (by kernel_rfl) (by decide) hCl (by kernel_rfl) (by kernel_rfl) (by kernel_rfl) (by rfl) ?hy9 (fun _ _ _ => trivial) (fun hCl' => ?_)
      case hy9 => (intro w hSw; refine T.qVal ?_ hSw; (have fF9 := F9.out w hSw; have fF10 := F10.out w hSw; have fF11 := F11.out w hSw; have fFg := Fg.out w hSw; obtain ⟨d0, d1⟩ := HcR.out _ (HU.out.trans hSw)); (try dsimp only [List.getElem_toArray, List.getElem_cons_succ, List.getElem_cons_zero]); go_simp; try with_reducible rfl)
      simp only [Act.put, List.setIfInBounds_toArray, List.set_cons_zero, List.set_cons_succ]
      replace hCl := hCl'; clear hCl'
      refine T.qTake (i := 4) (d := (some 90)) (v := ?v10) rfl rfl (by kernel_rfl) (by decide) hCl (by kernel_rfl) (by kernel_rfl) (by kernel_rfl) (by rfl) ?hy10 (fun _ _ _ => trivial) (fun hCl' => ?_)
      case hy10 => (intro w hSw; refine T.qVal ?_ hSw; (have fF9 := F9.out w hSw; have fF10 := F10.out w hSw; have fF11 := F11.out w hSw; have fFg := Fg.out w hSw; obtain ⟨d0, d1⟩ := HcR.out _ (HU.out.trans hSw)); (try dsimp only [List.getElem_toArray, List.getElem_cons_succ, List.getElem_cons_zero]); go_simp; try with_reducible rfl)
      simp only [Act.put, List.setIfInBounds_toArray, List.set_cons_zero, List.set_cons_succ]
      replace hCl := hCl'; clear hCl'
      refine T.qTake (i := 13) (d := (some 99)) (v := ?v11) rfl rfl (by kernel_rfl) (by decide) hCl (by kernel_rfl) (by kernel_rfl) (by kernel_rfl) (by rfl) ?hy11 (fun _ _ _ => trivial) (fun hCl' => ?_)
      case hy11 => (intro w hSw; refine T.qVal ?_ hSw; (have fF9 := F9.out w hSw; have fF10 := F10.out w hSw; have fF11 := F11.out w hSw; have fFg := Fg.out w hSw; obtain ⟨d0, d1⟩ := HcR.out _ (HU.out.trans hSw)); (try dsimp only [List.getElem_toArray, List.getElem_cons_succ, List.getElem_cons_zero]); go_simp; try with_reducible rfl)
      simp only [Act.put, List.setIfInBounds_toArray, List.set_cons_zero, List.set_cons_succ]
      replace hCl := hCl'; clear hCl'
      refine T.qTake (i := 6) (d := (some 92)) (v := ?v12) rfl rfl (by kernel_rfl) (by decide) hCl (by kernel_rfl) (by kernel_rfl) (by kernel_rfl) (by rfl) ?hy12 (fun _ _ _ => trivial) (fun hCl' => ?_)
      case hy12 => (intro w hSw; refine T.qVal ?_ hSw; (have fF9 := F9.out w hSw; have fF10 := F10.out w hSw; have fF11 := F11.out w hSw; have fFg := Fg.out w hSw; obtain ⟨d0, d1⟩ := HcR.out _ (HU.out.trans hSw)); (try dsimp only [List.getElem_toArray, List.getElem_cons_succ, List.getElem_cons_zero]); go_simp; try with_reducible rfl)
      simp only [Act.put, List.setIfInBounds_toArray, List.set_cons_zero, List.set_cons_succ]
      replace hCl := hCl'; clear hCl'
      refine T.qTake (i := 15) (d := (some 101)) (v := ?v13) rfl rfl (by kernel_rfl) (by decide) hCl (by kernel_rfl) (by kernel_rfl) (by kernel_rfl) (by rfl) ?hy13 (fun _ _ _ => trivial) (fun hCl' => ?_)
      case hy13 => (intro w hSw; refine T.qVal ?_ hSw; (have fF9 := F9.out w hSw; have fF10 := F10.out w hSw; have fF11 := F11.out w hSw; have fFg := Fg.out w hSw; obtain ⟨d0, d1⟩ := HcR.out _ (HU.out.trans hSw)); (try dsimp only [List.getElem_toArray, List.getElem_cons_succ, List.getElem_cons_zero]); go_simp; try with_reducible rfl)
      simp only [Act.put, List.setIfInBounds_toArray, List.set_cons_zero, List.set_cons_succ]
      replace hCl := hCl'; clear hCl'
      refine T.qTake (i := 7) (d := (some 93)) (v := ?v14) rfl rfl (by kernel_rfl) (by decide) hCl (by kernel_rfl) (by kernel_rfl) (by kernel_rfl) (by rfl) ?hy14 (fun _ _ _ => trivial) (fun hCl' => ?_)
      case hy14 => (intro w hSw; refine T.qVal ?_ hSw; (have fF9 := F9.out w hSw; have fF10 := F10.out w hSw; have fF11 := F11.out w hSw; have fFg := Fg.out w hSw; obtain ⟨d0, d1⟩ := HcR.out _ (HU.out.trans hSw)); (try dsimp only [List.getElem_toArray, List.getElem_cons_succ, List.getElem_cons_zero]); go_simp; try with_reducible rfl)
      simp only [Act.put, List.setIfInBounds_toArray, List.set_cons_zero, List.set_cons_succ]
      replace hCl := hCl'; clear hCl'
      refine T.qTake (i := 16) (d := (some 102)) (v := ?v15) rfl rfl (by kernel_rfl) (by decide) hCl (by kernel_rfl) (by kernel_rfl) (by kernel_rfl) (by rfl) ?hy15 (fun _ _ _ => trivial) (fun hCl' => ?_)
      case hy15 => (intro w hSw; refine T.qVal ?_ hSw; (have fF9 := F9.out w hSw; have fF10 := F10.out w hSw; have fF11 := F11.out w hSw; have fFg := Fg.out w hSw; obtain ⟨d0, d1⟩ := HcR.out _ (HU.out.trans hSw)); (try dsimp only [List.getElem_toArray, List.getElem_cons_succ, List.getElem_cons_zero]); go_simp; try with_reducible rfl)
      simp only [Act.put, List.setIfInBounds_toArray, List.set_cons_zero, List.set_cons_succ]
      replace hCl := hCl'; clear hCl'
      refine T.qTake (i := 8) (d := (some 94)) (v := ?v16) rfl rfl (by kernel_rfl) (by decide) hCl (by kernel_rfl) (by kernel_rfl) (by kernel_rfl) (by rfl) ?hy16 (fun _ _ _ => trivial) (fun hCl' => ?_)
      case hy16 => (intro w hSw; refine T.qVal ?_ hSw; (have fF9 := F9.out w hSw; have fF10 := F10.out w hSw; have fF11 := F11.out w hSw; have fFg := Fg.out w hSw; obtain ⟨d0, d1⟩ := HcR.out _ (HU.out.trans hSw)); (try dsimp only [List.getElem_toArray, List.getElem_cons_succ, List.getElem_cons_zero]); go_simp; try with_reducible rfl)
      simp only [Act.put, List.setIfInBounds_toArray, List.set_cons_zero, List.set_cons_succ]
      replace hCl := hCl'; clear hCl'
      refine T.qTake (i := 17) (d := (some 103)) (v := ?v17) rfl rfl (by kernel_rfl) (by decide) hCl (by kernel_rfl) (by kernel_rfl) (by kernel_rfl) (by rfl) ?hy17 (fun _ _ _ => trivial) (fun hCl' => ?_)
      case hy17 => (intro w hSw; refine T.qVal ?_ hSw; (have fF9 := F9.out w hSw; have fF10 := F10.out w hSw; have fF11 := F11.out w hSw; have fFg := Fg.out w hSw; obtain ⟨d0, d1⟩ := HcR.out _ (HU.out.trans hSw)); (try dsimp only [List.getElem_toArray, List.getElem_cons_succ, List.getElem_cons_zero]); go_simp; try with_reducible rfl)
      simp only [Act.put, List.setIfInBounds_toArray, List.set_cons_zero, List.set_cons_succ]
      replace hCl := hCl'; clear hCl'
      refine T.qTake (i := 10) (d := (some 96)) (v := ?v18) rfl rfl (by kernel_rfl) (by decide) hCl (by kernel_rfl) (by kernel_rfl) (by kernel_rfl) (by rfl) ?hy18 (fun _ _ _ => trivial) (fun hCl' => ?_)
      case hy18 => (intro w hSw; refine T.qVal ?_ hSw; (have fF9 := F9.out w hSw; have fF10 := F10.out w hSw; have fF11 := F11.out w hSw; have fFg := Fg.out w hSw; obtain ⟨d0, d1⟩ := HcR.out _ (HU.out.trans hSw)); (try dsimp only [List.getElem_toArray, List.getElem_cons_succ, List.getElem_cons_zero]); go_simp; try with_reducible rfl)
      simp only [Act.put, List.setIfInBounds_toArray, List.set_cons_zero, List.set_cons_succ]
      replace hCl := hCl'; clear hCl'
      refine T.qTake (i := 19) (d := (some 105)) (v := ?v19) rfl rfl (by kernel_rfl) (by decide) hCl (by kernel_rfl) (by kernel_rfl) (by kernel_rfl) (by rfl) ?hy19 (fun _ _ _ => trivial) (fun hCl' => ?_)
      case hy19 => (intro w hSw; refine T.qVal ?_ hSw; (have fF9 := F9.out w hSw; have fF10 := F10.out w hSw; have fF11 := F11.out w hSw; have fFg := Fg.out w hSw; obtain ⟨d0, d1⟩ := HcR.out _ (HU.out.trans hSw)); (try dsimp only [List.getElem_toArray, List.getElem_cons_succ, List.getElem_cons_zero]); go_simp; try with_reducible rfl)
      simp only [Act.put, List.setIfInBounds_toArray, List.set_cons_zero, List.set_cons_succ]
      replace hCl := hCl'; clear hCl'
      refine T.qTake (i := 11) (d := (some 97)) (v := ?v20) rfl rfl (by kernel_rfl) (by decide) hCl (by kernel_rfl) (by kernel_rfl) (by kernel_rfl) (by rfl) ?hy20 (fun _ _ _ => trivial) (fun hCl' => ?_)
      case hy20 => (intro w hSw; refine T.qVal ?_ hSw; (have fF9 := F9.out w hSw; have fF10 := F10.out w hSw; have fF11 := F11.out w hSw; have fFg := Fg.out w hSw; obtain ⟨d0, d1⟩ := HcR.out _ (HU.out.trans hSw)); (try dsimp only [List.getElem_toArray, List.getElem_cons_succ, List.getElem_cons_zero]); go_simp; try with_reducible rfl)
      simp only [Act.put, List.setIfInBounds_toArray, List.set_cons_zero, List.set_cons_succ]
      replace hCl := hCl'; clear hCl'
      refine T.qTake (i := 20) (d := (some 106)) (v := ?v21) rfl rfl (by kernel_rfl) (by decide) hCl (by kernel_rfl) (by kernel_rfl) (by kernel_rfl) (by rfl) ?hy21 (fun _ _ _ => trivial) (fun hCl' => ?_)
      case hy21 => (intro w hSw; refine T.qVal ?_ hSw; (have fF9 := F9.out w hSw; have fF10 := F10.out w hSw; have fF11 := F11.out w hSw; have fFg := Fg.out w hSw; obtain ⟨d0, d1⟩ := HcR.out _ (HU.out.trans hSw)); (try dsimp only [List.getElem_toArray, List.getElem_cons_succ, List.getElem_cons_zero]); go_simp; try with_reducible rfl)
      simp only [Act.put, List.setIfInBounds_toArray, List.set_cons_zero, List.set_cons_succ]
      replace hCl := hCl'; clear hCl'
      refine T.qTake (i := 21) (d := (some 107)) (v := ((SpV l' h'))) rfl rfl (by kernel_rfl) (by decide) hCl (by kernel_rfl) (by kernel_rfl) (by kernel_rfl) (by rfl) ?hy22 (fun _ _ _ => trivial) (fun hCl' => ?_)
      case hy22 => (intro w hSw; (have fF9 := F9.out w hSw; have fF10 := F10.out w hSw; have fF11 := F11.out w hSw; have fFg := Fg.out w hSw; obtain ⟨d0, d1⟩ := HcR.out _ (HU.out.trans hSw)); (try dsimp only [List.getElem_toArray, List.getElem_cons_succ, List.getElem_cons_zero]); go_simp; (refine (callsIn_wide.2 (HTo.out _ _ w)).mono ?_; rintro e w3 ⟨rfl, u3⟩; exact ⟨rfl, hSw.trans u3⟩))
      simp only [Act.put, List.setIfInBounds_toArray, List.set_cons_zero, List.set_cons_succ]
      replace hCl := hCl'; clear hCl'
      refine T.qTake (i := 22) (d := (some 108)) (v := ?v23) rfl rfl (by kernel_rfl) (by decide) hCl (by kernel_rfl) (by kernel_rfl) (by kernel_rfl) (by rfl) ?hy23 (fun _ _ _ => trivial) (fun hCl' => ?_)
      case hy23 => (intro w hSw; refine T.qVal ?_ hSw; (have fF9 := F9.out w hSw; have fF10 := F10.out w hSw; have fF11 := F11.out w hSw; have fFg := Fg.out w hSw; obtain ⟨d0, d1⟩ := HcR.out _ (HU.out.trans hSw)); (try dsimp only [List.getElem_toArray, List.getElem_cons_succ, List.getElem_cons_zero]); go_simp; try with_reducible rfl)
      simp only [Act.put, List.setIfInBounds_toArray, List.set_cons_zero, List.set_cons_succ]
      replace hCl := hCl'; clear hCl'
      refine T.tail_intro (by kernel_rfl) (fun Y8 hY8 => ?_)
      replace kg := hY8.blk kg
      replace g0 := (hY8.facts.1 g2 _ lg2).trans g0
      replace g1 := (hY8.facts.1 g2 _ lg2).trans g1
      replace IX2 := IX2.up hY8
      have zg := frozB kg
      have n01 : ¬ kk * 2 = kk * 2 + 1 := by omega
      clear Fg
      replace U := U.trans hY8
      replace kC := hY8.blk kC
      replace kN := hY8.blk kN
      replace kx := hY8.blk kx
      clear F9 F10 F11 hY8
      refine lastG (i := 23) (by kernel_rfl) rfl (by rfl) (by decide) (fun K hK => ?_)
      go_simp
      refine hK.out _ _ ?_
      clear hK K
      refine doneG (by kernel_rfl) ?_ _
      refine S.nrm_intro ?_
      have IX3 := Tab.put2 (a := l') (b := h') (x := (l', h')) IX2 kg (by omega) hkk rfl rfl
      have U5 := ((U.set (p := ⟨g2, kk * 2, none⟩) (show w.heap.size ≤ g2 by omega) (.int .i64 l')).set (p := ⟨g2, kk * 2 + 1, none⟩) (show w.heap.size ≤ g2 by omega) (.int .i64 h'))
      have jkC : mblk ((Y8.setCell ⟨g2, kk * 2, none⟩ (.int .i64 l')).setCell ⟨g2, kk * 2 + 1, none⟩ (.int .i64 h')) (q0) = some (.cells #[.int .i64 H, .slice (some ⟨gR, oR, none⟩) rs.length cR, .slice aO os.length cO, .slice aP ps.length cP] 26 (0, 0)) := by rw [blk_set _ _ _ _ (by show q0 ≠ g2; omega), blk_set _ _ _ _ (by show q0 ≠ g2; omega)]; exact kC
      have jkN : mblk ((Y8.setCell ⟨g2, kk * 2, none⟩ (.int .i64 l')).setCell ⟨g2, kk * 2 + 1, none⟩ (.int .i64 h')) (q0 + 1) = some (.cells #[.int .i64 n0, .int .i64 n1, .int .i64 n2, .int .i64 n3, .int .i64 n4] 66 (0, 0)) := by rw [blk_set _ _ _ _ (by show q0 + 1 ≠ g2; omega), blk_set _ _ _ _ (by show q0 + 1 ≠ g2; omega)]; exact kN
      have jkx : mblk ((Y8.setCell ⟨g2, kk * 2, none⟩ (.int .i64 l')).setCell ⟨g2, kk * 2 + 1, none⟩ (.int .i64 h')) (pkx) = some (.cells #[.int .i64 H, .slice (some ⟨g2, 0, none⟩) rs.length c2, .slice aO os.length cO, .slice aP ps.length cP] 26 (0, 0)) := by rw [blk_set _ _ _ _ (by show pkx ≠ g2; omega), blk_set _ _ _ _ (by show pkx ≠ g2; omega)]; exact kx
      obtain ⟨W12, hW12⟩ : ∃ z, ((Y8.setCell ⟨g2, kk * 2, none⟩ (.int .i64 l')).setCell ⟨g2, kk * 2 + 1, none⟩ (.int .i64 h')) = z := ⟨_, rfl⟩
      rw [hW12] at IX3 U5 jkC jkN jkx
      try rw [hW12]
      clear kC kN kx U HU zg n01 g0 g1 kg IX2 glg lg2 HcR hMx hMn z0 z1
      have U := U5
      have kC := jkC
      have kN := jkN
      have kx := jkx
      clear U5 jkC jkN jkx
      go_wp2_with fail
      try clear hW12
      obtain ⟨G', hm'⟩ := HGM.out
      have HU := Lib.hid U
      have Uz := Up.refl W12
      have hl' : (rs.set kk (l', h')).length = rs.length := List.length_set ..
      have hk' : 0 ≤ k ∧ k < ((rs.set kk (l', h')).length : Int) := by rw [hl']; exact HQ.out.1
      have h0' : (0 : Int) ≤ 0 ∧ (0 : Int) < ((rs.set kk (l', h')).length : Int) := by rw [hl']; have := HQ.out.1; omega
      have hh' : 0 ≤ h ∧ h ≤ (H : Int) := ⟨HQ.out.2.1, by have := HQ.out.2.2; omega⟩
      obtain ⟨lt, ht, et, tt⟩ := T.Tells.ex (m1 := (k, h)) (m2 := (-1, 0)) G' (T.mom_in hk' hh') T.mom_0
      obtain ⟨lq, hq, eq, tq⟩ := T.Tells.ex (m1 := (k, h)) (m2 := (0, h)) G' (T.mom_in hk' hh') (T.mom_in h0' hh')
      obtain rfl := tt.same tq
      have Ct := Lib.hid (fun w' (u : Up W12 w') => Offset_tells G' hk' hh' tt (IX3.up u) (HO.out _ (HU.out.trans u)) (HP.out _ (HU.out.trans u)))
      have Cq := Lib.hid (fun w' (u : Up W12 w') => Apart_tells G' hk' h0' hh' tq (IX3.up u) (HO.out _ (HU.out.trans u)) (HP.out _ (HU.out.trans u)))
      have key1 := HG.out.2.1.wider hm' tt
      have key2 := HG.out.2.2.wider hm' tq
      have et' := tt.err
      have HF := Lib.hid (show (es = 22 ∧ ls = 0 ∧ hs = 0 ∧ lu = 0 ∧ hu = 0 ∧ (et = 0 ∨ (et = 22 ∧ lt = 0 ∧ ht = 0 ∧ lq = 0 ∧ hq = 0))) ∨ (es = 0 ∧ et = 0 ∧ (lt ≤ ls ∧ hs ≤ ht) ∧ (lq ≤ lu ∧ hu ≤ hq)) from by
        rcases key1 with ⟨a1, a2, a3⟩ | ⟨a1, a2, a3⟩
        · rcases key2 with ⟨_, b2, b3⟩ | ⟨b1, _⟩
          · rcases et' with c1 | ⟨c1, c2, c3⟩
            · exact .inl ⟨a1, a2, a3, b2, b3, .inl c1⟩
            · have d := tq.no (by omega)
              exact .inl ⟨a1, a2, a3, b2, b3, .inr ⟨c1, c2, c3, d.2.1, d.2.2.1⟩⟩
          · omega
        · rcases key2 with ⟨b1, _⟩ | ⟨_, _, b3⟩
          · omega
          · exact .inr ⟨a1, a2, a3, b3⟩)
      clear tt tq key1 key2 et' hk' h0' hh' hl' G' hm'
      have F14 := Lib.hid (fun w (u : Up W12 w) => cellB (u.blk kC))
      have F15 := Lib.hid (fun w (u : Up W12 w) => cellB (u.blk kN))
      have F16 := Lib.hid (fun w (u : Up W12 w) => cellB (u.blk kx))
      refine (wpIn_wide (n := 5)).1 ?_
      refine wpIn_nrm ?_
      refine T.regionQ (fun w' => Up W12 w') 13 1 hmx (by kernel_rfl) (by kernel_rfl) ((Up.refl W12).drew) (fun hCl => ?_)
      refine T.qTake (i := 0) (d := (some 151)) (v := ?v24) rfl rfl (by kernel_rfl) (by decide) hCl (by kernel_rfl) (by kernel_rfl) (by kernel_rfl) (by rfl) ?hy24 (fun _ _ _ => trivial) (fun hCl' => ?_)
      case hy24 => (intro w hSw; refine T.qVal ?_ hSw; (have fF14 := F14.out w hSw; have fF15 := F15.out w hSw; have fF16 := F16.out w hSw); (try dsimp only [List.getElem_toArray, List.getElem_cons_succ, List.getElem_cons_zero]); go_simp; try with_reducible rfl)
      simp only [Act.put, List.setIfInBounds_toArray, List.set_cons_zero, List.set_cons_succ]
      replace hCl := hCl'; clear hCl'
      refine T.qTake (i := 2) (d := (some 153)) (v := ?v25) rfl rfl (by kernel_rfl) (by decide) hCl (by kernel_rfl) (by kernel_rfl) (by kernel_rfl) (by rfl) ?hy25 (fun _ _ _ => trivial) (fun hCl' => ?_)
      case hy25 => (intro w hSw; refine T.qVal ?_ hSw; (have fF14 := F14.out w hSw; have fF15 := F15.out w hSw; have fF16 := F16.out w hSw); (try dsimp only [List.getElem_toArray, List.getElem_cons_succ, List.getElem_cons_zero]); go_simp; try with_reducible rfl)
      simp only [Act.put, List.setIfInBounds_toArray, List.set_cons_zero, List.set_cons_succ]
      replace hCl := hCl'; clear hCl'
      refine T.qTake (i := 6) (d := (some 157)) (v := ?v26) rfl rfl (by kernel_rfl) (by decide) hCl (by kernel_rfl) (by kernel_rfl) (by kernel_rfl) (by rfl) ?hy26 (fun _ _ _ => trivial) (fun hCl' => ?_)
      case hy26 => (intro w hSw; refine T.qVal ?_ hSw; (have fF14 := F14.out w hSw; have fF15 := F15.out w hSw; have fF16 := F16.out w hSw); (try dsimp only [List.getElem_toArray, List.getElem_cons_succ, List.getElem_cons_zero]); go_simp; try with_reducible rfl)
      simp only [Act.put, List.setIfInBounds_toArray, List.set_cons_zero, List.set_cons_succ]
      replace hCl := hCl'; clear hCl'
      refine T.qTake (i := 8) (d := (some 159)) (v := ?v27) rfl rfl (by kernel_rfl) (by decide) hCl (by kernel_rfl) (by kernel_rfl) (by kernel_rfl) (by rfl) ?hy27 (fun _ _ _ => trivial) (fun hCl' => ?_)
      case hy27 => (intro w hSw; refine T.qVal ?_ hSw; (have fF14 := F14.out w hSw; have fF15 := F15.out w hSw; have fF16 := F16.out w hSw); (try dsimp only [List.getElem_toArray, List.getElem_cons_succ, List.getElem_cons_zero]); go_simp; try with_reducible rfl)
      simp only [Act.put, List.setIfInBounds_toArray, List.set_cons_zero, List.set_cons_succ]
      replace hCl := hCl'; clear hCl'
      refine T.qTake (i := 1) (d := (some 152)) (v := ?v28) rfl rfl (by kernel_rfl) (by decide) hCl (by kernel_rfl) (by kernel_rfl) (by kernel_rfl) (by rfl) ?hy28 (fun _ _ _ => trivial) (fun hCl' => ?_)
      case hy28 => (intro w hSw; refine T.qVal ?_ hSw; (have fF14 := F14.out w hSw; have fF15 := F15.out w hSw; have fF16 := F16.out w hSw); (try dsimp only [List.getElem_toArray, List.getElem_cons_succ, List.getElem_cons_zero]); go_simp; try with_reducible rfl)
      simp only [Act.put, List.setIfInBounds_toArray, List.set_cons_zero, List.set_cons_succ]
      replace hCl := hCl'; clear hCl'
      refine T.qTake (i := 3) (d := (some 154)) (v := ?v29) rfl rfl (by kernel_rfl) (by decide) hCl (by kernel_rfl) (by kernel_rfl) (by kernel_rfl) (by rfl) ?hy29 (fun _ _ _ => trivial) (fun hCl' => ?_)
      case hy29 => (intro w hSw; refine T.qVal ?_ hSw; (have fF14 := F14.out w hSw; have fF15 := F15.out w hSw; have fF16 := F16.out w hSw); (try dsimp only [List.getElem_toArray, List.getElem_cons_succ, List.getElem_cons_zero]); go_simp; try with_reducible rfl)
      simp only [Act.put, List.setIfInBounds_toArray, List.set_cons_zero, List.set_cons_succ]
      replace hCl := hCl'; clear hCl'
      refine T.qTake (i := 7) (d := (some 158)) (v := ?v30) rfl rfl (by kernel_rfl) (by decide) hCl (by kernel_rfl) (by kernel_rfl) (by kernel_rfl) (by rfl) ?hy30 (fun _ _ _ => trivial) (fun hCl' => ?_)
      case hy30 => (intro w hSw; refine T.qVal ?_ hSw; (have fF14 := F14.out w hSw; have fF15 := F15.out w hSw; have fF16 := F16.out w hSw); (try dsimp only [List.getElem_toArray, List.getElem_cons_succ, List.getElem_cons_zero]); go_simp; try with_reducible rfl)
      simp only [Act.put, List.setIfInBounds_toArray, List.set_cons_zero, List.set_cons_succ]
      replace hCl := hCl'; clear hCl'
      refine T.qTake (i := 9) (d := (some 160)) (v := ?v31) rfl rfl (by kernel_rfl) (by decide) hCl (by kernel_rfl) (by kernel_rfl) (by kernel_rfl) (by rfl) ?hy31 (fun _ _ _ => trivial) (fun hCl' => ?_)
      case hy31 => (intro w hSw; refine T.qVal ?_ hSw; (have fF14 := F14.out w hSw; have fF15 := F15.out w hSw; have fF16 := F16.out w hSw); (try dsimp only [List.getElem_toArray, List.getElem_cons_succ, List.getElem_cons_zero]); go_simp; try with_reducible rfl)
      simp only [Act.put, List.setIfInBounds_toArray, List.set_cons_zero, List.set_cons_succ]
      replace hCl := hCl'; clear hCl'
      refine T.qTake (i := 4) (d := (some 155)) (v := ?v32) rfl rfl (by kernel_rfl) (by decide) hCl (by kernel_rfl) (by kernel_rfl) (by kernel_rfl) (by rfl) ?hy32 (fun _ _ _ => trivial) (fun hCl' => ?_)
      case hy32 => (intro w hSw; refine T.qVal ?_ hSw; (have fF14 := F14.out w hSw; have fF15 := F15.out w hSw; have fF16 := F16.out w hSw); (try dsimp only [List.getElem_toArray, List.getElem_cons_succ, List.getElem_cons_zero]); go_simp; try with_reducible rfl)
      simp only [Act.put, List.setIfInBounds_toArray, List.set_cons_zero, List.set_cons_succ]
      replace hCl := hCl'; clear hCl'
      refine T.qTake (i := 10) (d := (some 161)) (v := ?v33) rfl rfl (by kernel_rfl) (by decide) hCl (by kernel_rfl) (by kernel_rfl) (by kernel_rfl) (by rfl) ?hy33 (fun _ _ _ => trivial) (fun hCl' => ?_)
      case hy33 => (intro w hSw; refine T.qVal ?_ hSw; (have fF14 := F14.out w hSw; have fF15 := F15.out w hSw; have fF16 := F16.out w hSw); (try dsimp only [List.getElem_toArray, List.getElem_cons_succ, List.getElem_cons_zero]); go_simp; try with_reducible rfl)
      simp only [Act.put, List.setIfInBounds_toArray, List.set_cons_zero, List.set_cons_succ]
      replace hCl := hCl'; clear hCl'
      refine T.qTake (i := 5) (d := (some 156)) (v := ((.int .i64 k))) rfl rfl (by kernel_rfl) (by decide) hCl (by kernel_rfl) (by kernel_rfl) (by kernel_rfl) (by rfl) ?hy34 (fun _ _ _ => trivial) (fun hCl' => ?_)
      case hy34 => (intro w hSw; (have fF14 := F14.out w hSw; have fF15 := F15.out w hSw; have fF16 := F16.out w hSw); (try dsimp only [List.getElem_toArray, List.getElem_cons_succ, List.getElem_cons_zero]); go_simp; (refine (callsIn_wide.2 (HRk.out w)).mono ?_; rintro e w3 ⟨rfl, rfl⟩; exact ⟨rfl, hSw⟩))
      simp only [Act.put, List.setIfInBounds_toArray, List.set_cons_zero, List.set_cons_succ]
      replace hCl := hCl'; clear hCl'
      refine T.qTake (i := 11) (d := (some 162)) (v := ((.int .i64 h))) rfl rfl (by kernel_rfl) (by decide) hCl (by kernel_rfl) (by kernel_rfl) (by kernel_rfl) (by rfl) ?hy35 (fun _ _ _ => trivial) (fun hCl' => ?_)
      case hy35 => (intro w hSw; (have fF14 := F14.out w hSw; have fF15 := F15.out w hSw; have fF16 := F16.out w hSw); (try dsimp only [List.getElem_toArray, List.getElem_cons_succ, List.getElem_cons_zero]); go_simp; (refine (callsIn_wide.2 (HRh.out w)).mono ?_; rintro e w3 ⟨rfl, rfl⟩; exact ⟨rfl, hSw⟩))
      simp only [Act.put, List.setIfInBounds_toArray, List.set_cons_zero, List.set_cons_succ]
      replace hCl := hCl'; clear hCl'
      refine T.qTake (i := 12) (d := (some 12)) (v := ?v36) rfl rfl (by kernel_rfl) (by decide) hCl (by kernel_rfl) (by kernel_rfl) (by kernel_rfl) (by rfl) ?hy36 (fun _ _ _ => trivial) (fun hCl' => ?_)
      case hy36 => (intro w hSw; refine T.qVal ?_ hSw; (have fF14 := F14.out w hSw; have fF15 := F15.out w hSw; have fF16 := F16.out w hSw); (try dsimp only [List.getElem_toArray, List.getElem_cons_succ, List.getElem_cons_zero]); go_simp; try with_reducible rfl)
      simp only [Act.put, List.setIfInBounds_toArray, List.set_cons_zero, List.set_cons_succ]
      replace hCl := hCl'; clear hCl'
      refine T.tail_intro (by kernel_rfl) (fun Y13 hY13 => ?_)
      replace U := U.trans hY13
      replace kC := hY13.blk kC
      replace kN := hY13.blk kN
      replace kx := hY13.blk kx
      replace Uz := Uz.trans hY13
      clear F14 F15 F16 hY13
      refine lastG (i := 13) (by kernel_rfl) rfl (by rfl) (by decide) (fun K hK => ?_)
      go_simp
      refine hK.out _ _ ?_
      clear hK K
      refine doneG (by kernel_rfl) ?_ _
      refine S.nrm_intro ?_
      clear HRk HRh wH
      clear kN
      rcases HF.out with ⟨rfl, rfl, rfl, rfl, rfl, rfl | ⟨rfl, rfl, rfl, rfl, rfl⟩⟩ | ⟨rfl, rfl, f1, f2⟩
      · skip
        go_wp2_with fail
        refine (Cs.out _ U).mono ?_
        rintro e x67 ⟨rfl, u68⟩
        replace U := U.trans u68
        replace kC := u68.blk kC
        replace kx := u68.blk kx
        replace Uz := Uz.trans u68
        clear u68 
        have dkCka := blk_lt kC
        have dkxka := blk_lt kx
        have gka := U.size
        have ka := blk_new x67 (.cells #[.int .i64 0, .int .i64 0] 34) _ rfl
        replace kC := blk_keep (.cells #[.int .i64 0, .int .i64 0] 34) kC
        replace kx := blk_keep (.cells #[.int .i64 0, .int .i64 0] 34) kx
        replace U := U.alloc (.cells #[.int .i64 0, .int .i64 0] 34)
        replace Uz := Uz.alloc (.cells #[.int .i64 0, .int .i64 0] 34)
        go_wp2_with fail
        obtain ⟨pka, hpka⟩ : ∃ z, x67.heap.size = z := ⟨_, rfl⟩
        obtain ⟨W69, hW69⟩ : ∃ z, x67.alloc (.cells #[.int .i64 0, .int .i64 0] 34) = z := ⟨_, rfl⟩
        rw [hpka] at ka dkCka dkxka gka
        rw [hW69] at ka U kC kx Uz
        rw [hW69, hpka]
        go_wp2_with fail
        clear hpka hW69
        refine (Ct.out _ Uz).mono ?_
        rintro e x70 ⟨rfl, u71⟩
        replace U := U.trans u71
        replace kC := u71.blk kC
        replace kx := u71.blk kx
        replace ka := u71.blk ka
        replace Uz := Uz.trans u71
        clear u71 
        have dkCkb := blk_lt kC
        have dkxkb := blk_lt kx
        have dkakb := blk_lt ka
        have gkb := U.size
        have kb := blk_new x70 (.cells #[.int .i64 lt, .int .i64 ht] 34) _ rfl
        replace kC := blk_keep (.cells #[.int .i64 lt, .int .i64 ht] 34) kC
        replace kx := blk_keep (.cells #[.int .i64 lt, .int .i64 ht] 34) kx
        replace ka := blk_keep (.cells #[.int .i64 lt, .int .i64 ht] 34) ka
        replace U := U.alloc (.cells #[.int .i64 lt, .int .i64 ht] 34)
        replace Uz := Uz.alloc (.cells #[.int .i64 lt, .int .i64 ht] 34)
        obtain ⟨pkb, hpkb⟩ : ∃ z, x70.heap.size = z := ⟨_, rfl⟩
        obtain ⟨W72, hW72⟩ : ∃ z, x70.alloc (.cells #[.int .i64 lt, .int .i64 ht] 34) = z := ⟨_, rfl⟩
        rw [hpkb] at kb dkCkb dkxkb dkakb gkb
        rw [hW72] at kb U kC kx ka Uz
        go_wp2_with fail
        clear hpkb hW72
        refine (Cu.out _ U).mono ?_
        rintro e x73 ⟨rfl, u74⟩
        replace U := U.trans u74
        replace kC := u74.blk kC
        replace kx := u74.blk kx
        replace ka := u74.blk ka
        replace kb := u74.blk kb
        replace Uz := Uz.trans u74
        clear u74 
        have dkCkd := blk_lt kC
        have dkxkd := blk_lt kx
        have dkakd := blk_lt ka
        have dkbkd := blk_lt kb
        have gkd := U.size
        have kd := blk_new x73 (.cells #[.int .i64 0, .int .i64 0] 34) _ rfl
        replace kC := blk_keep (.cells #[.int .i64 0, .int .i64 0] 34) kC
        replace kx := blk_keep (.cells #[.int .i64 0, .int .i64 0] 34) kx
        replace ka := blk_keep (.cells #[.int .i64 0, .int .i64 0] 34) ka
        replace kb := blk_keep (.cells #[.int .i64 0, .int .i64 0] 34) kb
        replace U := U.alloc (.cells #[.int .i64 0, .int .i64 0] 34)
        replace Uz := Uz.alloc (.cells #[.int .i64 0, .int .i64 0] 34)
        go_wp2_with fail
        obtain ⟨pkd, hpkd⟩ : ∃ z, x73.heap.size = z := ⟨_, rfl⟩
        obtain ⟨W75, hW75⟩ : ∃ z, x73.alloc (.cells #[.int .i64 0, .int .i64 0] 34) = z := ⟨_, rfl⟩
        rw [hpkd] at kd dkCkd dkxkd dkakd dkbkd gkd
        rw [hW75] at kd U kC kx ka kb Uz
        rw [hW75, hpkd]
        go_wp2_with fail
        clear hpkd hW75
        refine (Cq.out _ Uz).mono ?_
        rintro e x76 ⟨rfl, u77⟩
        replace U := U.trans u77
        replace kC := u77.blk kC
        replace kx := u77.blk kx
        replace ka := u77.blk ka
        replace kb := u77.blk kb
        replace kd := u77.blk kd
        replace Uz := Uz.trans u77
        clear u77 
        have dkCke := blk_lt kC
        have dkxke := blk_lt kx
        have dkake := blk_lt ka
        have dkbke := blk_lt kb
        have dkdke := blk_lt kd
        have gke := U.size
        have ke := blk_new x76 (.cells #[.int .i64 lq, .int .i64 hq] 34) _ rfl
        replace kC := blk_keep (.cells #[.int .i64 lq, .int .i64 hq] 34) kC
        replace kx := blk_keep (.cells #[.int .i64 lq, .int .i64 hq] 34) kx
        replace ka := blk_keep (.cells #[.int .i64 lq, .int .i64 hq] 34) ka
        replace kb := blk_keep (.cells #[.int .i64 lq, .int .i64 hq] 34) kb
        replace kd := blk_keep (.cells #[.int .i64 lq, .int .i64 hq] 34) kd
        replace U := U.alloc (.cells #[.int .i64 lq, .int .i64 hq] 34)
        replace Uz := Uz.alloc (.cells #[.int .i64 lq, .int .i64 hq] 34)
        obtain ⟨pke, hpke⟩ : ∃ z, x76.heap.size = z := ⟨_, rfl⟩
        obtain ⟨W78, hW78⟩ : ∃ z, x76.alloc (.cells #[.int .i64 lq, .int .i64 hq] 34) = z := ⟨_, rfl⟩
        rw [hpke] at ke dkCke dkxke dkake dkbke dkdke gke
        rw [hW78] at ke U kC kx ka kb kd Uz
        go_wp2_with fail
        clear hpke hW78
        refine (HW.out _).mono ?_
        rintro e x79 ⟨rfl, u80⟩
        replace U := U.trans u80
        replace kC := u80.blk kC
        replace kx := u80.blk kx
        replace ka := u80.blk ka
        replace kb := u80.blk kb
        replace kd := u80.blk kd
        replace ke := u80.blk ke
        replace Uz := Uz.trans u80
        clear u80 
        go_wp2
        go_ret
        exact ⟨rfl, U⟩
      · skip
        go_wp2_with fail
        refine (Cs.out _ U).mono ?_
        rintro e x67 ⟨rfl, u68⟩
        replace U := U.trans u68
        replace kC := u68.blk kC
        replace kx := u68.blk kx
        replace Uz := Uz.trans u68
        clear u68 
        have dkCka := blk_lt kC
        have dkxka := blk_lt kx
        have gka := U.size
        have ka := blk_new x67 (.cells #[.int .i64 0, .int .i64 0] 34) _ rfl
        replace kC := blk_keep (.cells #[.int .i64 0, .int .i64 0] 34) kC
        replace kx := blk_keep (.cells #[.int .i64 0, .int .i64 0] 34) kx
        replace U := U.alloc (.cells #[.int .i64 0, .int .i64 0] 34)
        replace Uz := Uz.alloc (.cells #[.int .i64 0, .int .i64 0] 34)
        go_wp2_with fail
        obtain ⟨pka, hpka⟩ : ∃ z, x67.heap.size = z := ⟨_, rfl⟩
        obtain ⟨W69, hW69⟩ : ∃ z, x67.alloc (.cells #[.int .i64 0, .int .i64 0] 34) = z := ⟨_, rfl⟩
        rw [hpka] at ka dkCka dkxka gka
        rw [hW69] at ka U kC kx Uz
        rw [hW69, hpka]
        go_wp2_with fail
        clear hpka hW69
        refine (Ct.out _ Uz).mono ?_
        rintro e x70 ⟨rfl, u71⟩
        replace U := U.trans u71
        replace kC := u71.blk kC
        replace kx := u71.blk kx
        replace ka := u71.blk ka
        replace Uz := Uz.trans u71
        clear u71 
        have dkCkb := blk_lt kC
        have dkxkb := blk_lt kx
        have dkakb := blk_lt ka
        have gkb := U.size
        have kb := blk_new x70 (.cells #[.int .i64 0, .int .i64 0] 34) _ rfl
        replace kC := blk_keep (.cells #[.int .i64 0, .int .i64 0] 34) kC
        replace kx := blk_keep (.cells #[.int .i64 0, .int .i64 0] 34) kx
        replace ka := blk_keep (.cells #[.int .i64 0, .int .i64 0] 34) ka
        replace U := U.alloc (.cells #[.int .i64 0, .int .i64 0] 34)
        replace Uz := Uz.alloc (.cells #[.int .i64 0, .int .i64 0] 34)
        go_wp2_with fail
        obtain ⟨pkb, hpkb⟩ : ∃ z, x70.heap.size = z := ⟨_, rfl⟩
        obtain ⟨W72, hW72⟩ : ∃ z, x70.alloc (.cells #[.int .i64 0, .int .i64 0] 34) = z := ⟨_, rfl⟩
        rw [hpkb] at kb dkCkb dkxkb dkakb gkb
        rw [hW72] at kb U kC kx ka Uz
        rw [hW72, hpkb]
        go_wp2_with fail
        clear hpkb hW72
        refine (Cu.out _ U).mono ?_
        rintro e x73 ⟨rfl, u74⟩
        replace U := U.trans u74
        replace kC := u74.blk kC
        replace kx := u74.blk kx
        replace ka := u74.blk ka
        replace kb := u74.blk kb
        replace Uz := Uz.trans u74
        clear u74 
        have dkCkd := blk_lt kC
        have dkxkd := blk_lt kx
        have dkakd := blk_lt ka
        have dkbkd := blk_lt kb
        have gkd := U.size
        have kd := blk_new x73 (.cells #[.int .i64 0, .int .i64 0] 34) _ rfl
        replace kC := blk_keep (.cells #[.int .i64 0, .int .i64 0] 34) kC
        replace kx := blk_keep (.cells #[.int .i64 0, .int .i64 0] 34) kx
        replace ka := blk_keep (.cells #[.int .i64 0, .int .i64 0] 34) ka
        replace kb := blk_keep (.cells #[.int .i64 0, .int .i64 0] 34) kb
        replace U := U.alloc (.cells #[.int .i64 0, .int .i64 0] 34)
        replace Uz := Uz.alloc (.cells #[.int .i64 0, .int .i64 0] 34)
        go_wp2_with fail
        obtain ⟨pkd, hpkd⟩ : ∃ z, x73.heap.size = z := ⟨_, rfl⟩
        obtain ⟨W75, hW75⟩ : ∃ z, x73.alloc (.cells #[.int .i64 0, .int .i64 0] 34) = z := ⟨_, rfl⟩
        rw [hpkd] at kd dkCkd dkxkd dkakd dkbkd gkd
        rw [hW75] at kd U kC kx ka kb Uz
        rw [hW75, hpkd]
        go_wp2_with fail
        clear hpkd hW75
        refine (Cq.out _ Uz).mono ?_
        rintro e x76 ⟨rfl, u77⟩
        replace U := U.trans u77
        replace kC := u77.blk kC
        replace kx := u77.blk kx
        replace ka := u77.blk ka
        replace kb := u77.blk kb
        replace kd := u77.blk kd
        replace Uz := Uz.trans u77
        clear u77 
        have dkCke := blk_lt kC
        have dkxke := blk_lt kx
        have dkake := blk_lt ka
        have dkbke := blk_lt kb
        have dkdke := blk_lt kd
        have gke := U.size
        have ke := blk_new x76 (.cells #[.int .i64 0, .int .i64 0] 34) _ rfl
        replace kC := blk_keep (.cells #[.int .i64 0, .int .i64 0] 34) kC
        replace kx := blk_keep (.cells #[.int .i64 0, .int .i64 0] 34) kx
        replace ka := blk_keep (.cells #[.int .i64 0, .int .i64 0] 34) ka
        replace kb := blk_keep (.cells #[.int .i64 0, .int .i64 0] 34) kb
        replace kd := blk_keep (.cells #[.int .i64 0, .int .i64 0] 34) kd
        replace U := U.alloc (.cells #[.int .i64 0, .int .i64 0] 34)
        replace Uz := Uz.alloc (.cells #[.int .i64 0, .int .i64 0] 34)
        go_wp2_with fail
        obtain ⟨pke, hpke⟩ : ∃ z, x76.heap.size = z := ⟨_, rfl⟩
        obtain ⟨W78, hW78⟩ : ∃ z, x76.alloc (.cells #[.int .i64 0, .int .i64 0] 34) = z := ⟨_, rfl⟩
        rw [hpke] at ke dkCke dkxke dkake dkbke dkdke gke
        rw [hW78] at ke U kC kx ka kb kd Uz
        rw [hW78, hpke]
        go_wp2_with fail
        clear hpke hW78
        refine (HW.out _).mono ?_
        rintro e x79 ⟨rfl, u80⟩
        replace U := U.trans u80
        replace kC := u80.blk kC
        replace kx := u80.blk kx
        replace ka := u80.blk ka
        replace kb := u80.blk kb
        replace kd := u80.blk kd
        replace ke := u80.blk ke
        replace Uz := Uz.trans u80
        clear u80 
        go_wp2
        go_ret
        exact ⟨rfl, U⟩
      · skip
        go_wp2_with fail
        refine (Cs.out _ U).mono ?_
        rintro e x67 ⟨rfl, u68⟩
        replace U := U.trans u68
        replace kC := u68.blk kC
        replace kx := u68.blk kx
        replace Uz := Uz.trans u68
        clear u68 
        have dkCka := blk_lt kC
        have dkxka := blk_lt kx
        have gka := U.size
        have ka := blk_new x67 (.cells #[.int .i64 ls, .int .i64 hs] 34) _ rfl
        replace kC := blk_keep (.cells #[.int .i64 ls, .int .i64 hs] 34) kC
        replace kx := blk_keep (.cells #[.int .i64 ls, .int .i64 hs] 34) kx
        replace U := U.alloc (.cells #[.int .i64 ls, .int .i64 hs] 34)
        replace Uz := Uz.alloc (.cells #[.int .i64 ls, .int .i64 hs] 34)
        obtain ⟨pka, hpka⟩ : ∃ z, x67.heap.size = z := ⟨_, rfl⟩
        obtain ⟨W69, hW69⟩ : ∃ z, x67.alloc (.cells #[.int .i64 ls, .int .i64 hs] 34) = z := ⟨_, rfl⟩
        rw [hpka] at ka dkCka dkxka gka
        rw [hW69] at ka U kC kx Uz
        go_wp2_with fail
        clear hpka hW69
        refine (Ct.out _ Uz).mono ?_
        rintro e x70 ⟨rfl, u71⟩
        replace U := U.trans u71
        replace kC := u71.blk kC
        replace kx := u71.blk kx
        replace ka := u71.blk ka
        replace Uz := Uz.trans u71
        clear u71 
        have dkCkb := blk_lt kC
        have dkxkb := blk_lt kx
        have dkakb := blk_lt ka
        have gkb := U.size
        have kb := blk_new x70 (.cells #[.int .i64 lt, .int .i64 ht] 34) _ rfl
        replace kC := blk_keep (.cells #[.int .i64 lt, .int .i64 ht] 34) kC
        replace kx := blk_keep (.cells #[.int .i64 lt, .int .i64 ht] 34) kx
        replace ka := blk_keep (.cells #[.int .i64 lt, .int .i64 ht] 34) ka
        replace U := U.alloc (.cells #[.int .i64 lt, .int .i64 ht] 34)
        replace Uz := Uz.alloc (.cells #[.int .i64 lt, .int .i64 ht] 34)
        obtain ⟨pkb, hpkb⟩ : ∃ z, x70.heap.size = z := ⟨_, rfl⟩
        obtain ⟨W72, hW72⟩ : ∃ z, x70.alloc (.cells #[.int .i64 lt, .int .i64 ht] 34) = z := ⟨_, rfl⟩
        rw [hpkb] at kb dkCkb dkxkb dkakb gkb
        rw [hW72] at kb U kC kx ka Uz
        go_wp2_with fail
        clear hpkb hW72
        refine (Cu.out _ U).mono ?_
        rintro e x73 ⟨rfl, u74⟩
        replace U := U.trans u74
        replace kC := u74.blk kC
        replace kx := u74.blk kx
        replace ka := u74.blk ka
        replace kb := u74.blk kb
        replace Uz := Uz.trans u74
        clear u74 
        have dkCkd := blk_lt kC
        have dkxkd := blk_lt kx
        have dkakd := blk_lt ka
        have dkbkd := blk_lt kb
        have gkd := U.size
        have kd := blk_new x73 (.cells #[.int .i64 lu, .int .i64 hu] 34) _ rfl
        replace kC := blk_keep (.cells #[.int .i64 lu, .int .i64 hu] 34) kC
        replace kx := blk_keep (.cells #[.int .i64 lu, .int .i64 hu] 34) kx
        replace ka := blk_keep (.cells #[.int .i64 lu, .int .i64 hu] 34) ka
        replace kb := blk_keep (.cells #[.int .i64 lu, .int .i64 hu] 34) kb
        replace U := U.alloc (.cells #[.int .i64 lu, .int .i64 hu] 34)
        replace Uz := Uz.alloc (.cells #[.int .i64 lu, .int .i64 hu] 34)
        obtain ⟨pkd, hpkd⟩ : ∃ z, x73.heap.size = z := ⟨_, rfl⟩
        obtain ⟨W75, hW75⟩ : ∃ z, x73.alloc (.cells #[.int .i64 lu, .int .i64 hu] 34) = z := ⟨_, rfl⟩
        rw [hpkd] at kd dkCkd dkxkd dkakd dkbkd gkd
        rw [hW75] at kd U kC kx ka kb Uz
        go_wp2_with fail
        clear hpkd hW75
        refine (Cq.out _ Uz).mono ?_
        rintro e x76 ⟨rfl, u77⟩
        replace U := U.trans u77
        replace kC := u77.blk kC
        replace kx := u77.blk kx
        replace ka := u77.blk ka
        replace kb := u77.blk kb
        replace kd := u77.blk kd
        replace Uz := Uz.trans u77
        clear u77 
        have dkCke := blk_lt kC
        have dkxke := blk_lt kx
        have dkake := blk_lt ka
        have dkbke := blk_lt kb
        have dkdke := blk_lt kd
        have gke := U.size
        have ke := blk_new x76 (.cells #[.int .i64 lq, .int .i64 hq] 34) _ rfl
        replace kC := blk_keep (.cells #[.int .i64 lq, .int .i64 hq] 34) kC
        replace kx := blk_keep (.cells #[.int .i64 lq, .int .i64 hq] 34) kx
        replace ka := blk_keep (.cells #[.int .i64 lq, .int .i64 hq] 34) ka
        replace kb := blk_keep (.cells #[.int .i64 lq, .int .i64 hq] 34) kb
        replace kd := blk_keep (.cells #[.int .i64 lq, .int .i64 hq] 34) kd
        replace U := U.alloc (.cells #[.int .i64 lq, .int .i64 hq] 34)
        replace Uz := Uz.alloc (.cells #[.int .i64 lq, .int .i64 hq] 34)
        obtain ⟨pke, hpke⟩ : ∃ z, x76.heap.size = z := ⟨_, rfl⟩
        obtain ⟨W78, hW78⟩ : ∃ z, x76.alloc (.cells #[.int .i64 lq, .int .i64 hq] 34) = z := ⟨_, rfl⟩
        rw [hpke] at ke dkCke dkxke dkake dkbke dkdke gke
        rw [hW78] at ke U kC kx ka kb kd Uz
        go_wp2_with fail
        clear hpke hW78
        refine (HWi.out _ _ _ _ _ f1).mono ?_
        rintro e x79 ⟨rfl, u80⟩
        replace U := U.trans u80
        replace kC := u80.blk kC
        replace kx := u80.blk kx
        replace ka := u80.blk ka
        replace kb := u80.blk kb
        replace kd := u80.blk kd
        replace ke := u80.blk ke
        replace Uz := Uz.trans u80
        clear u80 
        go_wp2_with fail
        refine (HWi.out _ _ _ _ _ f2).mono ?_
        rintro e x81 ⟨rfl, u82⟩
        replace U := U.trans u82
        replace kC := u82.blk kC
        replace kx := u82.blk kx
        replace ka := u82.blk ka
        replace kb := u82.blk kb
        replace kd := u82.blk kd
        replace ke := u82.blk ke
        replace Uz := Uz.trans u82
        clear u82 
        go_wp2_with fail
        refine (HW.out _).mono ?_
        rintro e x83 ⟨rfl, u84⟩
        replace U := U.trans u84
        replace kC := u84.blk kC
        replace kx := u84.blk kx
        replace ka := u84.blk ka
        replace kb := u84.blk kb
        replace kd := u84.blk kd
        replace ke := u84.blk ke
        replace Uz := Uz.trans u84
        clear u84 
        go_wp2
        go_ret
        exact ⟨rfl, U⟩
    · skip
      by_cases hz : os.length = 0
      · skip
        have d0 : ((os.length : Int) == 0) = true := by rw [beq_iff_eq]; omega
        clear hz
        go_enter Try.func10, Try.ntmps10
        obtain ⟨q0, e0⟩ : ∃ x, w.heap.size = x := ⟨_, rfl⟩
        have kC := blk_keep (.cells #[.int .i64 n0, .int .i64 n1, .int .i64 n2, .int .i64 n3, .int .i64 n4] 66) (blk_new w (.cells #[.int .i64 H, .slice (some ⟨gR, oR, none⟩) rs.length cR, .slice aO os.length cO, .slice aP ps.length cP] 26) q0 e0.symm)
        have kN := blk_new (w.alloc (.cells #[.int .i64 H, .slice (some ⟨gR, oR, none⟩) rs.length cR, .slice aO os.length cO, .slice aP ps.length cP] 26)) (.cells #[.int .i64 n0, .int .i64 n1, .int .i64 n2, .int .i64 n3, .int .i64 n4] 66) (q0 + 1) (by simp [e0])
        go_wp2_with fail
        refine (HS.out _ U).mono ?_
        rintro e x1 ⟨rfl, u2⟩
        replace U := U.trans u2
        replace kC := u2.blk kC
        replace kN := u2.blk kN
        clear u2 HS
        have i0 := kC
        have i1 := kN
        have dkCkx := blk_lt kC
        have dkNkx := blk_lt kN
        have gkx := U.size
        have kx := blk_new x1 (.cells #[.int .i64 H, .slice (some ⟨gR, oR, none⟩) rs.length cR, .slice aO os.length cO, .slice aP ps.length cP] 26) _ rfl
        replace kC := blk_keep (.cells #[.int .i64 H, .slice (some ⟨gR, oR, none⟩) rs.length cR, .slice aO os.length cO, .slice aP ps.length cP] 26) kC
        replace kN := blk_keep (.cells #[.int .i64 H, .slice (some ⟨gR, oR, none⟩) rs.length cR, .slice aO os.length cO, .slice aP ps.length cP] 26) kN
        replace U := U.alloc (.cells #[.int .i64 H, .slice (some ⟨gR, oR, none⟩) rs.length cR, .slice aO os.length cO, .slice aP ps.length cP] 26)
        obtain ⟨pkx, hpkx⟩ : ∃ z, x1.heap.size = z := ⟨_, rfl⟩
        obtain ⟨W3, hW3⟩ : ∃ z, x1.alloc (.cells #[.int .i64 H, .slice (some ⟨gR, oR, none⟩) rs.length cR, .slice aO os.length cO, .slice aP ps.length cP] 26) = z := ⟨_, rfl⟩
        rw [hpkx] at kx dkCkx dkNkx gkx
        rw [hW3] at kx U kC kN
        go_wp2_with fail
        clear hpkx hW3
        clear i0 i1
        refine (HRbq.out _).mono ?_
        rintro e x4 ⟨rfl, rfl⟩
        clear HRbq
        go_wp2_with fail
        refine (HRcc.out _).mono ?_
        rintro e x5 ⟨rfl, rfl⟩
        clear HRcc
        go_wp2_with fail
        refine (HW.out _).mono ?_
        rintro e x6 ⟨rfl, u7⟩
        replace U := U.trans u7
        replace kC := u7.blk kC
        replace kN := u7.blk kN
        replace kx := u7.blk kx
        clear u7 
        go_wp2
        go_ret
        exact ⟨rfl, U⟩
      · skip
        have d0 : ((os.length : Int) == 0) = false := by rw [beq_eq_false_iff_ne]; omega
        have HRz := Lib.hid (fun w => B_Rest_any n2 (os.length : Int) w (by omega) (by omega))
        have az := Int.emod_nonneg n2 (b := (os.length : Int)) (by omega)
        have bz := Int.emod_lt_of_pos n2 (b := (os.length : Int)) (by omega)
        generalize n2 % (os.length : Int) = kk at *
        obtain ⟨kk, rfl⟩ := Int.eq_ofNat_of_zero_le az
        have hkk : kk < os.length := by omega
        have hbs := HG.out.1.osB (os.getD kk (0, 0, 0, 0)) (by rw [List.getD_eq_getElem?_getD, List.getElem?_eq_getElem hkk]; exact List.getElem_mem _)
        obtain ⟨⟨r0, r1, r2, r3⟩, hss⟩ : ∃ s, os.getD kk (0, 0, 0, 0) = s := ⟨_, rfl⟩
        rw [hss] at hbs
        obtain ⟨l', hl⟩ : ∃ z, max (-100000) (r2 - bq) = z := ⟨_, rfl⟩
        obtain ⟨h', hh⟩ : ∃ z, min 100000 (r3 + bq) = z := ⟨_, rfl⟩
        have hMx := max_run hl
        have hMn := min_run hh
        have hb1 : (-100000 ≤ r2 ∧ r2 ≤ 100000) ∧ (-100000 ≤ r3 ∧ r3 ≤ 100000) := hbs.2.2.1
        have hb2 : r2 ≤ r3 := hbs.2.2.2
        have z0 : IntKind.i64.wrap (r2 - bq) = r2 - bq := IntWalk.i64_in _ (by omega)
        have z1 : IntKind.i64.wrap (r3 + bq) = r3 + bq := IntWalk.i64_in _ (by omega)
        have G' : T.Good H rs (os.set kk (r0, r1, l', h')) (ps) := T.good_opens HG.out.1 ⟨hbs.1, hbs.2.1, ⟨⟨by show -100000 ≤ l'; omega, by show l' ≤ 100000; omega⟩, by show -100000 ≤ h'; omega, by show h' ≤ 100000; omega⟩, by show l' ≤ h'; omega⟩
        have hm' : ∀ y, T.Tr H rs os ps y → T.Tr H rs (os.set kk (r0, r1, l', h')) (ps) y := fun y hy => T.wd_opens hkk (by rw [hss]) (by rw [hss]) (by rw [hss]; exact ⟨by show l' ≤ r2; omega, by show r3 ≤ h'; omega⟩) hy
        have HGM := Lib.hid (And.intro G' hm')
        clear G' hm' hbs hb1 hb2 hl hh abq bbq
        obtain ⟨a'', c'', e'', _, _, hm⟩ := (HO.out w (Up.refl w)).is
        injection e'' with ea eb ec
        clear eb ec
        obtain ⟨gE, oE, ga, glE, hxE⟩ := hm (by omega)
        subst ea ga
        clear hm
        have HcE := Lib.hid (fun w' (u : Up w w') => And.intro glE (show w'.cell? ⟨gE, oE + kk * 4, none⟩ = some (.int .i64 r0) ∧ w'.cell? ⟨gE, oE + kk * 4 + 1, none⟩ = some (.int .i64 r1) ∧ w'.cell? ⟨gE, oE + kk * 4 + 2, none⟩ = some (.int .i64 r2) ∧ w'.cell? ⟨gE, oE + kk * 4 + 3, none⟩ = some (.int .i64 r3) from ⟨by have := hxE kk hkk 0 (by omega); rw [hss] at this; exact (u.facts.1 gE _ glE).trans this, by have := hxE kk hkk 1 (by omega); rw [hss] at this; exact (u.facts.1 gE _ glE).trans this, by have := hxE kk hkk 2 (by omega); rw [hss] at this; exact (u.facts.1 gE _ glE).trans this, by have := hxE kk hkk 3 (by omega); rw [hss] at this; exact (u.facts.1 gE _ glE).trans this⟩))
        clear hxE glE
        have ikk : (kk : Int) < (os.length : Int) := by omega
        go_enter Try.func10, Try.ntmps10
        obtain ⟨q0, e0⟩ : ∃ x, w.heap.size = x := ⟨_, rfl⟩
        have kC := blk_keep (.cells #[.int .i64 n0, .int .i64 n1, .int .i64 n2, .int .i64 n3, .int .i64 n4] 66) (blk_new w (.cells #[.int .i64 H, .slice (some ⟨gR, oR, none⟩) rs.length cR, .slice (some ⟨gE, oE, none⟩) os.length cO, .slice aP ps.length cP] 26) q0 e0.symm)
        have kN := blk_new (w.alloc (.cells #[.int .i64 H, .slice (some ⟨gR, oR, none⟩) rs.length cR, .slice (some ⟨gE, oE, none⟩) os.length cO, .slice aP ps.length cP] 26)) (.cells #[.int .i64 n0, .int .i64 n1, .int .i64 n2, .int .i64 n3, .int .i64 n4] 66) (q0 + 1) (by simp [e0])
        go_wp2_with fail
        refine (HS.out _ U).mono ?_
        rintro e x1 ⟨rfl, u2⟩
        replace U := U.trans u2
        replace kC := u2.blk kC
        replace kN := u2.blk kN
        clear u2 HS
        have i0 := kC
        have i1 := kN
        have dkCkx := blk_lt kC
        have dkNkx := blk_lt kN
        have gkx := U.size
        have kx := blk_new x1 (.cells #[.int .i64 H, .slice (some ⟨gR, oR, none⟩) rs.length cR, .slice (some ⟨gE, oE, none⟩) os.length cO, .slice aP ps.length cP] 26) _ rfl
        replace kC := blk_keep (.cells #[.int .i64 H, .slice (some ⟨gR, oR, none⟩) rs.length cR, .slice (some ⟨gE, oE, none⟩) os.length cO, .slice aP ps.length cP] 26) kC
        replace kN := blk_keep (.cells #[.int .i64 H, .slice (some ⟨gR, oR, none⟩) rs.length cR, .slice (some ⟨gE, oE, none⟩) os.length cO, .slice aP ps.length cP] 26) kN
        replace U := U.alloc (.cells #[.int .i64 H, .slice (some ⟨gR, oR, none⟩) rs.length cR, .slice (some ⟨gE, oE, none⟩) os.length cO, .slice aP ps.length cP] 26)
        obtain ⟨pkx, hpkx⟩ : ∃ z, x1.heap.size = z := ⟨_, rfl⟩
        obtain ⟨W3, hW3⟩ : ∃ z, x1.alloc (.cells #[.int .i64 H, .slice (some ⟨gR, oR, none⟩) rs.length cR, .slice (some ⟨gE, oE, none⟩) os.length cO, .slice aP ps.length cP] 26) = z := ⟨_, rfl⟩
        rw [hpkx] at kx dkCkx dkNkx gkx
        rw [hW3] at kx U kC kN
        go_wp2_with fail
        clear hpkx hW3
        clear i0 i1
        refine (HRbq.out _).mono ?_
        rintro e x4 ⟨rfl, rfl⟩
        clear HRbq
        go_wp2_with fail
        refine (HRcc.out _).mono ?_
        rintro e x5 ⟨rfl, rfl⟩
        clear HRcc
        go_wp2_with fail
        refine (HRz.out _).mono ?_
        rintro e x6 ⟨rfl, rfl⟩
        clear HRz az
        obtain ⟨_, d1, d2, d3, d4⟩ := HcE.out _ U
        have i_kC := kC
        have i_kN := kN
        have i_kx := kx
        have dkCkb := blk_lt kC
        have dkNkb := blk_lt kN
        have dkxkb := blk_lt kx
        have gkb := U.size
        have kb := blk_new W3 (.cells #[.int .i64 r0, .int .i64 r1, .int .i64 r2, .int .i64 r3] 63) _ rfl
        replace kC := blk_keep (.cells #[.int .i64 r0, .int .i64 r1, .int .i64 r2, .int .i64 r3] 63) kC
        replace kN := blk_keep (.cells #[.int .i64 r0, .int .i64 r1, .int .i64 r2, .int .i64 r3] 63) kN
        replace kx := blk_keep (.cells #[.int .i64 r0, .int .i64 r1, .int .i64 r2, .int .i64 r3] 63) kx
        replace U := U.alloc (.cells #[.int .i64 r0, .int .i64 r1, .int .i64 r2, .int .i64 r3] 63)
        obtain ⟨pkb, hpkb⟩ : ∃ z, W3.heap.size = z := ⟨_, rfl⟩
        obtain ⟨W7, hW7⟩ : ∃ z, W3.alloc (.cells #[.int .i64 r0, .int .i64 r1, .int .i64 r2, .int .i64 r3] 63) = z := ⟨_, rfl⟩
        rw [hpkb] at kb dkCkb dkNkb dkxkb gkb
        rw [hW7] at kb U kC kN kx
        go_wp2_with fail
        clear hpkb hW7
        clear i_kC i_kN i_kx d1 d2 d3 d4
        refine (HTo.out _ _ _).mono ?_
        rintro e x8 ⟨rfl, u9⟩
        replace U := U.trans u9
        replace kC := u9.blk kC
        replace kN := u9.blk kN
        replace kx := u9.blk kx
        replace kb := u9.blk kb
        clear u9 
        have zf := frozB kb
        have i0 := kb
        have U1 := ((U.set (p := ⟨pkb, 2, none⟩) (show w.heap.size ≤ pkb by omega) (.int .i64 l')).set (p := ⟨pkb, 3, none⟩) (show w.heap.size ≤ pkb by omega) (.int .i64 h'))
        have jkC := kC
        rw [← blk_set (x8) ⟨pkb, 2, none⟩ (.int .i64 l') (q0) (by show q0 ≠ pkb; omega), ← blk_set ((x8).setCell ⟨pkb, 2, none⟩ (.int .i64 l')) ⟨pkb, 3, none⟩ (.int .i64 h') (q0) (by show q0 ≠ pkb; omega)] at jkC
        have jkN := kN
        rw [← blk_set (x8) ⟨pkb, 2, none⟩ (.int .i64 l') (q0 + 1) (by show q0 + 1 ≠ pkb; omega), ← blk_set ((x8).setCell ⟨pkb, 2, none⟩ (.int .i64 l')) ⟨pkb, 3, none⟩ (.int .i64 h') (q0 + 1) (by show q0 + 1 ≠ pkb; omega)] at jkN
        have jkx := kx
        rw [← blk_set (x8) ⟨pkb, 2, none⟩ (.int .i64 l') (pkx) (by show pkx ≠ pkb; omega), ← blk_set ((x8).setCell ⟨pkb, 2, none⟩ (.int .i64 l')) ⟨pkb, 3, none⟩ (.int .i64 h') (pkx) (by show pkx ≠ pkb; omega)] at jkx
        have jkb : mblk (((x8).setCell ⟨pkb, 2, none⟩ (.int .i64 l')).setCell ⟨pkb, 3, none⟩ (.int .i64 h')) pkb = some (.cells #[.int .i64 r0, .int .i64 r1, .int .i64 l', .int .i64 h'] 63 (0, 0)) := (blk_put (blk_put kb 2 (.int .i64 l')) 3 (.int .i64 h'))
        obtain ⟨W10, hW10⟩ : ∃ z, ((x8).setCell ⟨pkb, 2, none⟩ (.int .i64 l')).setCell ⟨pkb, 3, none⟩ (.int .i64 h') = z := ⟨_, rfl⟩
        rw [hW10] at jkC jkN jkx jkb U1
        clear kC kN kx kb U
        have kC := jkC
        have kN := jkN
        have kx := jkx
        have kb := jkb
        have U := U1
        clear jkC jkN jkx jkb U1
        have n01 : ¬ kk * 4 = kk * 4 + 1 := by omega
        have n02 : ¬ kk * 4 = kk * 4 + 2 := by omega
        have n03 : ¬ kk * 4 = kk * 4 + 3 := by omega
        have n12 : ¬ kk * 4 + 1 = kk * 4 + 2 := by omega
        have n13 : ¬ kk * 4 + 1 = kk * 4 + 3 := by omega
        have n23 : ¬ kk * 4 + 2 = kk * 4 + 3 := by omega
        have own0 := World.ownsRow_lit (base := W10.heap.size) (e := 63) (size := 4) W10 #[] 0 (Nat.le_refl _) (by unfold maxLen; omega) rfl
        obtain ⟨pe, hpe⟩ : ∃ z, W10.heap.size = z := ⟨_, rfl⟩
        have IX1 := HO.out _ (U.alloc (.cells #[] 63))
        have U1 := U.alloc (.cells #[] 63)
        have jkC := blk_keep (.cells #[] 63) kC
        have lkC := blk_lt kC
        have jkN := blk_keep (.cells #[] 63) kN
        have lkN := blk_lt kN
        have jkx := blk_keep (.cells #[] 63) kx
        have lkx := blk_lt kx
        have jkb := blk_keep (.cells #[] 63) kb
        have lkb := blk_lt kb
        rw [hpe] at own0 lkC lkN lkx lkb
        have gw := U.size
        rw [hpe] at gw
        go_wp2_with (at_builtin; refine T.wpList_app (ys := []) T.elO rfl (.tmp 141) (.tmp 143) rfl IX1 rfl pe _ 0 rfl own0 (by omega) (by omega) (by simp [hpe]) ?_; intro v1 w1 own1 grow1; rw [Nat.zero_add] at own1; have rkC := grown_blk grow1 jkC (row_block own0 lkC); have rkN := grown_blk grow1 jkN (row_block own0 lkN); have rkx := grown_blk grow1 jkx (row_block own0 lkx); have rkb := grown_blk grow1 jkb (row_block own0 lkb); have U2 : Up w w1 := U1.grown grow1 (fun k e => by (have := row_base own0 k e; omega)); obtain ⟨g2, c2, cur, rfl, hg2, kg, hc2, hm2, hz2⟩ := row_open own1 (by omega); have zx := frozB rkx; have x3 := blk_put rkx 2 (.slice (some ⟨g2, 0, none⟩) os.length c2); have sgb := (blk_set w1 ⟨pkx, 2, none⟩ (.slice (some ⟨g2, 0, none⟩) os.length c2) g2 (by show g2 ≠ pkx; omega)).trans kg; have skb := (blk_set w1 ⟨pkx, 2, none⟩ (.slice (some ⟨g2, 0, none⟩) os.length c2) pkb (by show pkb ≠ pkx; omega)).trans rkb; have zg := frozB sgb; have IXw : Tab 4 T.encO (0, 0, 0, 0) w1 (.slice (some ⟨g2, 0, none⟩) os.length c2) os := Tab.of_row own1 (by decide) (by omega); have cg := IXw.at0 hkk; rw [hss] at cg; have sg0 : (w1.setCell ⟨pkx, 2, none⟩ (.slice (some ⟨g2, 0, none⟩) os.length c2)).cell? ⟨g2, kk * 4, none⟩ = some (.int .i64 r0) := ((cellB sgb _).trans (cellB kg _).symm).trans (cg 0 (by omega)); have sg1 : (w1.setCell ⟨pkx, 2, none⟩ (.slice (some ⟨g2, 0, none⟩) os.length c2)).cell? ⟨g2, kk * 4 + 1, none⟩ = some (.int .i64 r1) := ((cellB sgb _).trans (cellB kg _).symm).trans (cg 1 (by omega)); have sg2 : (w1.setCell ⟨pkx, 2, none⟩ (.slice (some ⟨g2, 0, none⟩) os.length c2)).cell? ⟨g2, kk * 4 + 2, none⟩ = some (.int .i64 r2) := ((cellB sgb _).trans (cellB kg _).symm).trans (cg 2 (by omega)); have sg3 : (w1.setCell ⟨pkx, 2, none⟩ (.slice (some ⟨g2, 0, none⟩) os.length c2)).cell? ⟨g2, kk * 4 + 3, none⟩ = some (.int .i64 r3) := ((cellB sgb _).trans (cellB kg _).symm).trans (cg 3 (by omega)); clear cg IXw)
        obtain ⟨W11, hW11⟩ : ∃ z, w1.setCell ⟨pkx, 2, none⟩ (.slice (some ⟨g2, 0, none⟩) os.length c2) = z := ⟨_, rfl⟩
        have ltg : pkx < g2 := by omega
        have own3 : W11.ownsRow pe 63 4 (.slice (some ⟨g2, 0, none⟩) os.length c2) os.length (T.flat 4 T.encO os) := by
          rw [← hW11]
          exact row_other own1 (grown_set w1 pkx 2 _) (row_block own1 lkx)
        have IX2 : Tab 4 T.encO (0, 0, 0, 0) W11 (.slice (some ⟨g2, 0, none⟩) os.length c2) os := Tab.of_row own3 (by decide) (by omega)
        have U4 : Up w W11 := by rw [← hW11]; exact U2.set (p := ⟨pkx, 2, none⟩) (show w.heap.size ≤ pkx by omega) _
        have jg : mblk W11 g2 = some (.cells cur 63 (0, 0)) := by rw [← hW11, blk_set _ _ _ _ (by show g2 ≠ pkx; omega)]; exact kg
        have jx4 : mblk W11 pkx = some (.cells #[.int .i64 H, .slice (some ⟨gR, oR, none⟩) rs.length cR, .slice (some ⟨g2, 0, none⟩) os.length c2, .slice aP ps.length cP] 26 (0, 0)) := by rw [← hW11]; exact x3
        have ykC : mblk W11 (q0) = some (.cells #[.int .i64 H, .slice (some ⟨gR, oR, none⟩) rs.length cR, .slice (some ⟨gE, oE, none⟩) os.length cO, .slice aP ps.length cP] 26 (0, 0)) := by rw [← hW11, blk_set _ _ _ _ (by show q0 ≠ pkx; omega)]; exact rkC
        have ykN : mblk W11 (q0 + 1) = some (.cells #[.int .i64 n0, .int .i64 n1, .int .i64 n2, .int .i64 n3, .int .i64 n4] 66 (0, 0)) := by rw [← hW11, blk_set _ _ _ _ (by show q0 + 1 ≠ pkx; omega)]; exact rkN
        have ykb : mblk W11 (pkb) = some (.cells #[.int .i64 r0, .int .i64 r1, .int .i64 l', .int .i64 h'] 63 (0, 0)) := by rw [← hW11, blk_set _ _ _ _ (by show pkb ≠ pkx; omega)]; exact rkb
        have dgkC : q0 < g2 := by omega
        have dgkN : q0 + 1 < g2 := by omega
        have dgkb : pkb < g2 := by omega
        rw [hW11]
        clear hW11 x3 zx kg own1 own3 U2 U1 own0 IX1 grow1 U hpe rkC jkC kC rkN jkN kN rkx jkx kx rkb jkb kb
        have U := U4
        have kx := jx4
        have kg := jg
        clear U4 jx4 jg
        have kC := ykC
        clear ykC
        have kN := ykN
        clear ykN
        have kb := ykb
        clear ykb
        clear sgb skb zg sg0 sg1 sg2 sg3 n01 n02 n03 n12 n13 n23
        have IX3 := Tab.put4 (a := r0) (b := r1) (c' := l') (e := h') (x := (r0, r1, l', h')) IX2 kg (by omega) hkk rfl rfl rfl rfl
        have U5 := ((((U.set (p := ⟨g2, kk * 4, none⟩) (show w.heap.size ≤ g2 by omega) (.int .i64 r0)).set (p := ⟨g2, kk * 4 + 1, none⟩) (show w.heap.size ≤ g2 by omega) (.int .i64 r1)).set (p := ⟨g2, kk * 4 + 2, none⟩) (show w.heap.size ≤ g2 by omega) (.int .i64 l')).set (p := ⟨g2, kk * 4 + 3, none⟩) (show w.heap.size ≤ g2 by omega) (.int .i64 h'))
        have jkC : mblk ((((W11.setCell ⟨g2, kk * 4, none⟩ (.int .i64 r0)).setCell ⟨g2, kk * 4 + 1, none⟩ (.int .i64 r1)).setCell ⟨g2, kk * 4 + 2, none⟩ (.int .i64 l')).setCell ⟨g2, kk * 4 + 3, none⟩ (.int .i64 h')) (q0) = some (.cells #[.int .i64 H, .slice (some ⟨gR, oR, none⟩) rs.length cR, .slice (some ⟨gE, oE, none⟩) os.length cO, .slice aP ps.length cP] 26 (0, 0)) := by rw [blk_set _ _ _ _ (by show q0 ≠ g2; omega), blk_set _ _ _ _ (by show q0 ≠ g2; omega), blk_set _ _ _ _ (by show q0 ≠ g2; omega), blk_set _ _ _ _ (by show q0 ≠ g2; omega)]; exact kC
        have jkN : mblk ((((W11.setCell ⟨g2, kk * 4, none⟩ (.int .i64 r0)).setCell ⟨g2, kk * 4 + 1, none⟩ (.int .i64 r1)).setCell ⟨g2, kk * 4 + 2, none⟩ (.int .i64 l')).setCell ⟨g2, kk * 4 + 3, none⟩ (.int .i64 h')) (q0 + 1) = some (.cells #[.int .i64 n0, .int .i64 n1, .int .i64 n2, .int .i64 n3, .int .i64 n4] 66 (0, 0)) := by rw [blk_set _ _ _ _ (by show q0 + 1 ≠ g2; omega), blk_set _ _ _ _ (by show q0 + 1 ≠ g2; omega), blk_set _ _ _ _ (by show q0 + 1 ≠ g2; omega), blk_set _ _ _ _ (by show q0 + 1 ≠ g2; omega)]; exact kN
        have jkx : mblk ((((W11.setCell ⟨g2, kk * 4, none⟩ (.int .i64 r0)).setCell ⟨g2, kk * 4 + 1, none⟩ (.int .i64 r1)).setCell ⟨g2, kk * 4 + 2, none⟩ (.int .i64 l')).setCell ⟨g2, kk * 4 + 3, none⟩ (.int .i64 h')) (pkx) = some (.cells #[.int .i64 H, .slice (some ⟨gR, oR, none⟩) rs.length cR, .slice (some ⟨g2, 0, none⟩) os.length c2, .slice aP ps.length cP] 26 (0, 0)) := by rw [blk_set _ _ _ _ (by show pkx ≠ g2; omega), blk_set _ _ _ _ (by show pkx ≠ g2; omega), blk_set _ _ _ _ (by show pkx ≠ g2; omega), blk_set _ _ _ _ (by show pkx ≠ g2; omega)]; exact kx
        have jkb : mblk ((((W11.setCell ⟨g2, kk * 4, none⟩ (.int .i64 r0)).setCell ⟨g2, kk * 4 + 1, none⟩ (.int .i64 r1)).setCell ⟨g2, kk * 4 + 2, none⟩ (.int .i64 l')).setCell ⟨g2, kk * 4 + 3, none⟩ (.int .i64 h')) (pkb) = some (.cells #[.int .i64 r0, .int .i64 r1, .int .i64 l', .int .i64 h'] 63 (0, 0)) := by rw [blk_set _ _ _ _ (by show pkb ≠ g2; omega), blk_set _ _ _ _ (by show pkb ≠ g2; omega), blk_set _ _ _ _ (by show pkb ≠ g2; omega), blk_set _ _ _ _ (by show pkb ≠ g2; omega)]; exact kb
        obtain ⟨W12, hW12⟩ : ∃ z, ((((W11.setCell ⟨g2, kk * 4, none⟩ (.int .i64 r0)).setCell ⟨g2, kk * 4 + 1, none⟩ (.int .i64 r1)).setCell ⟨g2, kk * 4 + 2, none⟩ (.int .i64 l')).setCell ⟨g2, kk * 4 + 3, none⟩ (.int .i64 h')) = z := ⟨_, rfl⟩
        rw [hW12] at IX3 U5 jkC jkN jkx jkb
        try rw [hW12]
        clear kC kN kx kb U kg IX2 HcE hMx hMn z0 z1
        have U := U5
        have kC := jkC
        have kN := jkN
        have kx := jkx
        have kb := jkb
        clear U5 jkC jkN jkx jkb
        skip
        try clear hW12
        clear kb
        obtain ⟨G', hm'⟩ := HGM.out
        have HU := Lib.hid U
        have Uz := Up.refl W12
        have hl' : (rs).length = rs.length := rfl
        have hk' : 0 ≤ k ∧ k < ((rs).length : Int) := by rw [hl']; exact HQ.out.1
        have h0' : (0 : Int) ≤ 0 ∧ (0 : Int) < ((rs).length : Int) := by rw [hl']; have := HQ.out.1; omega
        have hh' : 0 ≤ h ∧ h ≤ (H : Int) := ⟨HQ.out.2.1, by have := HQ.out.2.2; omega⟩
        obtain ⟨lt, ht, et, tt⟩ := T.Tells.ex (m1 := (k, h)) (m2 := (-1, 0)) G' (T.mom_in hk' hh') T.mom_0
        obtain ⟨lq, hq, eq, tq⟩ := T.Tells.ex (m1 := (k, h)) (m2 := (0, h)) G' (T.mom_in hk' hh') (T.mom_in h0' hh')
        obtain rfl := tt.same tq
        have Ct := Lib.hid (fun w' (u : Up W12 w') => Offset_tells G' hk' hh' tt (HI.out _ (HU.out.trans u)) (IX3.up u) (HP.out _ (HU.out.trans u)))
        have Cq := Lib.hid (fun w' (u : Up W12 w') => Apart_tells G' hk' h0' hh' tq (HI.out _ (HU.out.trans u)) (IX3.up u) (HP.out _ (HU.out.trans u)))
        have key1 := HG.out.2.1.wider hm' tt
        have key2 := HG.out.2.2.wider hm' tq
        have et' := tt.err
        have HF := Lib.hid (show (es = 22 ∧ ls = 0 ∧ hs = 0 ∧ lu = 0 ∧ hu = 0 ∧ (et = 0 ∨ (et = 22 ∧ lt = 0 ∧ ht = 0 ∧ lq = 0 ∧ hq = 0))) ∨ (es = 0 ∧ et = 0 ∧ (lt ≤ ls ∧ hs ≤ ht) ∧ (lq ≤ lu ∧ hu ≤ hq)) from by
          rcases key1 with ⟨a1, a2, a3⟩ | ⟨a1, a2, a3⟩
          · rcases key2 with ⟨_, b2, b3⟩ | ⟨b1, _⟩
            · rcases et' with c1 | ⟨c1, c2, c3⟩
              · exact .inl ⟨a1, a2, a3, b2, b3, .inl c1⟩
              · have d := tq.no (by omega)
                exact .inl ⟨a1, a2, a3, b2, b3, .inr ⟨c1, c2, c3, d.2.1, d.2.2.1⟩⟩
            · omega
          · rcases key2 with ⟨b1, _⟩ | ⟨_, _, b3⟩
            · omega
            · exact .inr ⟨a1, a2, a3, b3⟩)
        clear tt tq key1 key2 et' hk' h0' hh' hl' G' hm'
        have F14 := Lib.hid (fun w (u : Up W12 w) => cellB (u.blk kC))
        have F15 := Lib.hid (fun w (u : Up W12 w) => cellB (u.blk kN))
        have F16 := Lib.hid (fun w (u : Up W12 w) => cellB (u.blk kx))
        refine (wpIn_wide (n := 5)).1 ?_
        refine wpIn_nrm ?_
        refine T.regionQ (fun w' => Up W12 w') 13 1 hmx (by kernel_rfl) (by kernel_rfl) ((Up.refl W12).drew) (fun hCl => ?_)
        refine T.qTake (i := 0) (d := (some 151)) (v := ?v37) rfl rfl (by kernel_rfl) (by decide) hCl (by kernel_rfl) (by kernel_rfl) (by kernel_rfl) (by rfl) ?hy37 (fun _ _ _ => trivial) (fun hCl' => ?_)
        case hy37 => (intro w hSw; refine T.qVal ?_ hSw; (have fF14 := F14.out w hSw; have fF15 := F15.out w hSw; have fF16 := F16.out w hSw); (try dsimp only [List.getElem_toArray, List.getElem_cons_succ, List.getElem_cons_zero]); go_simp; try with_reducible rfl)
        simp only [Act.put, List.setIfInBounds_toArray, List.set_cons_zero, List.set_cons_succ]
        replace hCl := hCl'; clear hCl'
        refine T.qTake (i := 2) (d := (some 153)) (v := ?v38) rfl rfl (by kernel_rfl) (by decide) hCl (by kernel_rfl) (by kernel_rfl) (by kernel_rfl) (by rfl) ?hy38 (fun _ _ _ => trivial) (fun hCl' => ?_)
        case hy38 => (intro w hSw; refine T.qVal ?_ hSw; (have fF14 := F14.out w hSw; have fF15 := F15.out w hSw; have fF16 := F16.out w hSw); (try dsimp only [List.getElem_toArray, List.getElem_cons_succ, List.getElem_cons_zero]); go_simp; try with_reducible rfl)
        simp only [Act.put, List.setIfInBounds_toArray, List.set_cons_zero, List.set_cons_succ]
        replace hCl := hCl'; clear hCl'
        refine T.qTake (i := 6) (d := (some 157)) (v := ?v39) rfl rfl (by kernel_rfl) (by decide) hCl (by kernel_rfl) (by kernel_rfl) (by kernel_rfl) (by rfl) ?hy39 (fun _ _ _ => trivial) (fun hCl' => ?_)
        case hy39 => (intro w hSw; refine T.qVal ?_ hSw; (have fF14 := F14.out w hSw; have fF15 := F15.out w hSw; have fF16 := F16.out w hSw); (try dsimp only [List.getElem_toArray, List.getElem_cons_succ, List.getElem_cons_zero]); go_simp; try with_reducible rfl)
        simp only [Act.put, List.setIfInBounds_toArray, List.set_cons_zero, List.set_cons_succ]
        replace hCl := hCl'; clear hCl'
        refine T.qTake (i := 8) (d := (some 159)) (v := ?v40) rfl rfl (by kernel_rfl) (by decide) hCl (by kernel_rfl) (by kernel_rfl) (by kernel_rfl) (by rfl) ?hy40 (fun _ _ _ => trivial) (fun hCl' => ?_)
        case hy40 => (intro w hSw; refine T.qVal ?_ hSw; (have fF14 := F14.out w hSw; have fF15 := F15.out w hSw; have fF16 := F16.out w hSw); (try dsimp only [List.getElem_toArray, List.getElem_cons_succ, List.getElem_cons_zero]); go_simp; try with_reducible rfl)
        simp only [Act.put, List.setIfInBounds_toArray, List.set_cons_zero, List.set_cons_succ]
        replace hCl := hCl'; clear hCl'
        refine T.qTake (i := 1) (d := (some 152)) (v := ?v41) rfl rfl (by kernel_rfl) (by decide) hCl (by kernel_rfl) (by kernel_rfl) (by kernel_rfl) (by rfl) ?hy41 (fun _ _ _ => trivial) (fun hCl' => ?_)
        case hy41 => (intro w hSw; refine T.qVal ?_ hSw; (have fF14 := F14.out w hSw; have fF15 := F15.out w hSw; have fF16 := F16.out w hSw); (try dsimp only [List.getElem_toArray, List.getElem_cons_succ, List.getElem_cons_zero]); go_simp; try with_reducible rfl)
        simp only [Act.put, List.setIfInBounds_toArray, List.set_cons_zero, List.set_cons_succ]
        replace hCl := hCl'; clear hCl'
        refine T.qTake (i := 3) (d := (some 154)) (v := ?v42) rfl rfl (by kernel_rfl) (by decide) hCl (by kernel_rfl) (by kernel_rfl) (by kernel_rfl) (by rfl) ?hy42 (fun _ _ _ => trivial) (fun hCl' => ?_)
        case hy42 => (intro w hSw; refine T.qVal ?_ hSw; (have fF14 := F14.out w hSw; have fF15 := F15.out w hSw; have fF16 := F16.out w hSw); (try dsimp only [List.getElem_toArray, List.getElem_cons_succ, List.getElem_cons_zero]); go_simp; try with_reducible rfl)
        simp only [Act.put, List.setIfInBounds_toArray, List.set_cons_zero, List.set_cons_succ]
        replace hCl := hCl'; clear hCl'
        refine T.qTake (i := 7) (d := (some 158)) (v := ?v43) rfl rfl (by kernel_rfl) (by decide) hCl (by kernel_rfl) (by kernel_rfl) (by kernel_rfl) (by rfl) ?hy43 (fun _ _ _ => trivial) (fun hCl' => ?_)
        case hy43 => (intro w hSw; refine T.qVal ?_ hSw; (have fF14 := F14.out w hSw; have fF15 := F15.out w hSw; have fF16 := F16.out w hSw); (try dsimp only [List.getElem_toArray, List.getElem_cons_succ, List.getElem_cons_zero]); go_simp; try with_reducible rfl)
        simp only [Act.put, List.setIfInBounds_toArray, List.set_cons_zero, List.set_cons_succ]
        replace hCl := hCl'; clear hCl'
        refine T.qTake (i := 9) (d := (some 160)) (v := ?v44) rfl rfl (by kernel_rfl) (by decide) hCl (by kernel_rfl) (by kernel_rfl) (by kernel_rfl) (by rfl) ?hy44 (fun _ _ _ => trivial) (fun hCl' => ?_)
        case hy44 => (intro w hSw; refine T.qVal ?_ hSw; (have fF14 := F14.out w hSw; have fF15 := F15.out w hSw; have fF16 := F16.out w hSw); (try dsimp only [List.getElem_toArray, List.getElem_cons_succ, List.getElem_cons_zero]); go_simp; try with_reducible rfl)
        simp only [Act.put, List.setIfInBounds_toArray, List.set_cons_zero, List.set_cons_succ]
        replace hCl := hCl'; clear hCl'
        refine T.qTake (i := 4) (d := (some 155)) (v := ?v45) rfl rfl (by kernel_rfl) (by decide) hCl (by kernel_rfl) (by kernel_rfl) (by kernel_rfl) (by rfl) ?hy45 (fun _ _ _ => trivial) (fun hCl' => ?_)
        case hy45 => (intro w hSw; refine T.qVal ?_ hSw; (have fF14 := F14.out w hSw; have fF15 := F15.out w hSw; have fF16 := F16.out w hSw); (try dsimp only [List.getElem_toArray, List.getElem_cons_succ, List.getElem_cons_zero]); go_simp; try with_reducible rfl)
        simp only [Act.put, List.setIfInBounds_toArray, List.set_cons_zero, List.set_cons_succ]
        replace hCl := hCl'; clear hCl'
        refine T.qTake (i := 10) (d := (some 161)) (v := ?v46) rfl rfl (by kernel_rfl) (by decide) hCl (by kernel_rfl) (by kernel_rfl) (by kernel_rfl) (by rfl) ?hy46 (fun _ _ _ => trivial) (fun hCl' => ?_)
        case hy46 => (intro w hSw; refine T.qVal ?_ hSw; (have fF14 := F14.out w hSw; have fF15 := F15.out w hSw; have fF16 := F16.out w hSw); (try dsimp only [List.getElem_toArray, List.getElem_cons_succ, List.getElem_cons_zero]); go_simp; try with_reducible rfl)
        simp only [Act.put, List.setIfInBounds_toArray, List.set_cons_zero, List.set_cons_succ]
        replace hCl := hCl'; clear hCl'
        refine T.qTake (i := 5) (d := (some 156)) (v := ((.int .i64 k))) rfl rfl (by kernel_rfl) (by decide) hCl (by kernel_rfl) (by kernel_rfl) (by kernel_rfl) (by rfl) ?hy47 (fun _ _ _ => trivial) (fun hCl' => ?_)
        case hy47 => (intro w hSw; (have fF14 := F14.out w hSw; have fF15 := F15.out w hSw; have fF16 := F16.out w hSw); (try dsimp only [List.getElem_toArray, List.getElem_cons_succ, List.getElem_cons_zero]); go_simp; (refine (callsIn_wide.2 (HRk.out w)).mono ?_; rintro e w3 ⟨rfl, rfl⟩; exact ⟨rfl, hSw⟩))
        simp only [Act.put, List.setIfInBounds_toArray, List.set_cons_zero, List.set_cons_succ]
        replace hCl := hCl'; clear hCl'
        refine T.qTake (i := 11) (d := (some 162)) (v := ((.int .i64 h))) rfl rfl (by kernel_rfl) (by decide) hCl (by kernel_rfl) (by kernel_rfl) (by kernel_rfl) (by rfl) ?hy48 (fun _ _ _ => trivial) (fun hCl' => ?_)
        case hy48 => (intro w hSw; (have fF14 := F14.out w hSw; have fF15 := F15.out w hSw; have fF16 := F16.out w hSw); (try dsimp only [List.getElem_toArray, List.getElem_cons_succ, List.getElem_cons_zero]); go_simp; (refine (callsIn_wide.2 (HRh.out w)).mono ?_; rintro e w3 ⟨rfl, rfl⟩; exact ⟨rfl, hSw⟩))
        simp only [Act.put, List.setIfInBounds_toArray, List.set_cons_zero, List.set_cons_succ]
        replace hCl := hCl'; clear hCl'
        refine T.qTake (i := 12) (d := (some 12)) (v := ?v49) rfl rfl (by kernel_rfl) (by decide) hCl (by kernel_rfl) (by kernel_rfl) (by kernel_rfl) (by rfl) ?hy49 (fun _ _ _ => trivial) (fun hCl' => ?_)
        case hy49 => (intro w hSw; refine T.qVal ?_ hSw; (have fF14 := F14.out w hSw; have fF15 := F15.out w hSw; have fF16 := F16.out w hSw); (try dsimp only [List.getElem_toArray, List.getElem_cons_succ, List.getElem_cons_zero]); go_simp; try with_reducible rfl)
        simp only [Act.put, List.setIfInBounds_toArray, List.set_cons_zero, List.set_cons_succ]
        replace hCl := hCl'; clear hCl'
        refine T.tail_intro (by kernel_rfl) (fun Y13 hY13 => ?_)
        replace U := U.trans hY13
        replace kC := hY13.blk kC
        replace kN := hY13.blk kN
        replace kx := hY13.blk kx
        replace Uz := Uz.trans hY13
        clear F14 F15 F16 hY13
        refine lastG (i := 13) (by kernel_rfl) rfl (by rfl) (by decide) (fun K hK => ?_)
        go_simp
        refine hK.out _ _ ?_
        clear hK K
        refine doneG (by kernel_rfl) ?_ _
        refine S.nrm_intro ?_
        clear HRk HRh wH
        clear kN
        rcases HF.out with ⟨rfl, rfl, rfl, rfl, rfl, rfl | ⟨rfl, rfl, rfl, rfl, rfl⟩⟩ | ⟨rfl, rfl, f1, f2⟩
        · skip
          go_wp2_with fail
          refine (Cs.out _ U).mono ?_
          rintro e x67 ⟨rfl, u68⟩
          replace U := U.trans u68
          replace kC := u68.blk kC
          replace kx := u68.blk kx
          replace Uz := Uz.trans u68
          clear u68 
          have dkCka := blk_lt kC
          have dkxka := blk_lt kx
          have gka := U.size
          have ka := blk_new x67 (.cells #[.int .i64 0, .int .i64 0] 34) _ rfl
          replace kC := blk_keep (.cells #[.int .i64 0, .int .i64 0] 34) kC
          replace kx := blk_keep (.cells #[.int .i64 0, .int .i64 0] 34) kx
          replace U := U.alloc (.cells #[.int .i64 0, .int .i64 0] 34)
          replace Uz := Uz.alloc (.cells #[.int .i64 0, .int .i64 0] 34)
          go_wp2_with fail
          obtain ⟨pka, hpka⟩ : ∃ z, x67.heap.size = z := ⟨_, rfl⟩
          obtain ⟨W69, hW69⟩ : ∃ z, x67.alloc (.cells #[.int .i64 0, .int .i64 0] 34) = z := ⟨_, rfl⟩
          rw [hpka] at ka dkCka dkxka gka
          rw [hW69] at ka U kC kx Uz
          rw [hW69, hpka]
          go_wp2_with fail
          clear hpka hW69
          refine (Ct.out _ Uz).mono ?_
          rintro e x70 ⟨rfl, u71⟩
          replace U := U.trans u71
          replace kC := u71.blk kC
          replace kx := u71.blk kx
          replace ka := u71.blk ka
          replace Uz := Uz.trans u71
          clear u71 
          have dkCkb := blk_lt kC
          have dkxkb := blk_lt kx
          have dkakb := blk_lt ka
          have gkb := U.size
          have kb := blk_new x70 (.cells #[.int .i64 lt, .int .i64 ht] 34) _ rfl
          replace kC := blk_keep (.cells #[.int .i64 lt, .int .i64 ht] 34) kC
          replace kx := blk_keep (.cells #[.int .i64 lt, .int .i64 ht] 34) kx
          replace ka := blk_keep (.cells #[.int .i64 lt, .int .i64 ht] 34) ka
          replace U := U.alloc (.cells #[.int .i64 lt, .int .i64 ht] 34)
          replace Uz := Uz.alloc (.cells #[.int .i64 lt, .int .i64 ht] 34)
          obtain ⟨pkb, hpkb⟩ : ∃ z, x70.heap.size = z := ⟨_, rfl⟩
          obtain ⟨W72, hW72⟩ : ∃ z, x70.alloc (.cells #[.int .i64 lt, .int .i64 ht] 34) = z := ⟨_, rfl⟩
          rw [hpkb] at kb dkCkb dkxkb dkakb gkb
          rw [hW72] at kb U kC kx ka Uz
          go_wp2_with fail
          clear hpkb hW72
          refine (Cu.out _ U).mono ?_
          rintro e x73 ⟨rfl, u74⟩
          replace U := U.trans u74
          replace kC := u74.blk kC
          replace kx := u74.blk kx
          replace ka := u74.blk ka
          replace kb := u74.blk kb
          replace Uz := Uz.trans u74
          clear u74 
          have dkCkd := blk_lt kC
          have dkxkd := blk_lt kx
          have dkakd := blk_lt ka
          have dkbkd := blk_lt kb
          have gkd := U.size
          have kd := blk_new x73 (.cells #[.int .i64 0, .int .i64 0] 34) _ rfl
          replace kC := blk_keep (.cells #[.int .i64 0, .int .i64 0] 34) kC
          replace kx := blk_keep (.cells #[.int .i64 0, .int .i64 0] 34) kx
          replace ka := blk_keep (.cells #[.int .i64 0, .int .i64 0] 34) ka
          replace kb := blk_keep (.cells #[.int .i64 0, .int .i64 0] 34) kb
          replace U := U.alloc (.cells #[.int .i64 0, .int .i64 0] 34)
          replace Uz := Uz.alloc (.cells #[.int .i64 0, .int .i64 0] 34)
          go_wp2_with fail
          obtain ⟨pkd, hpkd⟩ : ∃ z, x73.heap.size = z := ⟨_, rfl⟩
          obtain ⟨W75, hW75⟩ : ∃ z, x73.alloc (.cells #[.int .i64 0, .int .i64 0] 34) = z := ⟨_, rfl⟩
          rw [hpkd] at kd dkCkd dkxkd dkakd dkbkd gkd
          rw [hW75] at kd U kC kx ka kb Uz
          rw [hW75, hpkd]
          go_wp2_with fail
          clear hpkd hW75
          refine (Cq.out _ Uz).mono ?_
          rintro e x76 ⟨rfl, u77⟩
          replace U := U.trans u77
          replace kC := u77.blk kC
          replace kx := u77.blk kx
          replace ka := u77.blk ka
          replace kb := u77.blk kb
          replace kd := u77.blk kd
          replace Uz := Uz.trans u77
          clear u77 
          have dkCke := blk_lt kC
          have dkxke := blk_lt kx
          have dkake := blk_lt ka
          have dkbke := blk_lt kb
          have dkdke := blk_lt kd
          have gke := U.size
          have ke := blk_new x76 (.cells #[.int .i64 lq, .int .i64 hq] 34) _ rfl
          replace kC := blk_keep (.cells #[.int .i64 lq, .int .i64 hq] 34) kC
          replace kx := blk_keep (.cells #[.int .i64 lq, .int .i64 hq] 34) kx
          replace ka := blk_keep (.cells #[.int .i64 lq, .int .i64 hq] 34) ka
          replace kb := blk_keep (.cells #[.int .i64 lq, .int .i64 hq] 34) kb
          replace kd := blk_keep (.cells #[.int .i64 lq, .int .i64 hq] 34) kd
          replace U := U.alloc (.cells #[.int .i64 lq, .int .i64 hq] 34)
          replace Uz := Uz.alloc (.cells #[.int .i64 lq, .int .i64 hq] 34)
          obtain ⟨pke, hpke⟩ : ∃ z, x76.heap.size = z := ⟨_, rfl⟩
          obtain ⟨W78, hW78⟩ : ∃ z, x76.alloc (.cells #[.int .i64 lq, .int .i64 hq] 34) = z := ⟨_, rfl⟩
          rw [hpke] at ke dkCke dkxke dkake dkbke dkdke gke
          rw [hW78] at ke U kC kx ka kb kd Uz
          go_wp2_with fail
          clear hpke hW78
          refine (HW.out _).mono ?_
          rintro e x79 ⟨rfl, u80⟩
          replace U := U.trans u80
          replace kC := u80.blk kC
          replace kx := u80.blk kx
          replace ka := u80.blk ka
          replace kb := u80.blk kb
          replace kd := u80.blk kd
          replace ke := u80.blk ke
          replace Uz := Uz.trans u80
          clear u80 
          go_wp2
          go_ret
          exact ⟨rfl, U⟩
        · skip
          go_wp2_with fail
          refine (Cs.out _ U).mono ?_
          rintro e x67 ⟨rfl, u68⟩
          replace U := U.trans u68
          replace kC := u68.blk kC
          replace kx := u68.blk kx
          replace Uz := Uz.trans u68
          clear u68 
          have dkCka := blk_lt kC
          have dkxka := blk_lt kx
          have gka := U.size
          have ka := blk_new x67 (.cells #[.int .i64 0, .int .i64 0] 34) _ rfl
          replace kC := blk_keep (.cells #[.int .i64 0, .int .i64 0] 34) kC
          replace kx := blk_keep (.cells #[.int .i64 0, .int .i64 0] 34) kx
          replace U := U.alloc (.cells #[.int .i64 0, .int .i64 0] 34)
          replace Uz := Uz.alloc (.cells #[.int .i64 0, .int .i64 0] 34)
          go_wp2_with fail
          obtain ⟨pka, hpka⟩ : ∃ z, x67.heap.size = z := ⟨_, rfl⟩
          obtain ⟨W69, hW69⟩ : ∃ z, x67.alloc (.cells #[.int .i64 0, .int .i64 0] 34) = z := ⟨_, rfl⟩
          rw [hpka] at ka dkCka dkxka gka
          rw [hW69] at ka U kC kx Uz
          rw [hW69, hpka]
          go_wp2_with fail
          clear hpka hW69
          refine (Ct.out _ Uz).mono ?_
          rintro e x70 ⟨rfl, u71⟩
          replace U := U.trans u71
          replace kC := u71.blk kC
          replace kx := u71.blk kx
          replace ka := u71.blk ka
          replace Uz := Uz.trans u71
          clear u71 
          have dkCkb := blk_lt kC
          have dkxkb := blk_lt kx
          have dkakb := blk_lt ka
          have gkb := U.size
          have kb := blk_new x70 (.cells #[.int .i64 0, .int .i64 0] 34) _ rfl
          replace kC := blk_keep (.cells #[.int .i64 0, .int .i64 0] 34) kC
          replace kx := blk_keep (.cells #[.int .i64 0, .int .i64 0] 34) kx
          replace ka := blk_keep (.cells #[.int .i64 0, .int .i64 0] 34) ka
          replace U := U.alloc (.cells #[.int .i64 0, .int .i64 0] 34)
          replace Uz := Uz.alloc (.cells #[.int .i64 0, .int .i64 0] 34)
          go_wp2_with fail
          obtain ⟨pkb, hpkb⟩ : ∃ z, x70.heap.size = z := ⟨_, rfl⟩
          obtain ⟨W72, hW72⟩ : ∃ z, x70.alloc (.cells #[.int .i64 0, .int .i64 0] 34) = z := ⟨_, rfl⟩
          rw [hpkb] at kb dkCkb dkxkb dkakb gkb
          rw [hW72] at kb U kC kx ka Uz
          rw [hW72, hpkb]
          go_wp2_with fail
          clear hpkb hW72
          refine (Cu.out _ U).mono ?_
          rintro e x73 ⟨rfl, u74⟩
          replace U := U.trans u74
          replace kC := u74.blk kC
          replace kx := u74.blk kx
          replace ka := u74.blk ka
          replace kb := u74.blk kb
          replace Uz := Uz.trans u74
          clear u74 
          have dkCkd := blk_lt kC
          have dkxkd := blk_lt kx
          have dkakd := blk_lt ka
          have dkbkd := blk_lt kb
          have gkd := U.size
          have kd := blk_new x73 (.cells #[.int .i64 0, .int .i64 0] 34) _ rfl
          replace kC := blk_keep (.cells #[.int .i64 0, .int .i64 0] 34) kC
          replace kx := blk_keep (.cells #[.int .i64 0, .int .i64 0] 34) kx
          replace ka := blk_keep (.cells #[.int .i64 0, .int .i64 0] 34) ka
          replace kb := blk_keep (.cells #[.int .i64 0, .int .i64 0] 34) kb
          replace U := U.alloc (.cells #[.int .i64 0, .int .i64 0] 34)
          replace Uz := Uz.alloc (.cells #[.int .i64 0, .int .i64 0] 34)
          go_wp2_with fail
          obtain ⟨pkd, hpkd⟩ : ∃ z, x73.heap.size = z := ⟨_, rfl⟩
          obtain ⟨W75, hW75⟩ : ∃ z, x73.alloc (.cells #[.int .i64 0, .int .i64 0] 34) = z := ⟨_, rfl⟩
          rw [hpkd] at kd dkCkd dkxkd dkakd dkbkd gkd
          rw [hW75] at kd U kC kx ka kb Uz
          rw [hW75, hpkd]
          go_wp2_with fail
          clear hpkd hW75
          refine (Cq.out _ Uz).mono ?_
          rintro e x76 ⟨rfl, u77⟩
          replace U := U.trans u77
          replace kC := u77.blk kC
          replace kx := u77.blk kx
          replace ka := u77.blk ka
          replace kb := u77.blk kb
          replace kd := u77.blk kd
          replace Uz := Uz.trans u77
          clear u77 
          have dkCke := blk_lt kC
          have dkxke := blk_lt kx
          have dkake := blk_lt ka
          have dkbke := blk_lt kb
          have dkdke := blk_lt kd
          have gke := U.size
          have ke := blk_new x76 (.cells #[.int .i64 0, .int .i64 0] 34) _ rfl
          replace kC := blk_keep (.cells #[.int .i64 0, .int .i64 0] 34) kC
          replace kx := blk_keep (.cells #[.int .i64 0, .int .i64 0] 34) kx
          replace ka := blk_keep (.cells #[.int .i64 0, .int .i64 0] 34) ka
          replace kb := blk_keep (.cells #[.int .i64 0, .int .i64 0] 34) kb
          replace kd := blk_keep (.cells #[.int .i64 0, .int .i64 0] 34) kd
          replace U := U.alloc (.cells #[.int .i64 0, .int .i64 0] 34)
          replace Uz := Uz.alloc (.cells #[.int .i64 0, .int .i64 0] 34)
          go_wp2_with fail
          obtain ⟨pke, hpke⟩ : ∃ z, x76.heap.size = z := ⟨_, rfl⟩
          obtain ⟨W78, hW78⟩ : ∃ z, x76.alloc (.cells #[.int .i64 0, .int .i64 0] 34) = z := ⟨_, rfl⟩
          rw [hpke] at ke dkCke dkxke dkake dkbke dkdke gke
          rw [hW78] at ke U kC kx ka kb kd Uz
          rw [hW78, hpke]
          go_wp2_with fail
          clear hpke hW78
          refine (HW.out _).mono ?_
          rintro e x79 ⟨rfl, u80⟩
          replace U := U.trans u80
          replace kC := u80.blk kC
          replace kx := u80.blk kx
          replace ka := u80.blk ka
          replace kb := u80.blk kb
          replace kd := u80.blk kd
          replace ke := u80.blk ke
          replace Uz := Uz.trans u80
          clear u80 
          go_wp2
          go_ret
          exact ⟨rfl, U⟩
        · skip
          go_wp2_with fail
          refine (Cs.out _ U).mono ?_
          rintro e x67 ⟨rfl, u68⟩
          replace U := U.trans u68
          replace kC := u68.blk kC
          replace kx := u68.blk kx
          replace Uz := Uz.trans u68
          clear u68 
          have dkCka := blk_lt kC
          have dkxka := blk_lt kx
          have gka := U.size
          have ka := blk_new x67 (.cells #[.int .i64 ls, .int .i64 hs] 34) _ rfl
          replace kC := blk_keep (.cells #[.int .i64 ls, .int .i64 hs] 34) kC
          replace kx := blk_keep (.cells #[.int .i64 ls, .int .i64 hs] 34) kx
          replace U := U.alloc (.cells #[.int .i64 ls, .int .i64 hs] 34)
          replace Uz := Uz.alloc (.cells #[.int .i64 ls, .int .i64 hs] 34)
          obtain ⟨pka, hpka⟩ : ∃ z, x67.heap.size = z := ⟨_, rfl⟩
          obtain ⟨W69, hW69⟩ : ∃ z, x67.alloc (.cells #[.int .i64 ls, .int .i64 hs] 34) = z := ⟨_, rfl⟩
          rw [hpka] at ka dkCka dkxka gka
          rw [hW69] at ka U kC kx Uz
          go_wp2_with fail
          clear hpka hW69
          refine (Ct.out _ Uz).mono ?_
          rintro e x70 ⟨rfl, u71⟩
          replace U := U.trans u71
          replace kC := u71.blk kC
          replace kx := u71.blk kx
          replace ka := u71.blk ka
          replace Uz := Uz.trans u71
          clear u71 
          have dkCkb := blk_lt kC
          have dkxkb := blk_lt kx
          have dkakb := blk_lt ka
          have gkb := U.size
          have kb := blk_new x70 (.cells #[.int .i64 lt, .int .i64 ht] 34) _ rfl
          replace kC := blk_keep (.cells #[.int .i64 lt, .int .i64 ht] 34) kC
          replace kx := blk_keep (.cells #[.int .i64 lt, .int .i64 ht] 34) kx
          replace ka := blk_keep (.cells #[.int .i64 lt, .int .i64 ht] 34) ka
          replace U := U.alloc (.cells #[.int .i64 lt, .int .i64 ht] 34)
          replace Uz := Uz.alloc (.cells #[.int .i64 lt, .int .i64 ht] 34)
          obtain ⟨pkb, hpkb⟩ : ∃ z, x70.heap.size = z := ⟨_, rfl⟩
          obtain ⟨W72, hW72⟩ : ∃ z, x70.alloc (.cells #[.int .i64 lt, .int .i64 ht] 34) = z := ⟨_, rfl⟩
          rw [hpkb] at kb dkCkb dkxkb dkakb gkb
          rw [hW72] at kb U kC kx ka Uz
          go_wp2_with fail
          clear hpkb hW72
          refine (Cu.out _ U).mono ?_
          rintro e x73 ⟨rfl, u74⟩
          replace U := U.trans u74
          replace kC := u74.blk kC
          replace kx := u74.blk kx
          replace ka := u74.blk ka
          replace kb := u74.blk kb
          replace Uz := Uz.trans u74
          clear u74 
          have dkCkd := blk_lt kC
          have dkxkd := blk_lt kx
          have dkakd := blk_lt ka
          have dkbkd := blk_lt kb
          have gkd := U.size
          have kd := blk_new x73 (.cells #[.int .i64 lu, .int .i64 hu] 34) _ rfl
          replace kC := blk_keep (.cells #[.int .i64 lu, .int .i64 hu] 34) kC
          replace kx := blk_keep (.cells #[.int .i64 lu, .int .i64 hu] 34) kx
          replace ka := blk_keep (.cells #[.int .i64 lu, .int .i64 hu] 34) ka
          replace kb := blk_keep (.cells #[.int .i64 lu, .int .i64 hu] 34) kb
          replace U := U.alloc (.cells #[.int .i64 lu, .int .i64 hu] 34)
          replace Uz := Uz.alloc (.cells #[.int .i64 lu, .int .i64 hu] 34)
          obtain ⟨pkd, hpkd⟩ : ∃ z, x73.heap.size = z := ⟨_, rfl⟩
          obtain ⟨W75, hW75⟩ : ∃ z, x73.alloc (.cells #[.int .i64 lu, .int .i64 hu] 34) = z := ⟨_, rfl⟩
          rw [hpkd] at kd dkCkd dkxkd dkakd dkbkd gkd
          rw [hW75] at kd U kC kx ka kb Uz
          go_wp2_with fail
          clear hpkd hW75
          refine (Cq.out _ Uz).mono ?_
          rintro e x76 ⟨rfl, u77⟩
          replace U := U.trans u77
          replace kC := u77.blk kC
          replace kx := u77.blk kx
          replace ka := u77.blk ka
          replace kb := u77.blk kb
          replace kd := u77.blk kd
          replace Uz := Uz.trans u77
          clear u77 
          have dkCke := blk_lt kC
          have dkxke := blk_lt kx
          have dkake := blk_lt ka
          have dkbke := blk_lt kb
          have dkdke := blk_lt kd
          have gke := U.size
          have ke := blk_new x76 (.cells #[.int .i64 lq, .int .i64 hq] 34) _ rfl
          replace kC := blk_keep (.cells #[.int .i64 lq, .int .i64 hq] 34) kC
          replace kx := blk_keep (.cells #[.int .i64 lq, .int .i64 hq] 34) kx
          replace ka := blk_keep (.cells #[.int .i64 lq, .int .i64 hq] 34) ka
          replace kb := blk_keep (.cells #[.int .i64 lq, .int .i64 hq] 34) kb
          replace kd := blk_keep (.cells #[.int .i64 lq, .int .i64 hq] 34) kd
          replace U := U.alloc (.cells #[.int .i64 lq, .int .i64 hq] 34)
          replace Uz := Uz.alloc (.cells #[.int .i64 lq, .int .i64 hq] 34)
          obtain ⟨pke, hpke⟩ : ∃ z, x76.heap.size = z := ⟨_, rfl⟩
          obtain ⟨W78, hW78⟩ : ∃ z, x76.alloc (.cells #[.int .i64 lq, .int .i64 hq] 34) = z := ⟨_, rfl⟩
          rw [hpke] at ke dkCke dkxke dkake dkbke dkdke gke
          rw [hW78] at ke U kC kx ka kb kd Uz
          go_wp2_with fail
          clear hpke hW78
          refine (HWi.out _ _ _ _ _ f1).mono ?_
          rintro e x79 ⟨rfl, u80⟩
          replace U := U.trans u80
          replace kC := u80.blk kC
          replace kx := u80.blk kx
          replace ka := u80.blk ka
          replace kb := u80.blk kb
          replace kd := u80.blk kd
          replace ke := u80.blk ke
          replace Uz := Uz.trans u80
          clear u80 
          go_wp2_with fail
          refine (HWi.out _ _ _ _ _ f2).mono ?_
          rintro e x81 ⟨rfl, u82⟩
          replace U := U.trans u82
          replace kC := u82.blk kC
          replace kx := u82.blk kx
          replace ka := u82.blk ka
          replace kb := u82.blk kb
          replace kd := u82.blk kd
          replace ke := u82.blk ke
          replace Uz := Uz.trans u82
          clear u82 
          go_wp2_with fail
          refine (HW.out _).mono ?_
          rintro e x83 ⟨rfl, u84⟩
          replace U := U.trans u84
          replace kC := u84.blk kC
          replace kx := u84.blk kx
          replace ka := u84.blk ka
          replace kb := u84.blk kb
          replace kd := u84.blk kd
          replace ke := u84.blk ke
          replace Uz := Uz.trans u84
          clear u84 
          go_wp2
          go_ret
          exact ⟨rfl, U⟩
    · skip
      by_cases hz : ps.length = 0
      · skip
        have d0 : ((ps.length : Int) == 0) = true := by rw [beq_iff_eq]; omega
        clear hz
        go_enter Try.func10, Try.ntmps10
        obtain ⟨q0, e0⟩ : ∃ x, w.heap.size = x := ⟨_, rfl⟩
        have kC := blk_keep (.cells #[.int .i64 n0, .int .i64 n1, .int .i64 n2, .int .i64 n3, .int .i64 n4] 66) (blk_new w (.cells #[.int .i64 H, .slice (some ⟨gR, oR, none⟩) rs.length cR, .slice aO os.length cO, .slice aP ps.length cP] 26) q0 e0.symm)
        have kN := blk_new (w.alloc (.cells #[.int .i64 H, .slice (some ⟨gR, oR, none⟩) rs.length cR, .slice aO os.length cO, .slice aP ps.length cP] 26)) (.cells #[.int .i64 n0, .int .i64 n1, .int .i64 n2, .int .i64 n3, .int .i64 n4] 66) (q0 + 1) (by simp [e0])
        go_wp2_with fail
        refine (HS.out _ U).mono ?_
        rintro e x1 ⟨rfl, u2⟩
        replace U := U.trans u2
        replace kC := u2.blk kC
        replace kN := u2.blk kN
        clear u2 HS
        have i0 := kC
        have i1 := kN
        have dkCkx := blk_lt kC
        have dkNkx := blk_lt kN
        have gkx := U.size
        have kx := blk_new x1 (.cells #[.int .i64 H, .slice (some ⟨gR, oR, none⟩) rs.length cR, .slice aO os.length cO, .slice aP ps.length cP] 26) _ rfl
        replace kC := blk_keep (.cells #[.int .i64 H, .slice (some ⟨gR, oR, none⟩) rs.length cR, .slice aO os.length cO, .slice aP ps.length cP] 26) kC
        replace kN := blk_keep (.cells #[.int .i64 H, .slice (some ⟨gR, oR, none⟩) rs.length cR, .slice aO os.length cO, .slice aP ps.length cP] 26) kN
        replace U := U.alloc (.cells #[.int .i64 H, .slice (some ⟨gR, oR, none⟩) rs.length cR, .slice aO os.length cO, .slice aP ps.length cP] 26)
        obtain ⟨pkx, hpkx⟩ : ∃ z, x1.heap.size = z := ⟨_, rfl⟩
        obtain ⟨W3, hW3⟩ : ∃ z, x1.alloc (.cells #[.int .i64 H, .slice (some ⟨gR, oR, none⟩) rs.length cR, .slice aO os.length cO, .slice aP ps.length cP] 26) = z := ⟨_, rfl⟩
        rw [hpkx] at kx dkCkx dkNkx gkx
        rw [hW3] at kx U kC kN
        go_wp2_with fail
        clear hpkx hW3
        clear i0 i1
        refine (HRbq.out _).mono ?_
        rintro e x4 ⟨rfl, rfl⟩
        clear HRbq
        go_wp2_with fail
        refine (HRcc.out _).mono ?_
        rintro e x5 ⟨rfl, rfl⟩
        clear HRcc
        go_wp2_with fail
        refine (HW.out _).mono ?_
        rintro e x6 ⟨rfl, u7⟩
        replace U := U.trans u7
        replace kC := u7.blk kC
        replace kN := u7.blk kN
        replace kx := u7.blk kx
        clear u7 
        go_wp2
        go_ret
        exact ⟨rfl, U⟩
      · skip
        have d0 : ((ps.length : Int) == 0) = false := by rw [beq_eq_false_iff_ne]; omega
        have HRz := Lib.hid (fun w => B_Rest_any n2 (ps.length : Int) w (by omega) (by omega))
        have az := Int.emod_nonneg n2 (b := (ps.length : Int)) (by omega)
        have bz := Int.emod_lt_of_pos n2 (b := (ps.length : Int)) (by omega)
        generalize n2 % (ps.length : Int) = kk at *
        obtain ⟨kk, rfl⟩ := Int.eq_ofNat_of_zero_le az
        have hkk : kk < ps.length := by omega
        have hbs := HG.out.1.psB (ps.getD kk (0, 0, 0, 0, 0)) (by rw [List.getD_eq_getElem?_getD, List.getElem?_eq_getElem hkk]; exact List.getElem_mem _)
        obtain ⟨⟨r0, r1, r2, r3, r4⟩, hss⟩ : ∃ s, ps.getD kk (0, 0, 0, 0, 0) = s := ⟨_, rfl⟩
        rw [hss] at hbs
        obtain ⟨l', hl⟩ : ∃ z, max (-200000) (r3 - bq) = z := ⟨_, rfl⟩
        obtain ⟨h', hh⟩ : ∃ z, min 200000 (r4 + bq) = z := ⟨_, rfl⟩
        have hMx := max_run hl
        have hMn := min_run hh
        have hb1 : (-200000 ≤ r3 ∧ r3 ≤ 200000) ∧ (-200000 ≤ r4 ∧ r4 ≤ 200000) := hbs.2.2.2.2.1
        have hb2 : r3 ≤ r4 := hbs.2.2.2.2.2
        have z0 : IntKind.i64.wrap (r3 - bq) = r3 - bq := IntWalk.i64_in _ (by omega)
        have z1 : IntKind.i64.wrap (r4 + bq) = r4 + bq := IntWalk.i64_in _ (by omega)
        have G' : T.Good H rs (os) (ps.set kk (r0, r1, r2, l', h')) := T.good_pairs HG.out.1 ⟨hbs.1, hbs.2.1, hbs.2.2.1, hbs.2.2.2.1, ⟨⟨by show -200000 ≤ l'; omega, by show l' ≤ 200000; omega⟩, by show -200000 ≤ h'; omega, by show h' ≤ 200000; omega⟩, by show l' ≤ h'; omega⟩
        have hm' : ∀ y, T.Tr H rs os ps y → T.Tr H rs (os) (ps.set kk (r0, r1, r2, l', h')) y := fun y hy => T.wd_pairs hkk (by rw [hss]) (by rw [hss]) (by rw [hss]) (by rw [hss]; exact ⟨by show l' ≤ r3; omega, by show r4 ≤ h'; omega⟩) hy
        have HGM := Lib.hid (And.intro G' hm')
        clear G' hm' hbs hb1 hb2 hl hh abq bbq
        obtain ⟨a'', c'', e'', _, _, hm⟩ := (HP.out w (Up.refl w)).is
        injection e'' with ea eb ec
        clear eb ec
        obtain ⟨gE, oE, ga, glE, hxE⟩ := hm (by omega)
        subst ea ga
        clear hm
        have HcE := Lib.hid (fun w' (u : Up w w') => And.intro glE (show w'.cell? ⟨gE, oE + kk * 5, none⟩ = some (.int .i64 r0) ∧ w'.cell? ⟨gE, oE + kk * 5 + 1, none⟩ = some (.int .i64 r1) ∧ w'.cell? ⟨gE, oE + kk * 5 + 2, none⟩ = some (.int .i64 r2) ∧ w'.cell? ⟨gE, oE + kk * 5 + 3, none⟩ = some (.int .i64 r3) ∧ w'.cell? ⟨gE, oE + kk * 5 + 4, none⟩ = some (.int .i64 r4) from ⟨by have := hxE kk hkk 0 (by omega); rw [hss] at this; exact (u.facts.1 gE _ glE).trans this, by have := hxE kk hkk 1 (by omega); rw [hss] at this; exact (u.facts.1 gE _ glE).trans this, by have := hxE kk hkk 2 (by omega); rw [hss] at this; exact (u.facts.1 gE _ glE).trans this, by have := hxE kk hkk 3 (by omega); rw [hss] at this; exact (u.facts.1 gE _ glE).trans this, by have := hxE kk hkk 4 (by omega); rw [hss] at this; exact (u.facts.1 gE _ glE).trans this⟩))
        clear hxE glE
        have ikk : (kk : Int) < (ps.length : Int) := by omega
        go_enter Try.func10, Try.ntmps10
        obtain ⟨q0, e0⟩ : ∃ x, w.heap.size = x := ⟨_, rfl⟩
        have kC := blk_keep (.cells #[.int .i64 n0, .int .i64 n1, .int .i64 n2, .int .i64 n3, .int .i64 n4] 66) (blk_new w (.cells #[.int .i64 H, .slice (some ⟨gR, oR, none⟩) rs.length cR, .slice aO os.length cO, .slice (some ⟨gE, oE, none⟩) ps.length cP] 26) q0 e0.symm)
        have kN := blk_new (w.alloc (.cells #[.int .i64 H, .slice (some ⟨gR, oR, none⟩) rs.length cR, .slice aO os.length cO, .slice (some ⟨gE, oE, none⟩) ps.length cP] 26)) (.cells #[.int .i64 n0, .int .i64 n1, .int .i64 n2, .int .i64 n3, .int .i64 n4] 66) (q0 + 1) (by simp [e0])
        go_wp2_with fail
        refine (HS.out _ U).mono ?_
        rintro e x1 ⟨rfl, u2⟩
        replace U := U.trans u2
        replace kC := u2.blk kC
        replace kN := u2.blk kN
        clear u2 HS
        have i0 := kC
        have i1 := kN
        have dkCkx := blk_lt kC
        have dkNkx := blk_lt kN
        have gkx := U.size
        have kx := blk_new x1 (.cells #[.int .i64 H, .slice (some ⟨gR, oR, none⟩) rs.length cR, .slice aO os.length cO, .slice (some ⟨gE, oE, none⟩) ps.length cP] 26) _ rfl
        replace kC := blk_keep (.cells #[.int .i64 H, .slice (some ⟨gR, oR, none⟩) rs.length cR, .slice aO os.length cO, .slice (some ⟨gE, oE, none⟩) ps.length cP] 26) kC
        replace kN := blk_keep (.cells #[.int .i64 H, .slice (some ⟨gR, oR, none⟩) rs.length cR, .slice aO os.length cO, .slice (some ⟨gE, oE, none⟩) ps.length cP] 26) kN
        replace U := U.alloc (.cells #[.int .i64 H, .slice (some ⟨gR, oR, none⟩) rs.length cR, .slice aO os.length cO, .slice (some ⟨gE, oE, none⟩) ps.length cP] 26)
        obtain ⟨pkx, hpkx⟩ : ∃ z, x1.heap.size = z := ⟨_, rfl⟩
        obtain ⟨W3, hW3⟩ : ∃ z, x1.alloc (.cells #[.int .i64 H, .slice (some ⟨gR, oR, none⟩) rs.length cR, .slice aO os.length cO, .slice (some ⟨gE, oE, none⟩) ps.length cP] 26) = z := ⟨_, rfl⟩
        rw [hpkx] at kx dkCkx dkNkx gkx
        rw [hW3] at kx U kC kN
        go_wp2_with fail
        clear hpkx hW3
        clear i0 i1
        refine (HRbq.out _).mono ?_
        rintro e x4 ⟨rfl, rfl⟩
        clear HRbq
        go_wp2_with fail
        refine (HRcc.out _).mono ?_
        rintro e x5 ⟨rfl, rfl⟩
        clear HRcc
        go_wp2_with fail
        refine (HRz.out _).mono ?_
        rintro e x6 ⟨rfl, rfl⟩
        clear HRz az
        obtain ⟨_, d1, d2, d3, d4, d5⟩ := HcE.out _ U
        have i_kC := kC
        have i_kN := kN
        have i_kx := kx
        have dkCkb := blk_lt kC
        have dkNkb := blk_lt kN
        have dkxkb := blk_lt kx
        have gkb := U.size
        have kb := blk_new W3 (.cells #[.int .i64 r0, .int .i64 r1, .int .i64 r2, .int .i64 r3, .int .i64 r4] 61) _ rfl
        replace kC := blk_keep (.cells #[.int .i64 r0, .int .i64 r1, .int .i64 r2, .int .i64 r3, .int .i64 r4] 61) kC
        replace kN := blk_keep (.cells #[.int .i64 r0, .int .i64 r1, .int .i64 r2, .int .i64 r3, .int .i64 r4] 61) kN
        replace kx := blk_keep (.cells #[.int .i64 r0, .int .i64 r1, .int .i64 r2, .int .i64 r3, .int .i64 r4] 61) kx
        replace U := U.alloc (.cells #[.int .i64 r0, .int .i64 r1, .int .i64 r2, .int .i64 r3, .int .i64 r4] 61)
        obtain ⟨pkb, hpkb⟩ : ∃ z, W3.heap.size = z := ⟨_, rfl⟩
        obtain ⟨W7, hW7⟩ : ∃ z, W3.alloc (.cells #[.int .i64 r0, .int .i64 r1, .int .i64 r2, .int .i64 r3, .int .i64 r4] 61) = z := ⟨_, rfl⟩
        rw [hpkb] at kb dkCkb dkNkb dkxkb gkb
        rw [hW7] at kb U kC kN kx
        go_wp2_with fail
        clear hpkb hW7
        clear i_kC i_kN i_kx d1 d2 d3 d4 d5
        refine (HTo.out _ _ _).mono ?_
        rintro e x8 ⟨rfl, u9⟩
        replace U := U.trans u9
        replace kC := u9.blk kC
        replace kN := u9.blk kN
        replace kx := u9.blk kx
        replace kb := u9.blk kb
        clear u9 
        have zf := frozB kb
        have i0 := kb
        have U1 := ((U.set (p := ⟨pkb, 3, none⟩) (show w.heap.size ≤ pkb by omega) (.int .i64 l')).set (p := ⟨pkb, 4, none⟩) (show w.heap.size ≤ pkb by omega) (.int .i64 h'))
        have jkC := kC
        rw [← blk_set (x8) ⟨pkb, 3, none⟩ (.int .i64 l') (q0) (by show q0 ≠ pkb; omega), ← blk_set ((x8).setCell ⟨pkb, 3, none⟩ (.int .i64 l')) ⟨pkb, 4, none⟩ (.int .i64 h') (q0) (by show q0 ≠ pkb; omega)] at jkC
        have jkN := kN
        rw [← blk_set (x8) ⟨pkb, 3, none⟩ (.int .i64 l') (q0 + 1) (by show q0 + 1 ≠ pkb; omega), ← blk_set ((x8).setCell ⟨pkb, 3, none⟩ (.int .i64 l')) ⟨pkb, 4, none⟩ (.int .i64 h') (q0 + 1) (by show q0 + 1 ≠ pkb; omega)] at jkN
        have jkx := kx
        rw [← blk_set (x8) ⟨pkb, 3, none⟩ (.int .i64 l') (pkx) (by show pkx ≠ pkb; omega), ← blk_set ((x8).setCell ⟨pkb, 3, none⟩ (.int .i64 l')) ⟨pkb, 4, none⟩ (.int .i64 h') (pkx) (by show pkx ≠ pkb; omega)] at jkx
        have jkb : mblk (((x8).setCell ⟨pkb, 3, none⟩ (.int .i64 l')).setCell ⟨pkb, 4, none⟩ (.int .i64 h')) pkb = some (.cells #[.int .i64 r0, .int .i64 r1, .int .i64 r2, .int .i64 l', .int .i64 h'] 61 (0, 0)) := (blk_put (blk_put kb 3 (.int .i64 l')) 4 (.int .i64 h'))
        obtain ⟨W10, hW10⟩ : ∃ z, ((x8).setCell ⟨pkb, 3, none⟩ (.int .i64 l')).setCell ⟨pkb, 4, none⟩ (.int .i64 h') = z := ⟨_, rfl⟩
        rw [hW10] at jkC jkN jkx jkb U1
        clear kC kN kx kb U
        have kC := jkC
        have kN := jkN
        have kx := jkx
        have kb := jkb
        have U := U1
        clear jkC jkN jkx jkb U1
        have n01 : ¬ kk * 5 = kk * 5 + 1 := by omega
        have n02 : ¬ kk * 5 = kk * 5 + 2 := by omega
        have n03 : ¬ kk * 5 = kk * 5 + 3 := by omega
        have n04 : ¬ kk * 5 = kk * 5 + 4 := by omega
        have n12 : ¬ kk * 5 + 1 = kk * 5 + 2 := by omega
        have n13 : ¬ kk * 5 + 1 = kk * 5 + 3 := by omega
        have n14 : ¬ kk * 5 + 1 = kk * 5 + 4 := by omega
        have n23 : ¬ kk * 5 + 2 = kk * 5 + 3 := by omega
        have n24 : ¬ kk * 5 + 2 = kk * 5 + 4 := by omega
        have n34 : ¬ kk * 5 + 3 = kk * 5 + 4 := by omega
        have own0 := World.ownsRow_lit (base := W10.heap.size) (e := 61) (size := 5) W10 #[] 0 (Nat.le_refl _) (by unfold maxLen; omega) rfl
        obtain ⟨pe, hpe⟩ : ∃ z, W10.heap.size = z := ⟨_, rfl⟩
        have IX1 := HP.out _ (U.alloc (.cells #[] 61))
        have U1 := U.alloc (.cells #[] 61)
        have jkC := blk_keep (.cells #[] 61) kC
        have lkC := blk_lt kC
        have jkN := blk_keep (.cells #[] 61) kN
        have lkN := blk_lt kN
        have jkx := blk_keep (.cells #[] 61) kx
        have lkx := blk_lt kx
        have jkb := blk_keep (.cells #[] 61) kb
        have lkb := blk_lt kb
        rw [hpe] at own0 lkC lkN lkx lkb
        have gw := U.size
        rw [hpe] at gw
        go_wp2_with (at_builtin; refine T.wpList_app (ys := []) T.elP rfl (.tmp 63) (.tmp 65) rfl IX1 rfl pe _ 0 rfl own0 (by omega) (by omega) (by simp [hpe]) ?_; intro v1 w1 own1 grow1; rw [Nat.zero_add] at own1; have rkC := grown_blk grow1 jkC (row_block own0 lkC); have rkN := grown_blk grow1 jkN (row_block own0 lkN); have rkx := grown_blk grow1 jkx (row_block own0 lkx); have rkb := grown_blk grow1 jkb (row_block own0 lkb); have U2 : Up w w1 := U1.grown grow1 (fun k e => by (have := row_base own0 k e; omega)); obtain ⟨g2, c2, cur, rfl, hg2, kg, hc2, hm2, hz2⟩ := row_open own1 (by omega); have zx := frozB rkx; have x3 := blk_put rkx 3 (.slice (some ⟨g2, 0, none⟩) ps.length c2); have sgb := (blk_set w1 ⟨pkx, 3, none⟩ (.slice (some ⟨g2, 0, none⟩) ps.length c2) g2 (by show g2 ≠ pkx; omega)).trans kg; have skb := (blk_set w1 ⟨pkx, 3, none⟩ (.slice (some ⟨g2, 0, none⟩) ps.length c2) pkb (by show pkb ≠ pkx; omega)).trans rkb; have zg := frozB sgb; have IXw : Tab 5 T.encP (0, 0, 0, 0, 0) w1 (.slice (some ⟨g2, 0, none⟩) ps.length c2) ps := Tab.of_row own1 (by decide) (by omega); have cg := IXw.at0 hkk; rw [hss] at cg; have sg0 : (w1.setCell ⟨pkx, 3, none⟩ (.slice (some ⟨g2, 0, none⟩) ps.length c2)).cell? ⟨g2, kk * 5, none⟩ = some (.int .i64 r0) := ((cellB sgb _).trans (cellB kg _).symm).trans (cg 0 (by omega)); have sg1 : (w1.setCell ⟨pkx, 3, none⟩ (.slice (some ⟨g2, 0, none⟩) ps.length c2)).cell? ⟨g2, kk * 5 + 1, none⟩ = some (.int .i64 r1) := ((cellB sgb _).trans (cellB kg _).symm).trans (cg 1 (by omega)); have sg2 : (w1.setCell ⟨pkx, 3, none⟩ (.slice (some ⟨g2, 0, none⟩) ps.length c2)).cell? ⟨g2, kk * 5 + 2, none⟩ = some (.int .i64 r2) := ((cellB sgb _).trans (cellB kg _).symm).trans (cg 2 (by omega)); have sg3 : (w1.setCell ⟨pkx, 3, none⟩ (.slice (some ⟨g2, 0, none⟩) ps.length c2)).cell? ⟨g2, kk * 5 + 3, none⟩ = some (.int .i64 r3) := ((cellB sgb _).trans (cellB kg _).symm).trans (cg 3 (by omega)); have sg4 : (w1.setCell ⟨pkx, 3, none⟩ (.slice (some ⟨g2, 0, none⟩) ps.length c2)).cell? ⟨g2, kk * 5 + 4, none⟩ = some (.int .i64 r4) := ((cellB sgb _).trans (cellB kg _).symm).trans (cg 4 (by omega)); clear cg IXw)
        obtain ⟨W11, hW11⟩ : ∃ z, w1.setCell ⟨pkx, 3, none⟩ (.slice (some ⟨g2, 0, none⟩) ps.length c2) = z := ⟨_, rfl⟩
        have ltg : pkx < g2 := by omega
        have own3 : W11.ownsRow pe 61 5 (.slice (some ⟨g2, 0, none⟩) ps.length c2) ps.length (T.flat 5 T.encP ps) := by
          rw [← hW11]
          exact row_other own1 (grown_set w1 pkx 3 _) (row_block own1 lkx)
        have IX2 : Tab 5 T.encP (0, 0, 0, 0, 0) W11 (.slice (some ⟨g2, 0, none⟩) ps.length c2) ps := Tab.of_row own3 (by decide) (by omega)
        have U4 : Up w W11 := by rw [← hW11]; exact U2.set (p := ⟨pkx, 3, none⟩) (show w.heap.size ≤ pkx by omega) _
        have jg : mblk W11 g2 = some (.cells cur 61 (0, 0)) := by rw [← hW11, blk_set _ _ _ _ (by show g2 ≠ pkx; omega)]; exact kg
        have jx4 : mblk W11 pkx = some (.cells #[.int .i64 H, .slice (some ⟨gR, oR, none⟩) rs.length cR, .slice aO os.length cO, .slice (some ⟨g2, 0, none⟩) ps.length c2] 26 (0, 0)) := by rw [← hW11]; exact x3
        have ykC : mblk W11 (q0) = some (.cells #[.int .i64 H, .slice (some ⟨gR, oR, none⟩) rs.length cR, .slice aO os.length cO, .slice (some ⟨gE, oE, none⟩) ps.length cP] 26 (0, 0)) := by rw [← hW11, blk_set _ _ _ _ (by show q0 ≠ pkx; omega)]; exact rkC
        have ykN : mblk W11 (q0 + 1) = some (.cells #[.int .i64 n0, .int .i64 n1, .int .i64 n2, .int .i64 n3, .int .i64 n4] 66 (0, 0)) := by rw [← hW11, blk_set _ _ _ _ (by show q0 + 1 ≠ pkx; omega)]; exact rkN
        have ykb : mblk W11 (pkb) = some (.cells #[.int .i64 r0, .int .i64 r1, .int .i64 r2, .int .i64 l', .int .i64 h'] 61 (0, 0)) := by rw [← hW11, blk_set _ _ _ _ (by show pkb ≠ pkx; omega)]; exact rkb
        have dgkC : q0 < g2 := by omega
        have dgkN : q0 + 1 < g2 := by omega
        have dgkb : pkb < g2 := by omega
        rw [hW11]
        clear hW11 x3 zx kg own1 own3 U2 U1 own0 IX1 grow1 U hpe rkC jkC kC rkN jkN kN rkx jkx kx rkb jkb kb
        have U := U4
        have kx := jx4
        have kg := jg
        clear U4 jx4 jg
        have kC := ykC
        clear ykC
        have kN := ykN
        clear ykN
        have kb := ykb
        clear ykb
        clear sgb skb zg sg0 sg1 sg2 sg3 sg4 n01 n02 n03 n04 n12 n13 n14 n23 n24 n34
        have IX3 := Tab.put5 (a := r0) (b := r1) (c' := r2) (e := l') (f := h') (x := (r0, r1, r2, l', h')) IX2 kg (by omega) hkk rfl rfl rfl rfl rfl
        have U5 := (((((U.set (p := ⟨g2, kk * 5, none⟩) (show w.heap.size ≤ g2 by omega) (.int .i64 r0)).set (p := ⟨g2, kk * 5 + 1, none⟩) (show w.heap.size ≤ g2 by omega) (.int .i64 r1)).set (p := ⟨g2, kk * 5 + 2, none⟩) (show w.heap.size ≤ g2 by omega) (.int .i64 r2)).set (p := ⟨g2, kk * 5 + 3, none⟩) (show w.heap.size ≤ g2 by omega) (.int .i64 l')).set (p := ⟨g2, kk * 5 + 4, none⟩) (show w.heap.size ≤ g2 by omega) (.int .i64 h'))
        have jkC : mblk (((((W11.setCell ⟨g2, kk * 5, none⟩ (.int .i64 r0)).setCell ⟨g2, kk * 5 + 1, none⟩ (.int .i64 r1)).setCell ⟨g2, kk * 5 + 2, none⟩ (.int .i64 r2)).setCell ⟨g2, kk * 5 + 3, none⟩ (.int .i64 l')).setCell ⟨g2, kk * 5 + 4, none⟩ (.int .i64 h')) (q0) = some (.cells #[.int .i64 H, .slice (some ⟨gR, oR, none⟩) rs.length cR, .slice aO os.length cO, .slice (some ⟨gE, oE, none⟩) ps.length cP] 26 (0, 0)) := by rw [blk_set _ _ _ _ (by show q0 ≠ g2; omega), blk_set _ _ _ _ (by show q0 ≠ g2; omega), blk_set _ _ _ _ (by show q0 ≠ g2; omega), blk_set _ _ _ _ (by show q0 ≠ g2; omega), blk_set _ _ _ _ (by show q0 ≠ g2; omega)]; exact kC
        have jkN : mblk (((((W11.setCell ⟨g2, kk * 5, none⟩ (.int .i64 r0)).setCell ⟨g2, kk * 5 + 1, none⟩ (.int .i64 r1)).setCell ⟨g2, kk * 5 + 2, none⟩ (.int .i64 r2)).setCell ⟨g2, kk * 5 + 3, none⟩ (.int .i64 l')).setCell ⟨g2, kk * 5 + 4, none⟩ (.int .i64 h')) (q0 + 1) = some (.cells #[.int .i64 n0, .int .i64 n1, .int .i64 n2, .int .i64 n3, .int .i64 n4] 66 (0, 0)) := by rw [blk_set _ _ _ _ (by show q0 + 1 ≠ g2; omega), blk_set _ _ _ _ (by show q0 + 1 ≠ g2; omega), blk_set _ _ _ _ (by show q0 + 1 ≠ g2; omega), blk_set _ _ _ _ (by show q0 + 1 ≠ g2; omega), blk_set _ _ _ _ (by show q0 + 1 ≠ g2; omega)]; exact kN
        have jkx : mblk (((((W11.setCell ⟨g2, kk * 5, none⟩ (.int .i64 r0)).setCell ⟨g2, kk * 5 + 1, none⟩ (.int .i64 r1)).setCell ⟨g2, kk * 5 + 2, none⟩ (.int .i64 r2)).setCell ⟨g2, kk * 5 + 3, none⟩ (.int .i64 l')).setCell ⟨g2, kk * 5 + 4, none⟩ (.int .i64 h')) (pkx) = some (.cells #[.int .i64 H, .slice (some ⟨gR, oR, none⟩) rs.length cR, .slice aO os.length cO, .slice (some ⟨g2, 0, none⟩) ps.length c2] 26 (0, 0)) := by rw [blk_set _ _ _ _ (by show pkx ≠ g2; omega), blk_set _ _ _ _ (by show pkx ≠ g2; omega), blk_set _ _ _ _ (by show pkx ≠ g2; omega), blk_set _ _ _ _ (by show pkx ≠ g2; omega), blk_set _ _ _ _ (by show pkx ≠ g2; omega)]; exact kx
        have jkb : mblk (((((W11.setCell ⟨g2, kk * 5, none⟩ (.int .i64 r0)).setCell ⟨g2, kk * 5 + 1, none⟩ (.int .i64 r1)).setCell ⟨g2, kk * 5 + 2, none⟩ (.int .i64 r2)).setCell ⟨g2, kk * 5 + 3, none⟩ (.int .i64 l')).setCell ⟨g2, kk * 5 + 4, none⟩ (.int .i64 h')) (pkb) = some (.cells #[.int .i64 r0, .int .i64 r1, .int .i64 r2, .int .i64 l', .int .i64 h'] 61 (0, 0)) := by rw [blk_set _ _ _ _ (by show pkb ≠ g2; omega), blk_set _ _ _ _ (by show pkb ≠ g2; omega), blk_set _ _ _ _ (by show pkb ≠ g2; omega), blk_set _ _ _ _ (by show pkb ≠ g2; omega), blk_set _ _ _ _ (by show pkb ≠ g2; omega)]; exact kb
        obtain ⟨W12, hW12⟩ : ∃ z, (((((W11.setCell ⟨g2, kk * 5, none⟩ (.int .i64 r0)).setCell ⟨g2, kk * 5 + 1, none⟩ (.int .i64 r1)).setCell ⟨g2, kk * 5 + 2, none⟩ (.int .i64 r2)).setCell ⟨g2, kk * 5 + 3, none⟩ (.int .i64 l')).setCell ⟨g2, kk * 5 + 4, none⟩ (.int .i64 h')) = z := ⟨_, rfl⟩
        rw [hW12] at IX3 U5 jkC jkN jkx jkb
        try rw [hW12]
        clear kC kN kx kb U kg IX2 HcE hMx hMn z0 z1
        have U := U5
        have kC := jkC
        have kN := jkN
        have kx := jkx
        have kb := jkb
        clear U5 jkC jkN jkx jkb
        skip
        try clear hW12
        clear kb
        obtain ⟨G', hm'⟩ := HGM.out
        have HU := Lib.hid U
        have Uz := Up.refl W12
        have hl' : (rs).length = rs.length := rfl
        have hk' : 0 ≤ k ∧ k < ((rs).length : Int) := by rw [hl']; exact HQ.out.1
        have h0' : (0 : Int) ≤ 0 ∧ (0 : Int) < ((rs).length : Int) := by rw [hl']; have := HQ.out.1; omega
        have hh' : 0 ≤ h ∧ h ≤ (H : Int) := ⟨HQ.out.2.1, by have := HQ.out.2.2; omega⟩
        obtain ⟨lt, ht, et, tt⟩ := T.Tells.ex (m1 := (k, h)) (m2 := (-1, 0)) G' (T.mom_in hk' hh') T.mom_0
        obtain ⟨lq, hq, eq, tq⟩ := T.Tells.ex (m1 := (k, h)) (m2 := (0, h)) G' (T.mom_in hk' hh') (T.mom_in h0' hh')
        obtain rfl := tt.same tq
        have Ct := Lib.hid (fun w' (u : Up W12 w') => Offset_tells G' hk' hh' tt (HI.out _ (HU.out.trans u)) (HO.out _ (HU.out.trans u)) (IX3.up u))
        have Cq := Lib.hid (fun w' (u : Up W12 w') => Apart_tells G' hk' h0' hh' tq (HI.out _ (HU.out.trans u)) (HO.out _ (HU.out.trans u)) (IX3.up u))
        have key1 := HG.out.2.1.wider hm' tt
        have key2 := HG.out.2.2.wider hm' tq
        have et' := tt.err
        have HF := Lib.hid (show (es = 22 ∧ ls = 0 ∧ hs = 0 ∧ lu = 0 ∧ hu = 0 ∧ (et = 0 ∨ (et = 22 ∧ lt = 0 ∧ ht = 0 ∧ lq = 0 ∧ hq = 0))) ∨ (es = 0 ∧ et = 0 ∧ (lt ≤ ls ∧ hs ≤ ht) ∧ (lq ≤ lu ∧ hu ≤ hq)) from by
          rcases key1 with ⟨a1, a2, a3⟩ | ⟨a1, a2, a3⟩
          · rcases key2 with ⟨_, b2, b3⟩ | ⟨b1, _⟩
            · rcases et' with c1 | ⟨c1, c2, c3⟩
              · exact .inl ⟨a1, a2, a3, b2, b3, .inl c1⟩
              · have d := tq.no (by omega)
                exact .inl ⟨a1, a2, a3, b2, b3, .inr ⟨c1, c2, c3, d.2.1, d.2.2.1⟩⟩
            · omega
          · rcases key2 with ⟨b1, _⟩ | ⟨_, _, b3⟩
            · omega
            · exact .inr ⟨a1, a2, a3, b3⟩)
        clear tt tq key1 key2 et' hk' h0' hh' hl' G' hm'
        have F14 := Lib.hid (fun w (u : Up W12 w) => cellB (u.blk kC))
        have F15 := Lib.hid (fun w (u : Up W12 w) => cellB (u.blk kN))
        have F16 := Lib.hid (fun w (u : Up W12 w) => cellB (u.blk kx))
        refine (wpIn_wide (n := 5)).1 ?_
        refine wpIn_nrm ?_
        refine T.regionQ (fun w' => Up W12 w') 13 1 hmx (by kernel_rfl) (by kernel_rfl) ((Up.refl W12).drew) (fun hCl => ?_)
        refine T.qTake (i := 0) (d := (some 151)) (v := ?v50) rfl rfl (by kernel_rfl) (by decide) hCl (by kernel_rfl) (by kernel_rfl) (by kernel_rfl) (by rfl) ?hy50 (fun _ _ _ => trivial) (fun hCl' => ?_)
        case hy50 => (intro w hSw; refine T.qVal ?_ hSw; (have fF14 := F14.out w hSw; have fF15 := F15.out w hSw; have fF16 := F16.out w hSw); (try dsimp only [List.getElem_toArray, List.getElem_cons_succ, List.getElem_cons_zero]); go_simp; try with_reducible rfl)
        simp only [Act.put, List.setIfInBounds_toArray, List.set_cons_zero, List.set_cons_succ]
        replace hCl := hCl'; clear hCl'
        refine T.qTake (i := 2) (d := (some 153)) (v := ?v51) rfl rfl (by kernel_rfl) (by decide) hCl (by kernel_rfl) (by kernel_rfl) (by kernel_rfl) (by rfl) ?hy51 (fun _ _ _ => trivial) (fun hCl' => ?_)
        case hy51 => (intro w hSw; refine T.qVal ?_ hSw; (have fF14 := F14.out w hSw; have fF15 := F15.out w hSw; have fF16 := F16.out w hSw); (try dsimp only [List.getElem_toArray, List.getElem_cons_succ, List.getElem_cons_zero]); go_simp; try with_reducible rfl)
        simp only [Act.put, List.setIfInBounds_toArray, List.set_cons_zero, List.set_cons_succ]
        replace hCl := hCl'; clear hCl'
        refine T.qTake (i := 6) (d := (some 157)) (v := ?v52) rfl rfl (by kernel_rfl) (by decide) hCl (by kernel_rfl) (by kernel_rfl) (by kernel_rfl) (by rfl) ?hy52 (fun _ _ _ => trivial) (fun hCl' => ?_)
        case hy52 => (intro w hSw; refine T.qVal ?_ hSw; (have fF14 := F14.out w hSw; have fF15 := F15.out w hSw; have fF16 := F16.out w hSw); (try dsimp only [List.getElem_toArray, List.getElem_cons_succ, List.getElem_cons_zero]); go_simp; try with_reducible rfl)
        simp only [Act.put, List.setIfInBounds_toArray, List.set_cons_zero, List.set_cons_succ]
        replace hCl := hCl'; clear hCl'
        refine T.qTake (i := 8) (d := (some 159)) (v := ?v53) rfl rfl (by kernel_rfl) (by decide) hCl (by kernel_rfl) (by kernel_rfl) (by kernel_rfl) (by rfl) ?hy53 (fun _ _ _ => trivial) (fun hCl' => ?_)
        case hy53 => (intro w hSw; refine T.qVal ?_ hSw; (have fF14 := F14.out w hSw; have fF15 := F15.out w hSw; have fF16 := F16.out w hSw); (try dsimp only [List.getElem_toArray, List.getElem_cons_succ, List.getElem_cons_zero]); go_simp; try with_reducible rfl)
        simp only [Act.put, List.setIfInBounds_toArray, List.set_cons_zero, List.set_cons_succ]
        replace hCl := hCl'; clear hCl'
        refine T.qTake (i := 1) (d := (some 152)) (v := ?v54) rfl rfl (by kernel_rfl) (by decide) hCl (by kernel_rfl) (by kernel_rfl) (by kernel_rfl) (by rfl) ?hy54 (fun _ _ _ => trivial) (fun hCl' => ?_)
        case hy54 => (intro w hSw; refine T.qVal ?_ hSw; (have fF14 := F14.out w hSw; have fF15 := F15.out w hSw; have fF16 := F16.out w hSw); (try dsimp only [List.getElem_toArray, List.getElem_cons_succ, List.getElem_cons_zero]); go_simp; try with_reducible rfl)
        simp only [Act.put, List.setIfInBounds_toArray, List.set_cons_zero, List.set_cons_succ]
        replace hCl := hCl'; clear hCl'
        refine T.qTake (i := 3) (d := (some 154)) (v := ?v55) rfl rfl (by kernel_rfl) (by decide) hCl (by kernel_rfl) (by kernel_rfl) (by kernel_rfl) (by rfl) ?hy55 (fun _ _ _ => trivial) (fun hCl' => ?_)
        case hy55 => (intro w hSw; refine T.qVal ?_ hSw; (have fF14 := F14.out w hSw; have fF15 := F15.out w hSw; have fF16 := F16.out w hSw); (try dsimp only [List.getElem_toArray, List.getElem_cons_succ, List.getElem_cons_zero]); go_simp; try with_reducible rfl)
        simp only [Act.put, List.setIfInBounds_toArray, List.set_cons_zero, List.set_cons_succ]
        replace hCl := hCl'; clear hCl'
        refine T.qTake (i := 7) (d := (some 158)) (v := ?v56) rfl rfl (by kernel_rfl) (by decide) hCl (by kernel_rfl) (by kernel_rfl) (by kernel_rfl) (by rfl) ?hy56 (fun _ _ _ => trivial) (fun hCl' => ?_)
        case hy56 => (intro w hSw; refine T.qVal ?_ hSw; (have fF14 := F14.out w hSw; have fF15 := F15.out w hSw; have fF16 := F16.out w hSw); (try dsimp only [List.getElem_toArray, List.getElem_cons_succ, List.getElem_cons_zero]); go_simp; try with_reducible rfl)
        simp only [Act.put, List.setIfInBounds_toArray, List.set_cons_zero, List.set_cons_succ]
        replace hCl := hCl'; clear hCl'
        refine T.qTake (i := 9) (d := (some 160)) (v := ?v57) rfl rfl (by kernel_rfl) (by decide) hCl (by kernel_rfl) (by kernel_rfl) (by kernel_rfl) (by rfl) ?hy57 (fun _ _ _ => trivial) (fun hCl' => ?_)
        case hy57 => (intro w hSw; refine T.qVal ?_ hSw; (have fF14 := F14.out w hSw; have fF15 := F15.out w hSw; have fF16 := F16.out w hSw); (try dsimp only [List.getElem_toArray, List.getElem_cons_succ, List.getElem_cons_zero]); go_simp; try with_reducible rfl)
        simp only [Act.put, List.setIfInBounds_toArray, List.set_cons_zero, List.set_cons_succ]
        replace hCl := hCl'; clear hCl'
        refine T.qTake (i := 4) (d := (some 155)) (v := ?v58) rfl rfl (by kernel_rfl) (by decide) hCl (by kernel_rfl) (by kernel_rfl) (by kernel_rfl) (by rfl) ?hy58 (fun _ _ _ => trivial) (fun hCl' => ?_)
        case hy58 => (intro w hSw; refine T.qVal ?_ hSw; (have fF14 := F14.out w hSw; have fF15 := F15.out w hSw; have fF16 := F16.out w hSw); (try dsimp only [List.getElem_toArray, List.getElem_cons_succ, List.getElem_cons_zero]); go_simp; try with_reducible rfl)
        simp only [Act.put, List.setIfInBounds_toArray, List.set_cons_zero, List.set_cons_succ]
        replace hCl := hCl'; clear hCl'
        refine T.qTake (i := 10) (d := (some 161)) (v := ?v59) rfl rfl (by kernel_rfl) (by decide) hCl (by kernel_rfl) (by kernel_rfl) (by kernel_rfl) (by rfl) ?hy59 (fun _ _ _ => trivial) (fun hCl' => ?_)
        case hy59 => (intro w hSw; refine T.qVal ?_ hSw; (have fF14 := F14.out w hSw; have fF15 := F15.out w hSw; have fF16 := F16.out w hSw); (try dsimp only [List.getElem_toArray, List.getElem_cons_succ, List.getElem_cons_zero]); go_simp; try with_reducible rfl)
        simp only [Act.put, List.setIfInBounds_toArray, List.set_cons_zero, List.set_cons_succ]
        replace hCl := hCl'; clear hCl'
        refine T.qTake (i := 5) (d := (some 156)) (v := ((.int .i64 k))) rfl rfl (by kernel_rfl) (by decide) hCl (by kernel_rfl) (by kernel_rfl) (by kernel_rfl) (by rfl) ?hy60 (fun _ _ _ => trivial) (fun hCl' => ?_)
        case hy60 => (intro w hSw; (have fF14 := F14.out w hSw; have fF15 := F15.out w hSw; have fF16 := F16.out w hSw); (try dsimp only [List.getElem_toArray, List.getElem_cons_succ, List.getElem_cons_zero]); go_simp; (refine (callsIn_wide.2 (HRk.out w)).mono ?_; rintro e w3 ⟨rfl, rfl⟩; exact ⟨rfl, hSw⟩))
        simp only [Act.put, List.setIfInBounds_toArray, List.set_cons_zero, List.set_cons_succ]
        replace hCl := hCl'; clear hCl'
        refine T.qTake (i := 11) (d := (some 162)) (v := ((.int .i64 h))) rfl rfl (by kernel_rfl) (by decide) hCl (by kernel_rfl) (by kernel_rfl) (by kernel_rfl) (by rfl) ?hy61 (fun _ _ _ => trivial) (fun hCl' => ?_)
        case hy61 => (intro w hSw; (have fF14 := F14.out w hSw; have fF15 := F15.out w hSw; have fF16 := F16.out w hSw); (try dsimp only [List.getElem_toArray, List.getElem_cons_succ, List.getElem_cons_zero]); go_simp; (refine (callsIn_wide.2 (HRh.out w)).mono ?_; rintro e w3 ⟨rfl, rfl⟩; exact ⟨rfl, hSw⟩))
        simp only [Act.put, List.setIfInBounds_toArray, List.set_cons_zero, List.set_cons_succ]
        replace hCl := hCl'; clear hCl'
        refine T.qTake (i := 12) (d := (some 12)) (v := ?v62) rfl rfl (by kernel_rfl) (by decide) hCl (by kernel_rfl) (by kernel_rfl) (by kernel_rfl) (by rfl) ?hy62 (fun _ _ _ => trivial) (fun hCl' => ?_)
        case hy62 => (intro w hSw; refine T.qVal ?_ hSw; (have fF14 := F14.out w hSw; have fF15 := F15.out w hSw; have fF16 := F16.out w hSw); (try dsimp only [List.getElem_toArray, List.getElem_cons_succ, List.getElem_cons_zero]); go_simp; try with_reducible rfl)
        simp only [Act.put, List.setIfInBounds_toArray, List.set_cons_zero, List.set_cons_succ]
        replace hCl := hCl'; clear hCl'
        refine T.tail_intro (by kernel_rfl) (fun Y13 hY13 => ?_)
        replace U := U.trans hY13
        replace kC := hY13.blk kC
        replace kN := hY13.blk kN
        replace kx := hY13.blk kx
        replace Uz := Uz.trans hY13
        clear F14 F15 F16 hY13
        refine lastG (i := 13) (by kernel_rfl) rfl (by rfl) (by decide) (fun K hK => ?_)
        go_simp
        refine hK.out _ _ ?_
        clear hK K
        refine doneG (by kernel_rfl) ?_ _
        refine S.nrm_intro ?_
        clear HRk HRh wH
        clear kN
        rcases HF.out with ⟨rfl, rfl, rfl, rfl, rfl, rfl | ⟨rfl, rfl, rfl, rfl, rfl⟩⟩ | ⟨rfl, rfl, f1, f2⟩
        · skip
          go_wp2_with fail
          refine (Cs.out _ U).mono ?_
          rintro e x67 ⟨rfl, u68⟩
          replace U := U.trans u68
          replace kC := u68.blk kC
          replace kx := u68.blk kx
          replace Uz := Uz.trans u68
          clear u68 
          have dkCka := blk_lt kC
          have dkxka := blk_lt kx
          have gka := U.size
          have ka := blk_new x67 (.cells #[.int .i64 0, .int .i64 0] 34) _ rfl
          replace kC := blk_keep (.cells #[.int .i64 0, .int .i64 0] 34) kC
          replace kx := blk_keep (.cells #[.int .i64 0, .int .i64 0] 34) kx
          replace U := U.alloc (.cells #[.int .i64 0, .int .i64 0] 34)
          replace Uz := Uz.alloc (.cells #[.int .i64 0, .int .i64 0] 34)
          go_wp2_with fail
          obtain ⟨pka, hpka⟩ : ∃ z, x67.heap.size = z := ⟨_, rfl⟩
          obtain ⟨W69, hW69⟩ : ∃ z, x67.alloc (.cells #[.int .i64 0, .int .i64 0] 34) = z := ⟨_, rfl⟩
          rw [hpka] at ka dkCka dkxka gka
          rw [hW69] at ka U kC kx Uz
          rw [hW69, hpka]
          go_wp2_with fail
          clear hpka hW69
          refine (Ct.out _ Uz).mono ?_
          rintro e x70 ⟨rfl, u71⟩
          replace U := U.trans u71
          replace kC := u71.blk kC
          replace kx := u71.blk kx
          replace ka := u71.blk ka
          replace Uz := Uz.trans u71
          clear u71 
          have dkCkb := blk_lt kC
          have dkxkb := blk_lt kx
          have dkakb := blk_lt ka
          have gkb := U.size
          have kb := blk_new x70 (.cells #[.int .i64 lt, .int .i64 ht] 34) _ rfl
          replace kC := blk_keep (.cells #[.int .i64 lt, .int .i64 ht] 34) kC
          replace kx := blk_keep (.cells #[.int .i64 lt, .int .i64 ht] 34) kx
          replace ka := blk_keep (.cells #[.int .i64 lt, .int .i64 ht] 34) ka
          replace U := U.alloc (.cells #[.int .i64 lt, .int .i64 ht] 34)
          replace Uz := Uz.alloc (.cells #[.int .i64 lt, .int .i64 ht] 34)
          obtain ⟨pkb, hpkb⟩ : ∃ z, x70.heap.size = z := ⟨_, rfl⟩
          obtain ⟨W72, hW72⟩ : ∃ z, x70.alloc (.cells #[.int .i64 lt, .int .i64 ht] 34) = z := ⟨_, rfl⟩
          rw [hpkb] at kb dkCkb dkxkb dkakb gkb
          rw [hW72] at kb U kC kx ka Uz
          go_wp2_with fail
          clear hpkb hW72
          refine (Cu.out _ U).mono ?_
          rintro e x73 ⟨rfl, u74⟩
          replace U := U.trans u74
          replace kC := u74.blk kC
          replace kx := u74.blk kx
          replace ka := u74.blk ka
          replace kb := u74.blk kb
          replace Uz := Uz.trans u74
          clear u74 
          have dkCkd := blk_lt kC
          have dkxkd := blk_lt kx
          have dkakd := blk_lt ka
          have dkbkd := blk_lt kb
          have gkd := U.size
          have kd := blk_new x73 (.cells #[.int .i64 0, .int .i64 0] 34) _ rfl
          replace kC := blk_keep (.cells #[.int .i64 0, .int .i64 0] 34) kC
          replace kx := blk_keep (.cells #[.int .i64 0, .int .i64 0] 34) kx
          replace ka := blk_keep (.cells #[.int .i64 0, .int .i64 0] 34) ka
          replace kb := blk_keep (.cells #[.int .i64 0, .int .i64 0] 34) kb
          replace U := U.alloc (.cells #[.int .i64 0, .int .i64 0] 34)
          replace Uz := Uz.alloc (.cells #[.int .i64 0, .int .i64 0] 34)
          go_wp2_with fail
          obtain ⟨pkd, hpkd⟩ : ∃ z, x73.heap.size = z := ⟨_, rfl⟩
          obtain ⟨W75, hW75⟩ : ∃ z, x73.alloc (.cells #[.int .i64 0, .int .i64 0] 34) = z := ⟨_, rfl⟩
          rw [hpkd] at kd dkCkd dkxkd dkakd dkbkd gkd
          rw [hW75] at kd U kC kx ka kb Uz
          rw [hW75, hpkd]
          go_wp2_with fail
          clear hpkd hW75
          refine (Cq.out _ Uz).mono ?_
          rintro e x76 ⟨rfl, u77⟩
          replace U := U.trans u77
          replace kC := u77.blk kC
          replace kx := u77.blk kx
          replace ka := u77.blk ka
          replace kb := u77.blk kb
          replace kd := u77.blk kd
          replace Uz := Uz.trans u77
          clear u77 
          have dkCke := blk_lt kC
          have dkxke := blk_lt kx
          have dkake := blk_lt ka
          have dkbke := blk_lt kb
          have dkdke := blk_lt kd
          have gke := U.size
          have ke := blk_new x76 (.cells #[.int .i64 lq, .int .i64 hq] 34) _ rfl
          replace kC := blk_keep (.cells #[.int .i64 lq, .int .i64 hq] 34) kC
          replace kx := blk_keep (.cells #[.int .i64 lq, .int .i64 hq] 34) kx
          replace ka := blk_keep (.cells #[.int .i64 lq, .int .i64 hq] 34) ka
          replace kb := blk_keep (.cells #[.int .i64 lq, .int .i64 hq] 34) kb
          replace kd := blk_keep (.cells #[.int .i64 lq, .int .i64 hq] 34) kd
          replace U := U.alloc (.cells #[.int .i64 lq, .int .i64 hq] 34)
          replace Uz := Uz.alloc (.cells #[.int .i64 lq, .int .i64 hq] 34)
          obtain ⟨pke, hpke⟩ : ∃ z, x76.heap.size = z := ⟨_, rfl⟩
          obtain ⟨W78, hW78⟩ : ∃ z, x76.alloc (.cells #[.int .i64 lq, .int .i64 hq] 34) = z := ⟨_, rfl⟩
          rw [hpke] at ke dkCke dkxke dkake dkbke dkdke gke
          rw [hW78] at ke U kC kx ka kb kd Uz
          go_wp2_with fail
          clear hpke hW78
          refine (HW.out _).mono ?_
          rintro e x79 ⟨rfl, u80⟩
          replace U := U.trans u80
          replace kC := u80.blk kC
          replace kx := u80.blk kx
          replace ka := u80.blk ka
          replace kb := u80.blk kb
          replace kd := u80.blk kd
          replace ke := u80.blk ke
          replace Uz := Uz.trans u80
          clear u80 
          go_wp2
          go_ret
          exact ⟨rfl, U⟩
        · skip
          go_wp2_with fail
          refine (Cs.out _ U).mono ?_
          rintro e x67 ⟨rfl, u68⟩
          replace U := U.trans u68
          replace kC := u68.blk kC
          replace kx := u68.blk kx
          replace Uz := Uz.trans u68
          clear u68 
          have dkCka := blk_lt kC
          have dkxka := blk_lt kx
          have gka := U.size
          have ka := blk_new x67 (.cells #[.int .i64 0, .int .i64 0] 34) _ rfl
          replace kC := blk_keep (.cells #[.int .i64 0, .int .i64 0] 34) kC
          replace kx := blk_keep (.cells #[.int .i64 0, .int .i64 0] 34) kx
          replace U := U.alloc (.cells #[.int .i64 0, .int .i64 0] 34)
          replace Uz := Uz.alloc (.cells #[.int .i64 0, .int .i64 0] 34)
          go_wp2_with fail
          obtain ⟨pka, hpka⟩ : ∃ z, x67.heap.size = z := ⟨_, rfl⟩
          obtain ⟨W69, hW69⟩ : ∃ z, x67.alloc (.cells #[.int .i64 0, .int .i64 0] 34) = z := ⟨_, rfl⟩
          rw [hpka] at ka dkCka dkxka gka
          rw [hW69] at ka U kC kx Uz
          rw [hW69, hpka]
          go_wp2_with fail
          clear hpka hW69
          refine (Ct.out _ Uz).mono ?_
          rintro e x70 ⟨rfl, u71⟩
          replace U := U.trans u71
          replace kC := u71.blk kC
          replace kx := u71.blk kx
          replace ka := u71.blk ka
          replace Uz := Uz.trans u71
          clear u71 
          have dkCkb := blk_lt kC
          have dkxkb := blk_lt kx
          have dkakb := blk_lt ka
          have gkb := U.size
          have kb := blk_new x70 (.cells #[.int .i64 0, .int .i64 0] 34) _ rfl
          replace kC := blk_keep (.cells #[.int .i64 0, .int .i64 0] 34) kC
          replace kx := blk_keep (.cells #[.int .i64 0, .int .i64 0] 34) kx
          replace ka := blk_keep (.cells #[.int .i64 0, .int .i64 0] 34) ka
          replace U := U.alloc (.cells #[.int .i64 0, .int .i64 0] 34)
          replace Uz := Uz.alloc (.cells #[.int .i64 0, .int .i64 0] 34)
          go_wp2_with fail
          obtain ⟨pkb, hpkb⟩ : ∃ z, x70.heap.size = z := ⟨_, rfl⟩
          obtain ⟨W72, hW72⟩ : ∃ z, x70.alloc (.cells #[.int .i64 0, .int .i64 0] 34) = z := ⟨_, rfl⟩
          rw [hpkb] at kb dkCkb dkxkb dkakb gkb
          rw [hW72] at kb U kC kx ka Uz
          rw [hW72, hpkb]
          go_wp2_with fail
          clear hpkb hW72
          refine (Cu.out _ U).mono ?_
          rintro e x73 ⟨rfl, u74⟩
          replace U := U.trans u74
          replace kC := u74.blk kC
          replace kx := u74.blk kx
          replace ka := u74.blk ka
          replace kb := u74.blk kb
          replace Uz := Uz.trans u74
          clear u74 
          have dkCkd := blk_lt kC
          have dkxkd := blk_lt kx
          have dkakd := blk_lt ka
          have dkbkd := blk_lt kb
          have gkd := U.size
          have kd := blk_new x73 (.cells #[.int .i64 0, .int .i64 0] 34) _ rfl
          replace kC := blk_keep (.cells #[.int .i64 0, .int .i64 0] 34) kC
          replace kx := blk_keep (.cells #[.int .i64 0, .int .i64 0] 34) kx
          replace ka := blk_keep (.cells #[.int .i64 0, .int .i64 0] 34) ka
          replace kb := blk_keep (.cells #[.int .i64 0, .int .i64 0] 34) kb
          replace U := U.alloc (.cells #[.int .i64 0, .int .i64 0] 34)
          replace Uz := Uz.alloc (.cells #[.int .i64 0, .int .i64 0] 34)
          go_wp2_with fail
          obtain ⟨pkd, hpkd⟩ : ∃ z, x73.heap.size = z := ⟨_, rfl⟩
          obtain ⟨W75, hW75⟩ : ∃ z, x73.alloc (.cells #[.int .i64 0, .int .i64 0] 34) = z := ⟨_, rfl⟩
          rw [hpkd] at kd dkCkd dkxkd dkakd dkbkd gkd
          rw [hW75] at kd U kC kx ka kb Uz
          rw [hW75, hpkd]
          go_wp2_with fail
          clear hpkd hW75
          refine (Cq.out _ Uz).mono ?_
          rintro e x76 ⟨rfl, u77⟩
          replace U := U.trans u77
          replace kC := u77.blk kC
          replace kx := u77.blk kx
          replace ka := u77.blk ka
          replace kb := u77.blk kb
          replace kd := u77.blk kd
          replace Uz := Uz.trans u77
          clear u77 
          have dkCke := blk_lt kC
          have dkxke := blk_lt kx
          have dkake := blk_lt ka
          have dkbke := blk_lt kb
          have dkdke := blk_lt kd
          have gke := U.size
          have ke := blk_new x76 (.cells #[.int .i64 0, .int .i64 0] 34) _ rfl
          replace kC := blk_keep (.cells #[.int .i64 0, .int .i64 0] 34) kC
          replace kx := blk_keep (.cells #[.int .i64 0, .int .i64 0] 34) kx
          replace ka := blk_keep (.cells #[.int .i64 0, .int .i64 0] 34) ka
          replace kb := blk_keep (.cells #[.int .i64 0, .int .i64 0] 34) kb
          replace kd := blk_keep (.cells #[.int .i64 0, .int .i64 0] 34) kd
          replace U := U.alloc (.cells #[.int .i64 0, .int .i64 0] 34)
          replace Uz := Uz.alloc (.cells #[.int .i64 0, .int .i64 0] 34)
          go_wp2_with fail
          obtain ⟨pke, hpke⟩ : ∃ z, x76.heap.size = z := ⟨_, rfl⟩
          obtain ⟨W78, hW78⟩ : ∃ z, x76.alloc (.cells #[.int .i64 0, .int .i64 0] 34) = z := ⟨_, rfl⟩
          rw [hpke] at ke dkCke dkxke dkake dkbke dkdke gke
          rw [hW78] at ke U kC kx ka kb kd Uz
          rw [hW78, hpke]
          go_wp2_with fail
          clear hpke hW78
          refine (HW.out _).mono ?_
          rintro e x79 ⟨rfl, u80⟩
          replace U := U.trans u80
          replace kC := u80.blk kC
          replace kx := u80.blk kx
          replace ka := u80.blk ka
          replace kb := u80.blk kb
          replace kd := u80.blk kd
          replace ke := u80.blk ke
          replace Uz := Uz.trans u80
          clear u80 
          go_wp2
          go_ret
          exact ⟨rfl, U⟩
        · skip
          go_wp2_with fail
          refine (Cs.out _ U).mono ?_
          rintro e x67 ⟨rfl, u68⟩
          replace U := U.trans u68
          replace kC := u68.blk kC
          replace kx := u68.blk kx
          replace Uz := Uz.trans u68
          clear u68 
          have dkCka := blk_lt kC
          have dkxka := blk_lt kx
          have gka := U.size
          have ka := blk_new x67 (.cells #[.int .i64 ls, .int .i64 hs] 34) _ rfl
          replace kC := blk_keep (.cells #[.int .i64 ls, .int .i64 hs] 34) kC
          replace kx := blk_keep (.cells #[.int .i64 ls, .int .i64 hs] 34) kx
          replace U := U.alloc (.cells #[.int .i64 ls, .int .i64 hs] 34)
          replace Uz := Uz.alloc (.cells #[.int .i64 ls, .int .i64 hs] 34)
          obtain ⟨pka, hpka⟩ : ∃ z, x67.heap.size = z := ⟨_, rfl⟩
          obtain ⟨W69, hW69⟩ : ∃ z, x67.alloc (.cells #[.int .i64 ls, .int .i64 hs] 34) = z := ⟨_, rfl⟩
          rw [hpka] at ka dkCka dkxka gka
          rw [hW69] at ka U kC kx Uz
          go_wp2_with fail
          clear hpka hW69
          refine (Ct.out _ Uz).mono ?_
          rintro e x70 ⟨rfl, u71⟩
          replace U := U.trans u71
          replace kC := u71.blk kC
          replace kx := u71.blk kx
          replace ka := u71.blk ka
          replace Uz := Uz.trans u71
          clear u71 
          have dkCkb := blk_lt kC
          have dkxkb := blk_lt kx
          have dkakb := blk_lt ka
          have gkb := U.size
          have kb := blk_new x70 (.cells #[.int .i64 lt, .int .i64 ht] 34) _ rfl
          replace kC := blk_keep (.cells #[.int .i64 lt, .int .i64 ht] 34) kC
          replace kx := blk_keep (.cells #[.int .i64 lt, .int .i64 ht] 34) kx
          replace ka := blk_keep (.cells #[.int .i64 lt, .int .i64 ht] 34) ka
          replace U := U.alloc (.cells #[.int .i64 lt, .int .i64 ht] 34)
          replace Uz := Uz.alloc (.cells #[.int .i64 lt, .int .i64 ht] 34)
          obtain ⟨pkb, hpkb⟩ : ∃ z, x70.heap.size = z := ⟨_, rfl⟩
          obtain ⟨W72, hW72⟩ : ∃ z, x70.alloc (.cells #[.int .i64 lt, .int .i64 ht] 34) = z := ⟨_, rfl⟩
          rw [hpkb] at kb dkCkb dkxkb dkakb gkb
          rw [hW72] at kb U kC kx ka Uz
          go_wp2_with fail
          clear hpkb hW72
          refine (Cu.out _ U).mono ?_
          rintro e x73 ⟨rfl, u74⟩
          replace U := U.trans u74
          replace kC := u74.blk kC
          replace kx := u74.blk kx
          replace ka := u74.blk ka
          replace kb := u74.blk kb
          replace Uz := Uz.trans u74
          clear u74 
          have dkCkd := blk_lt kC
          have dkxkd := blk_lt kx
          have dkakd := blk_lt ka
          have dkbkd := blk_lt kb
          have gkd := U.size
          have kd := blk_new x73 (.cells #[.int .i64 lu, .int .i64 hu] 34) _ rfl
          replace kC := blk_keep (.cells #[.int .i64 lu, .int .i64 hu] 34) kC
          replace kx := blk_keep (.cells #[.int .i64 lu, .int .i64 hu] 34) kx
          replace ka := blk_keep (.cells #[.int .i64 lu, .int .i64 hu] 34) ka
          replace kb := blk_keep (.cells #[.int .i64 lu, .int .i64 hu] 34) kb
          replace U := U.alloc (.cells #[.int .i64 lu, .int .i64 hu] 34)
          replace Uz := Uz.alloc (.cells #[.int .i64 lu, .int .i64 hu] 34)
          obtain ⟨pkd, hpkd⟩ : ∃ z, x73.heap.size = z := ⟨_, rfl⟩
          obtain ⟨W75, hW75⟩ : ∃ z, x73.alloc (.cells #[.int .i64 lu, .int .i64 hu] 34) = z := ⟨_, rfl⟩
          rw [hpkd] at kd dkCkd dkxkd dkakd dkbkd gkd
          rw [hW75] at kd U kC kx ka kb Uz
          go_wp2_with fail
          clear hpkd hW75
          refine (Cq.out _ Uz).mono ?_
          rintro e x76 ⟨rfl, u77⟩
          replace U := U.trans u77
          replace kC := u77.blk kC
          replace kx := u77.blk kx
          replace ka := u77.blk ka
          replace kb := u77.blk kb
          replace kd := u77.blk kd
          replace Uz := Uz.trans u77
          clear u77 
          have dkCke := blk_lt kC
          have dkxke := blk_lt kx
          have dkake := blk_lt ka
          have dkbke := blk_lt kb
          have dkdke := blk_lt kd
          have gke := U.size
          have ke := blk_new x76 (.cells #[.int .i64 lq, .int .i64 hq] 34) _ rfl
          replace kC := blk_keep (.cells #[.int .i64 lq, .int .i64 hq] 34) kC
          replace kx := blk_keep (.cells #[.int .i64 lq, .int .i64 hq] 34) kx
          replace ka := blk_keep (.cells #[.int .i64 lq, .int .i64 hq] 34) ka
          replace kb := blk_keep (.cells #[.int .i64 lq, .int .i64 hq] 34) kb
          replace kd := blk_keep (.cells #[.int .i64 lq, .int .i64 hq] 34) kd
          replace U := U.alloc (.cells #[.int .i64 lq, .int .i64 hq] 34)
          replace Uz := Uz.alloc (.cells #[.int .i64 lq, .int .i64 hq] 34)
          obtain ⟨pke, hpke⟩ : ∃ z, x76.heap.size = z := ⟨_, rfl⟩
          obtain ⟨W78, hW78⟩ : ∃ z, x76.alloc (.cells #[.int .i64 lq, .int .i64 hq] 34) = z := ⟨_, rfl⟩
          rw [hpke] at ke dkCke dkxke dkake dkbke dkdke gke
          rw [hW78] at ke U kC kx ka kb kd Uz
          go_wp2_with fail
          clear hpke hW78
          refine (HWi.out _ _ _ _ _ f1).mono ?_
          rintro e x79 ⟨rfl, u80⟩
          replace U := U.trans u80
          replace kC := u80.blk kC
          replace kx := u80.blk kx
          replace ka := u80.blk ka
          replace kb := u80.blk kb
          replace kd := u80.blk kd
          replace ke := u80.blk ke
          replace Uz := Uz.trans u80
          clear u80 
          go_wp2_with fail
          refine (HWi.out _ _ _ _ _ f2).mono ?_
          rintro e x81 ⟨rfl, u82⟩
          replace U := U.trans u82
          replace kC := u82.blk kC
          replace kx := u82.blk kx
          replace ka := u82.blk ka
          replace kb := u82.blk kb
          replace kd := u82.blk kd
          replace ke := u82.blk ke
          replace Uz := Uz.trans u82
          clear u82 
          go_wp2_with fail
          refine (HW.out _).mono ?_
          rintro e x83 ⟨rfl, u84⟩
          replace U := U.trans u84
          replace kC := u84.blk kC
          replace kx := u84.blk kx
          replace ka := u84.blk ka
          replace kb := u84.blk kb
          replace kd := u84.blk kd
          replace ke := u84.blk ke
          replace Uz := Uz.trans u84
          clear u84 
          go_wp2
          go_ret
          exact ⟨rfl, U⟩
end

end Go.Proofs.Ytoipfakcmnjenaa
