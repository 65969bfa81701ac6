import Derived.Test.YtoipfakcmnjenaaTel
import Derived.Test.YtoipfakcmnjenaaLsy
import Derived.Test.YtoipfakcmnjenaaMay
import Derived.Test.YtoipfakcmnjenaaFst
/- The law BeatTurned. -/
namespace Go.Proofs.Ytoipfakcmnjenaa
open Go.RowKit Go.Shelf
attribute [local go_sem] Oper.semAt_some

theorem cell_int3 {w : World} {b : Nat} {cs : Array Value} (h : mblk w b = some (.cells cs 39 (0, 0))) (j : Nat) : w.cell? ⟨b, j, none⟩ = cs[j]? := cellB h j
section
variable {aR aO aP : Option Addr} {nR cR nO cO nP cP : Nat} {rs : T.LR} {os : T.LO} {ps : T.LP}
set_option maxRecDepth 100000 in
set_option maxHeartbeats 8000000 in
theorem beatTurned_any {Hi n0 n1 n2 m0 m1 m2 : Int} {w : World} (I : Sps w (.slice aR nR cR) rs) (IO : Ops w (.slice aO nO cO) os) (IP : Prs w (.slice aP nP cP) ps) :
    Calls Try.prog 11 #[ClV Hi (.slice aR nR cR) (.slice aO nO cO) (.slice aP nP cP), .agg #[.int .i64 n0, .int .i64 n1, .int .i64 n2], .agg #[.int .i64 m0, .int .i64 m1, .int .i64 m2]] w fun e w' => e = .returned (.bool true) ∧ Up w w' := by
  have U := (((Up.refl w).alloc (.cells #[.int .i64 Hi, .slice aR nR cR, .slice aO nO cO, .slice aP nP cP] 26)).alloc (.cells #[.int .i64 n0, .int .i64 n1, .int .i64 n2] 39)).alloc (.cells #[.int .i64 m0, .int .i64 m1, .int .i64 m2] 39)
  have HW := Lib.hid (fun w => l_works_any w)
  cases hv : T.valid Hi rs os ps with
  | false =>
    have HS := Lib.hid (fun w' (u : Up w w') => l_sound_no (I.up u) (IO.up u) (IP.up u) hv)
    clear hv I IO IP
    go_enter Try.func11, Try.ntmps11
    go_wp2_with fail
    refine (HS.out _ U).mono ?_
    rintro e w1 ⟨rfl, u1⟩
    go_wp2_with fail
    refine (HW.out _).mono ?_
    rintro e w2 ⟨rfl, u2⟩
    go_wp2
    go_ret
    exact ⟨rfl, (U.trans u1).trans u2⟩
  | true =>
    obtain ⟨H, rfl⟩ := T.valid_nat hv
    have G := T.valid_good.1 hv
    have hn := I.len
    subst hn
    have q1 := G.h1
    have q2 := G.h2
    have q3 := G.r1
    have q4 := G.r2
    have HS := Lib.hid (fun w' (u : Up w w') => l_sound_yes (I.up u) (IO.up u) (IP.up u) hv)
    have HRi := Lib.hid (fun w => B_Rest_any n0 (rs.length : Int) w (by omega) (by omega))
    have ai := Int.emod_nonneg n0 (b := (rs.length : Int)) (by omega)
    have bi := Int.emod_lt_of_pos n0 (b := (rs.length : Int)) (by omega)
    generalize n0 % (rs.length : Int) = i at *
    have HRk := Lib.hid (fun w => B_Rest_any n1 (rs.length : Int) w (by omega) (by omega))
    have ak := Int.emod_nonneg n1 (b := (rs.length : Int)) (by omega)
    have bk := Int.emod_lt_of_pos n1 (b := (rs.length : Int)) (by omega)
    generalize n1 % (rs.length : Int) = k at *
    have HRl := Lib.hid (fun w => B_Rest_any n2 (rs.length : Int) w (by omega) (by omega))
    have al := Int.emod_nonneg n2 (b := (rs.length : Int)) (by omega)
    have bl := Int.emod_lt_of_pos n2 (b := (rs.length : Int)) (by omega)
    generalize n2 % (rs.length : Int) = l at *
    have HRh := Lib.hid (fun w => B_Rest_any m0 ((H : Int) + 1) w (by omega) (by omega))
    have ah := Int.emod_nonneg m0 (b := ((H : Int) + 1)) (by omega)
    have bh := Int.emod_lt_of_pos m0 (b := ((H : Int) + 1)) (by omega)
    generalize m0 % ((H : Int) + 1) = h at *
    have HRg := Lib.hid (fun w => B_Rest_any m1 ((H : Int) + 1) w (by omega) (by omega))
    have ag := Int.emod_nonneg m1 (b := ((H : Int) + 1)) (by omega)
    have bg := Int.emod_lt_of_pos m1 (b := ((H : Int) + 1)) (by omega)
    generalize m1 % ((H : Int) + 1) = g at *
    have HRj := Lib.hid (fun w => B_Rest_any m2 ((H : Int) + 1) w (by omega) (by omega))
    have aj := Int.emod_nonneg m2 (b := ((H : Int) + 1)) (by omega)
    have bj := Int.emod_lt_of_pos m2 (b := ((H : Int) + 1)) (by omega)
    generalize m2 % ((H : Int) + 1) = j at *
    obtain ⟨ls, hs, es, ts⟩ := T.Tells.ex (m1 := (i, h)) (m2 := (-1, 0)) G (T.mom_in ⟨ai, bi⟩ ⟨ah, by omega⟩) T.mom_0
    obtain ⟨vs, ws, xs⟩ := ts.bd G (T.mom_in ⟨ai, bi⟩ ⟨ah, by omega⟩) T.mom_0
    have Cs := Lib.hid (fun w' (u : Up w w') => Offset_tells G ⟨ai, bi⟩ ⟨ah, by omega⟩ ts (I.up u) (IO.up u) (IP.up u))
    obtain ⟨lt, ht, et, tt⟩ := T.Tells.ex (m1 := (k, h)) (m2 := (-1, 0)) G (T.mom_in ⟨ak, bk⟩ ⟨ah, by omega⟩) T.mom_0
    obtain ⟨vt, wt, xt⟩ := tt.bd G (T.mom_in ⟨ak, bk⟩ ⟨ah, by omega⟩) T.mom_0
    have Ct := Lib.hid (fun w' (u : Up w w') => Offset_tells G ⟨ak, bk⟩ ⟨ah, by omega⟩ tt (I.up u) (IO.up u) (IP.up u))
    obtain ⟨la, ha, ea, ta⟩ := T.Tells.ex (m1 := (i, h)) (m2 := (k, h)) G (T.mom_in ⟨ai, bi⟩ ⟨ah, by omega⟩) (T.mom_in ⟨ak, bk⟩ ⟨ah, by omega⟩)
    obtain ⟨va, wa, xa⟩ := ta.bd G (T.mom_in ⟨ai, bi⟩ ⟨ah, by omega⟩) (T.mom_in ⟨ak, bk⟩ ⟨ah, by omega⟩)
    have Ca := Lib.hid (fun w' (u : Up w w') => Apart_tells G ⟨ai, bi⟩ ⟨ak, bk⟩ ⟨ah, by omega⟩ ta (I.up u) (IO.up u) (IP.up u))
    obtain ⟨lb, hb, eb, tb⟩ := T.Tells.ex (m1 := (k, h)) (m2 := (i, h)) G (T.mom_in ⟨ak, bk⟩ ⟨ah, by omega⟩) (T.mom_in ⟨ai, bi⟩ ⟨ah, by omega⟩)
    obtain ⟨vb, wb, xb⟩ := tb.bd G (T.mom_in ⟨ak, bk⟩ ⟨ah, by omega⟩) (T.mom_in ⟨ai, bi⟩ ⟨ah, by omega⟩)
    have Cb := Lib.hid (fun w' (u : Up w w') => Apart_tells G ⟨ak, bk⟩ ⟨ai, bi⟩ ⟨ah, by omega⟩ tb (I.up u) (IO.up u) (IP.up u))
    obtain ⟨lc, hc, ec, tc⟩ := T.Tells.ex (m1 := (i, h)) (m2 := (l, h)) G (T.mom_in ⟨ai, bi⟩ ⟨ah, by omega⟩) (T.mom_in ⟨al, bl⟩ ⟨ah, by omega⟩)
    obtain ⟨vc, wc, xc⟩ := tc.bd G (T.mom_in ⟨ai, bi⟩ ⟨ah, by omega⟩) (T.mom_in ⟨al, bl⟩ ⟨ah, by omega⟩)
    have Cc := Lib.hid (fun w' (u : Up w w') => Apart_tells G ⟨ai, bi⟩ ⟨al, bl⟩ ⟨ah, by omega⟩ tc (I.up u) (IO.up u) (IP.up u))
    obtain ⟨ld, hd, ed, td⟩ := T.Tells.ex (m1 := (l, h)) (m2 := (k, h)) G (T.mom_in ⟨al, bl⟩ ⟨ah, by omega⟩) (T.mom_in ⟨ak, bk⟩ ⟨ah, by omega⟩)
    obtain ⟨vd, wd, xd⟩ := td.bd G (T.mom_in ⟨al, bl⟩ ⟨ah, by omega⟩) (T.mom_in ⟨ak, bk⟩ ⟨ah, by omega⟩)
    have Cd := Lib.hid (fun w' (u : Up w w') => Apart_tells G ⟨al, bl⟩ ⟨ak, bk⟩ ⟨ah, by omega⟩ td (I.up u) (IO.up u) (IP.up u))
    obtain ⟨lp, hp, ep, tp⟩ := T.Tells.ex (m1 := (i, g)) (m2 := (i, h)) G (T.mom_in ⟨ai, bi⟩ ⟨ag, by omega⟩) (T.mom_in ⟨ai, bi⟩ ⟨ah, by omega⟩)
    obtain ⟨vp, wp, xp⟩ := tp.bd G (T.mom_in ⟨ai, bi⟩ ⟨ag, by omega⟩) (T.mom_in ⟨ai, bi⟩ ⟨ah, by omega⟩)
    have Cp := Lib.hid (fun w' (u : Up w w') => Drift_tells G ⟨ai, bi⟩ ⟨ah, by omega⟩ ⟨ag, by omega⟩ tp (I.up u) (IO.up u) (IP.up u))
    obtain ⟨lq, hq, eq, tq⟩ := T.Tells.ex (m1 := (i, h)) (m2 := (i, g)) G (T.mom_in ⟨ai, bi⟩ ⟨ah, by omega⟩) (T.mom_in ⟨ai, bi⟩ ⟨ag, by omega⟩)
    obtain ⟨vq, wq, xq⟩ := tq.bd G (T.mom_in ⟨ai, bi⟩ ⟨ah, by omega⟩) (T.mom_in ⟨ai, bi⟩ ⟨ag, by omega⟩)
    have Cq := Lib.hid (fun w' (u : Up w w') => Drift_tells G ⟨ai, bi⟩ ⟨ag, by omega⟩ ⟨ah, by omega⟩ tq (I.up u) (IO.up u) (IP.up u))
    obtain ⟨lr, hr, er, tr⟩ := T.Tells.ex (m1 := (i, j)) (m2 := (i, h)) G (T.mom_in ⟨ai, bi⟩ ⟨aj, by omega⟩) (T.mom_in ⟨ai, bi⟩ ⟨ah, by omega⟩)
    obtain ⟨vr, wr, xr⟩ := tr.bd G (T.mom_in ⟨ai, bi⟩ ⟨aj, by omega⟩) (T.mom_in ⟨ai, bi⟩ ⟨ah, by omega⟩)
    have Cr := Lib.hid (fun w' (u : Up w w') => Drift_tells G ⟨ai, bi⟩ ⟨ah, by omega⟩ ⟨aj, by omega⟩ tr (I.up u) (IO.up u) (IP.up u))
    obtain ⟨lo, ho, eo, to⟩ := T.Tells.ex (m1 := (i, g)) (m2 := (i, j)) G (T.mom_in ⟨ai, bi⟩ ⟨ag, by omega⟩) (T.mom_in ⟨ai, bi⟩ ⟨aj, by omega⟩)
    obtain ⟨vo, wo, xo⟩ := to.bd G (T.mom_in ⟨ai, bi⟩ ⟨ag, by omega⟩) (T.mom_in ⟨ai, bi⟩ ⟨aj, by omega⟩)
    have Co := Lib.hid (fun w' (u : Up w w') => Drift_tells G ⟨ai, bi⟩ ⟨aj, by omega⟩ ⟨ag, by omega⟩ to (I.up u) (IO.up u) (IP.up u))
    obtain ⟨lu, hu, eu, tu⟩ := T.Tells.ex (m1 := (i, g)) (m2 := (-1, 0)) G (T.mom_in ⟨ai, bi⟩ ⟨ag, by omega⟩) T.mom_0
    obtain ⟨vu, wu, xu⟩ := tu.bd G (T.mom_in ⟨ai, bi⟩ ⟨ag, by omega⟩) T.mom_0
    have Cu := Lib.hid (fun w' (u : Up w w') => Offset_tells G ⟨ai, bi⟩ ⟨ag, by omega⟩ tu (I.up u) (IO.up u) (IP.up u))
    obtain rfl := ts.same tt
    obtain rfl := ts.same ta
    obtain rfl := ts.same tb
    obtain rfl := ts.same tc
    obtain rfl := ts.same td
    obtain rfl := ts.same tp
    obtain rfl := ts.same tq
    obtain rfl := ts.same tr
    obtain rfl := ts.same to
    obtain rfl := ts.same tu
    have wH : IntKind.i64.wrap ((H : Int) + 1) = (H : Int) + 1 := IntWalk.i64_in _ (by omega)
    have hmx : Try.prog.follows .mixedOrders = true := by kernel_rfl
    have HTo := Lib.hid (fun l h w => B_To_any l h w)
    have HWi := Lib.hid (fun l h l' h' w (p : l' ≤ l ∧ h ≤ h') => show Calls Try.prog 36 #[SpV l h, SpV l' h'] w fun e w' => e = .returned (.bool true) ∧ Up w w' by rw [← decide_eq_true p]; exact B_Within_any _ _ _ _ w)
    rcases ts.err with rfl | ⟨rfl, rfl, rfl⟩
    case inr =>
      clear ta tb tc td tp tq tr to tu vs ws xs vt wt xt va wa xa vb wb xb vc wc xc vd wd xd vp wp xp vq wq xq vr wr xr vo wo xo vu wu xu ai bi ak bk al bl ah bh ag bg aj bj q1 q2 q3 q4 hv
      clear I IO IP
      go_enter Try.func11, Try.ntmps11
      obtain ⟨q0, e0⟩ : ∃ x, w.heap.size = x := ⟨_, rfl⟩
      have kC := blk_keep (.cells #[.int .i64 m0, .int .i64 m1, .int .i64 m2] 39) (blk_keep (.cells #[.int .i64 n0, .int .i64 n1, .int .i64 n2] 39) (blk_new w (.cells #[.int .i64 H, .slice aR rs.length cR, .slice aO nO cO, .slice aP nP cP] 26) q0 e0.symm))
      have kN := blk_keep (.cells #[.int .i64 m0, .int .i64 m1, .int .i64 m2] 39) (blk_new (w.alloc (.cells #[.int .i64 H, .slice aR rs.length cR, .slice aO nO cO, .slice aP nP cP] 26)) (.cells #[.int .i64 n0, .int .i64 n1, .int .i64 n2] 39) (q0 + 1) (by simp [e0]))
      have kM := blk_new ((w.alloc (.cells #[.int .i64 H, .slice aR rs.length cR, .slice aO nO cO, .slice aP nP cP] 26)).alloc (.cells #[.int .i64 n0, .int .i64 n1, .int .i64 n2] 39)) (.cells #[.int .i64 m0, .int .i64 m1, .int .i64 m2] 39) (q0 + 2) (by simp [e0])
      go_wp2_with fail
      refine (HS.out _ U).mono ?_
      rintro e x1 ⟨rfl, u2⟩
      replace U := U.trans u2
      replace kC := u2.blk kC
      replace kN := u2.blk kN
      replace kM := u2.blk kM
      clear u2 HS
      go_wp2_with fail
      have F4 := Lib.hid (fun w (u : Up x1 w) => cellB (u.blk kC))
      have F5 := Lib.hid (fun w (u : Up x1 w) => cellB (u.blk kN))
      have F6 := Lib.hid (fun w (u : Up x1 w) => cellB (u.blk kM))
      refine (wpIn_wide (n := 5)).1 ?_
      refine wpIn_nrm ?_
      refine T.regionQ (fun w' => Up x1 w') 20 1 hmx (by as_aux_lemma => kernel_rfl) (by as_aux_lemma => kernel_rfl) ((Up.refl x1).drew) (fun hCl => ?_)
      refine T.qTake (i := 0) (d := (some 30)) (v := ?v1) rfl rfl (by as_aux_lemma => kernel_rfl) (by decide) hCl (by as_aux_lemma => kernel_rfl) (by as_aux_lemma => kernel_rfl) (by as_aux_lemma => kernel_rfl) (by rfl) ?hy1 (fun _ _ _ => trivial) (fun hCl' => ?_)
      case hy1 => (intro w hSw; refine T.qVal ?_ hSw; (have fF4 := F4.out w hSw; have fF5 := F5.out w hSw; have fF6 := F6.out w hSw); (try dsimp only [List.getElem_toArray, List.getElem_cons_succ, List.getElem_cons_zero]); go_simp; try with_reducible rfl)
      simp only [Act.put, List.setIfInBounds_toArray]; dsimp only [List.set_cons_zero, List.set_cons_succ]
      replace hCl := hCl'; clear hCl'
      refine T.qTake (i := 2) (d := (some 32)) (v := ?v2) rfl rfl (by as_aux_lemma => kernel_rfl) (by decide) hCl (by as_aux_lemma => kernel_rfl) (by as_aux_lemma => kernel_rfl) (by as_aux_lemma => kernel_rfl) (by rfl) ?hy2 (fun _ _ _ => trivial) (fun hCl' => ?_)
      case hy2 => (intro w hSw; refine T.qVal ?_ hSw; (have fF4 := F4.out w hSw; have fF5 := F5.out w hSw; have fF6 := F6.out w hSw); (try dsimp only [List.getElem_toArray, List.getElem_cons_succ, List.getElem_cons_zero]); go_simp; try with_reducible rfl)
      simp only [Act.put, List.setIfInBounds_toArray]; dsimp only [List.set_cons_zero, List.set_cons_succ]
      replace hCl := hCl'; clear hCl'
      refine T.qTake (i := 6) (d := (some 36)) (v := ?v3) rfl rfl (by as_aux_lemma => kernel_rfl) (by decide) hCl (by as_aux_lemma => kernel_rfl) (by as_aux_lemma => kernel_rfl) (by as_aux_lemma => kernel_rfl) (by rfl) ?hy3 (fun _ _ _ => trivial) (fun hCl' => ?_)
      case hy3 => (intro w hSw; refine T.qVal ?_ hSw; (have fF4 := F4.out w hSw; have fF5 := F5.out w hSw; have fF6 := F6.out w hSw); (try dsimp only [List.getElem_toArray, List.getElem_cons_succ, List.getElem_cons_zero]); go_simp; try with_reducible rfl)
      simp only [Act.put, List.setIfInBounds_toArray]; dsimp only [List.set_cons_zero, List.set_cons_succ]
      replace hCl := hCl'; clear hCl'
      refine T.qTake (i := 8) (d := (some 38)) (v := ?v4) rfl rfl (by as_aux_lemma => kernel_rfl) (by decide) hCl (by as_aux_lemma => kernel_rfl) (by as_aux_lemma => kernel_rfl) (by as_aux_lemma => kernel_rfl) (by rfl) ?hy4 (fun _ _ _ => trivial) (fun hCl' => ?_)
      case hy4 => (intro w hSw; refine T.qVal ?_ hSw; (have fF4 := F4.out w hSw; have fF5 := F5.out w hSw; have fF6 := F6.out w hSw); (try dsimp only [List.getElem_toArray, List.getElem_cons_succ, List.getElem_cons_zero]); go_simp; try with_reducible rfl)
      simp only [Act.put, List.setIfInBounds_toArray]; dsimp only [List.set_cons_zero, List.set_cons_succ]
      replace hCl := hCl'; clear hCl'
      refine T.qTake (i := 12) (d := (some 42)) (v := ?v5) rfl rfl (by as_aux_lemma => kernel_rfl) (by decide) hCl (by as_aux_lemma => kernel_rfl) (by as_aux_lemma => kernel_rfl) (by as_aux_lemma => kernel_rfl) (by rfl) ?hy5 (fun _ _ _ => trivial) (fun hCl' => ?_)
      case hy5 => (intro w hSw; refine T.qVal ?_ hSw; (have fF4 := F4.out w hSw; have fF5 := F5.out w hSw; have fF6 := F6.out w hSw); (try dsimp only [List.getElem_toArray, List.getElem_cons_succ, List.getElem_cons_zero]); go_simp; try with_reducible rfl)
      simp only [Act.put, List.setIfInBounds_toArray]; dsimp only [List.set_cons_zero, List.set_cons_succ]
      replace hCl := hCl'; clear hCl'
      refine T.qTake (i := 14) (d := (some 44)) (v := ?v6) rfl rfl (by as_aux_lemma => kernel_rfl) (by decide) hCl (by as_aux_lemma => kernel_rfl) (by as_aux_lemma => kernel_rfl) (by as_aux_lemma => kernel_rfl) (by rfl) ?hy6 (fun _ _ _ => trivial) (fun hCl' => ?_)
      case hy6 => (intro w hSw; refine T.qVal ?_ hSw; (have fF4 := F4.out w hSw; have fF5 := F5.out w hSw; have fF6 := F6.out w hSw); (try dsimp only [List.getElem_toArray, List.getElem_cons_succ, List.getElem_cons_zero]); go_simp; try with_reducible rfl)
      simp only [Act.put, List.setIfInBounds_toArray]; dsimp only [List.set_cons_zero, List.set_cons_succ]
      replace hCl := hCl'; clear hCl'
      refine T.qTake (i := 1) (d := (some 31)) (v := ?v7) rfl rfl (by as_aux_lemma => kernel_rfl) (by decide) hCl (by as_aux_lemma => kernel_rfl) (by as_aux_lemma => kernel_rfl) (by as_aux_lemma => kernel_rfl) (by rfl) ?hy7 (fun _ _ _ => trivial) (fun hCl' => ?_)
      case hy7 => (intro w hSw; refine T.qVal ?_ hSw; (have fF4 := F4.out w hSw; have fF5 := F5.out w hSw; have fF6 := F6.out w hSw); (try dsimp only [List.getElem_toArray, List.getElem_cons_succ, List.getElem_cons_zero]); go_simp; try with_reducible rfl)
      simp only [Act.put, List.setIfInBounds_toArray]; dsimp only [List.set_cons_zero, List.set_cons_succ]
      replace hCl := hCl'; clear hCl'
      refine T.qTake (i := 3) (d := (some 33)) (v := ?v8) rfl rfl (by as_aux_lemma => kernel_rfl) (by decide) hCl (by as_aux_lemma => kernel_rfl) (by as_aux_lemma => kernel_rfl) (by as_aux_lemma => kernel_rfl) (by rfl) ?hy8 (fun _ _ _ => trivial) (fun hCl' => ?_)
      case hy8 => (intro w hSw; refine T.qVal ?_ hSw; (have fF4 := F4.out w hSw; have fF5 := F5.out w hSw; have fF6 := F6.out w hSw); (try dsimp only [List.getElem_toArray, List.getElem_cons_succ, List.getElem_cons_zero]); go_simp; try with_reducible rfl)
      simp only [Act.put, List.setIfInBounds_toArray]; dsimp only [List.set_cons_zero, List.set_cons_succ]
      replace hCl := hCl'; clear hCl'
      refine T.qTake (i := 7) (d := (some 37)) (v := ?v9) rfl rfl (by as_aux_lemma => kernel_rfl) (by decide) hCl (by as_aux_lemma => kernel_rfl) (by as_aux_lemma => kernel_rfl) (by as_aux_lemma => kernel_rfl) (by rfl) ?hy9 (fun _ _ _ => trivial) (fun hCl' => ?_)
      case hy9 => (intro w hSw; refine T.qVal ?_ hSw; (have fF4 := F4.out w hSw; have fF5 := F5.out w hSw; have fF6 := F6.out w hSw); (try dsimp only [List.getElem_toArray, List.getElem_cons_succ, List.getElem_cons_zero]); go_simp; try with_reducible rfl)
      simp only [Act.put, List.setIfInBounds_toArray]; dsimp only [List.set_cons_zero, List.set_cons_succ]
      replace hCl := hCl'; clear hCl'
      refine T.qTake (i := 9) (d := (some 39)) (v := ?v10) rfl rfl (by as_aux_lemma => kernel_rfl) (by decide) hCl (by as_aux_lemma => kernel_rfl) (by as_aux_lemma => kernel_rfl) (by as_aux_lemma => kernel_rfl) (by rfl) ?hy10 (fun _ _ _ => trivial) (fun hCl' => ?_)
      case hy10 => (intro w hSw; refine T.qVal ?_ hSw; (have fF4 := F4.out w hSw; have fF5 := F5.out w hSw; have fF6 := F6.out w hSw); (try dsimp only [List.getElem_toArray, List.getElem_cons_succ, List.getElem_cons_zero]); go_simp; try with_reducible rfl)
      simp only [Act.put, List.setIfInBounds_toArray]; dsimp only [List.set_cons_zero, List.set_cons_succ]
      replace hCl := hCl'; clear hCl'
      refine T.qTake (i := 13) (d := (some 43)) (v := ?v11) rfl rfl (by as_aux_lemma => kernel_rfl) (by decide) hCl (by as_aux_lemma => kernel_rfl) (by as_aux_lemma => kernel_rfl) (by as_aux_lemma => kernel_rfl) (by rfl) ?hy11 (fun _ _ _ => trivial) (fun hCl' => ?_)
      case hy11 => (intro w hSw; refine T.qVal ?_ hSw; (have fF4 := F4.out w hSw; have fF5 := F5.out w hSw; have fF6 := F6.out w hSw); (try dsimp only [List.getElem_toArray, List.getElem_cons_succ, List.getElem_cons_zero]); go_simp; try with_reducible rfl)
      simp only [Act.put, List.setIfInBounds_toArray]; dsimp only [List.set_cons_zero, List.set_cons_succ]
      replace hCl := hCl'; clear hCl'
      refine T.qTake (i := 15) (d := (some 45)) (v := ?v12) rfl rfl (by as_aux_lemma => kernel_rfl) (by decide) hCl (by as_aux_lemma => kernel_rfl) (by as_aux_lemma => kernel_rfl) (by as_aux_lemma => kernel_rfl) (by rfl) ?hy12 (fun _ _ _ => trivial) (fun hCl' => ?_)
      case hy12 => (intro w hSw; refine T.qVal ?_ hSw; (have fF4 := F4.out w hSw; have fF5 := F5.out w hSw; have fF6 := F6.out w hSw); (try dsimp only [List.getElem_toArray, List.getElem_cons_succ, List.getElem_cons_zero]); go_simp; try with_reducible rfl)
      simp only [Act.put, List.setIfInBounds_toArray]; dsimp only [List.set_cons_zero, List.set_cons_succ]
      replace hCl := hCl'; clear hCl'
      refine T.qTake (i := 4) (d := (some 34)) (v := ?v13) rfl rfl (by as_aux_lemma => kernel_rfl) (by decide) hCl (by as_aux_lemma => kernel_rfl) (by as_aux_lemma => kernel_rfl) (by as_aux_lemma => kernel_rfl) (by rfl) ?hy13 (fun _ _ _ => trivial) (fun hCl' => ?_)
      case hy13 => (intro w hSw; refine T.qVal ?_ hSw; (have fF4 := F4.out w hSw; have fF5 := F5.out w hSw; have fF6 := F6.out w hSw); (try dsimp only [List.getElem_toArray, List.getElem_cons_succ, List.getElem_cons_zero]); go_simp; try with_reducible rfl)
      simp only [Act.put, List.setIfInBounds_toArray]; dsimp only [List.set_cons_zero, List.set_cons_succ]
      replace hCl := hCl'; clear hCl'
      refine T.qTake (i := 10) (d := (some 40)) (v := ?v14) rfl rfl (by as_aux_lemma => kernel_rfl) (by decide) hCl (by as_aux_lemma => kernel_rfl) (by as_aux_lemma => kernel_rfl) (by as_aux_lemma => kernel_rfl) (by rfl) ?hy14 (fun _ _ _ => trivial) (fun hCl' => ?_)
      case hy14 => (intro w hSw; refine T.qVal ?_ hSw; (have fF4 := F4.out w hSw; have fF5 := F5.out w hSw; have fF6 := F6.out w hSw); (try dsimp only [List.getElem_toArray, List.getElem_cons_succ, List.getElem_cons_zero]); go_simp; try with_reducible rfl)
      simp only [Act.put, List.setIfInBounds_toArray]; dsimp only [List.set_cons_zero, List.set_cons_succ]
      replace hCl := hCl'; clear hCl'
      refine T.qTake (i := 16) (d := (some 46)) (v := ?v15) rfl rfl (by as_aux_lemma => kernel_rfl) (by decide) hCl (by as_aux_lemma => kernel_rfl) (by as_aux_lemma => kernel_rfl) (by as_aux_lemma => kernel_rfl) (by rfl) ?hy15 (fun _ _ _ => trivial) (fun hCl' => ?_)
      case hy15 => (intro w hSw; refine T.qVal ?_ hSw; (have fF4 := F4.out w hSw; have fF5 := F5.out w hSw; have fF6 := F6.out w hSw); (try dsimp only [List.getElem_toArray, List.getElem_cons_succ, List.getElem_cons_zero]); go_simp; try with_reducible rfl)
      simp only [Act.put, List.setIfInBounds_toArray]; dsimp only [List.set_cons_zero, List.set_cons_succ]
      replace hCl := hCl'; clear hCl'
      refine T.qTake (i := 5) (d := (some 35)) (v := ((.int .i64 i))) rfl rfl (by as_aux_lemma => kernel_rfl) (by decide) hCl (by as_aux_lemma => kernel_rfl) (by as_aux_lemma => kernel_rfl) (by as_aux_lemma => kernel_rfl) (by rfl) ?hy16 (fun _ _ _ => trivial) (fun hCl' => ?_)
      case hy16 => (intro w hSw; (have fF4 := F4.out w hSw; have fF5 := F5.out w hSw; have fF6 := F6.out w hSw); (try dsimp only [List.getElem_toArray, List.getElem_cons_succ, List.getElem_cons_zero]); go_simp; (refine (callsIn_wide.2 (HRi.out w)).mono ?_; rintro e w3 ⟨rfl, rfl⟩; exact ⟨rfl, hSw⟩))
      simp only [Act.put, List.setIfInBounds_toArray]; dsimp only [List.set_cons_zero, List.set_cons_succ]
      replace hCl := hCl'; clear hCl'
      refine T.qTake (i := 11) (d := (some 41)) (v := ((.int .i64 k))) rfl rfl (by as_aux_lemma => kernel_rfl) (by decide) hCl (by as_aux_lemma => kernel_rfl) (by as_aux_lemma => kernel_rfl) (by as_aux_lemma => kernel_rfl) (by rfl) ?hy17 (fun _ _ _ => trivial) (fun hCl' => ?_)
      case hy17 => (intro w hSw; (have fF4 := F4.out w hSw; have fF5 := F5.out w hSw; have fF6 := F6.out w hSw); (try dsimp only [List.getElem_toArray, List.getElem_cons_succ, List.getElem_cons_zero]); go_simp; (refine (callsIn_wide.2 (HRk.out w)).mono ?_; rintro e w3 ⟨rfl, rfl⟩; exact ⟨rfl, hSw⟩))
      simp only [Act.put, List.setIfInBounds_toArray]; dsimp only [List.set_cons_zero, List.set_cons_succ]
      replace hCl := hCl'; clear hCl'
      refine T.qTake (i := 17) (d := (some 47)) (v := ((.int .i64 l))) rfl rfl (by as_aux_lemma => kernel_rfl) (by decide) hCl (by as_aux_lemma => kernel_rfl) (by as_aux_lemma => kernel_rfl) (by as_aux_lemma => kernel_rfl) (by rfl) ?hy18 (fun _ _ _ => trivial) (fun hCl' => ?_)
      case hy18 => (intro w hSw; (have fF4 := F4.out w hSw; have fF5 := F5.out w hSw; have fF6 := F6.out w hSw); (try dsimp only [List.getElem_toArray, List.getElem_cons_succ, List.getElem_cons_zero]); go_simp; (refine (callsIn_wide.2 (HRl.out w)).mono ?_; rintro e w3 ⟨rfl, rfl⟩; exact ⟨rfl, hSw⟩))
      simp only [Act.put, List.setIfInBounds_toArray]; dsimp only [List.set_cons_zero, List.set_cons_succ]
      replace hCl := hCl'; clear hCl'
      refine T.qTake (i := 18) (d := (some 7)) (v := ?v19) rfl rfl (by as_aux_lemma => kernel_rfl) (by decide) hCl (by as_aux_lemma => kernel_rfl) (by as_aux_lemma => kernel_rfl) (by as_aux_lemma => kernel_rfl) (by rfl) ?hy19 (fun _ _ _ => trivial) (fun hCl' => ?_)
      case hy19 => (intro w hSw; refine T.qVal ?_ hSw; (have fF4 := F4.out w hSw; have fF5 := F5.out w hSw; have fF6 := F6.out w hSw); (try dsimp only [List.getElem_toArray, List.getElem_cons_succ, List.getElem_cons_zero]); go_simp; try with_reducible rfl)
      simp only [Act.put, List.setIfInBounds_toArray]; dsimp only [List.set_cons_zero, List.set_cons_succ]
      replace hCl := hCl'; clear hCl'
      refine T.qTake (i := 19) (d := (some 8)) (v := ?v20) rfl rfl (by as_aux_lemma => kernel_rfl) (by decide) hCl (by as_aux_lemma => kernel_rfl) (by as_aux_lemma => kernel_rfl) (by as_aux_lemma => kernel_rfl) (by rfl) ?hy20 (fun _ _ _ => trivial) (fun hCl' => ?_)
      case hy20 => (intro w hSw; refine T.qVal ?_ hSw; (have fF4 := F4.out w hSw; have fF5 := F5.out w hSw; have fF6 := F6.out w hSw); (try dsimp only [List.getElem_toArray, List.getElem_cons_succ, List.getElem_cons_zero]); go_simp; try with_reducible rfl)
      simp only [Act.put, List.setIfInBounds_toArray]; dsimp only [List.set_cons_zero, List.set_cons_succ]
      replace hCl := hCl'; clear hCl'
      refine T.tail_intro (by as_aux_lemma => kernel_rfl) (fun Y3 hY3 => ?_)
      replace U := U.trans hY3
      replace kC := hY3.blk kC
      replace kN := hY3.blk kN
      replace kM := hY3.blk kM
      clear F4 F5 F6 hY3
      refine lastG (i := 20) (by as_aux_lemma => kernel_rfl) rfl (by rfl) (by decide) (fun K hK => ?_)
      go_simp
      refine hK.out _ _ ?_
      clear hK K
      refine doneG (by as_aux_lemma => kernel_rfl) ?_ _
      refine S.nrm_intro ?_
      go_wp2_with fail
      have F8 := Lib.hid (fun w (u : Up Y3 w) => cellB (u.blk kC))
      have F9 := Lib.hid (fun w (u : Up Y3 w) => cellB (u.blk kN))
      have F10 := Lib.hid (fun w (u : Up Y3 w) => cellB (u.blk kM))
      refine (wpIn_wide (n := 5)).1 ?_
      refine wpIn_nrm ?_
      refine T.regionQ (fun w' => Up Y3 w') 20 1 hmx (by as_aux_lemma => kernel_rfl) (by as_aux_lemma => kernel_rfl) ((Up.refl Y3).drew) (fun hCl => ?_)
      refine T.qTake (i := 0) (d := (some 48)) (v := ?v21) rfl rfl (by as_aux_lemma => kernel_rfl) (by decide) hCl (by as_aux_lemma => kernel_rfl) (by as_aux_lemma => kernel_rfl) (by as_aux_lemma => kernel_rfl) (by rfl) ?hy21 (fun _ _ _ => trivial) (fun hCl' => ?_)
      case hy21 => (intro w hSw; refine T.qVal ?_ hSw; (have fF8 := F8.out w hSw; have fF9 := F9.out w hSw; have fF10 := F10.out w hSw); (try dsimp only [List.getElem_toArray, List.getElem_cons_succ, List.getElem_cons_zero]); go_simp; try with_reducible rfl)
      simp only [Act.put, List.setIfInBounds_toArray]; dsimp only [List.set_cons_zero, List.set_cons_succ]
      replace hCl := hCl'; clear hCl'
      refine T.qTake (i := 2) (d := (some 50)) (v := ?v22) rfl rfl (by as_aux_lemma => kernel_rfl) (by decide) hCl (by as_aux_lemma => kernel_rfl) (by as_aux_lemma => kernel_rfl) (by as_aux_lemma => kernel_rfl) (by rfl) ?hy22 (fun _ _ _ => trivial) (fun hCl' => ?_)
      case hy22 => (intro w hSw; refine T.qVal ?_ hSw; (have fF8 := F8.out w hSw; have fF9 := F9.out w hSw; have fF10 := F10.out w hSw); (try dsimp only [List.getElem_toArray, List.getElem_cons_succ, List.getElem_cons_zero]); go_simp; try with_reducible rfl)
      simp only [Act.put, List.setIfInBounds_toArray]; dsimp only [List.set_cons_zero, List.set_cons_succ]
      replace hCl := hCl'; clear hCl'
      refine T.qTake (i := 6) (d := (some 54)) (v := ?v23) rfl rfl (by as_aux_lemma => kernel_rfl) (by decide) hCl (by as_aux_lemma => kernel_rfl) (by as_aux_lemma => kernel_rfl) (by as_aux_lemma => kernel_rfl) (by rfl) ?hy23 (fun _ _ _ => trivial) (fun hCl' => ?_)
      case hy23 => (intro w hSw; refine T.qVal ?_ hSw; (have fF8 := F8.out w hSw; have fF9 := F9.out w hSw; have fF10 := F10.out w hSw); (try dsimp only [List.getElem_toArray, List.getElem_cons_succ, List.getElem_cons_zero]); go_simp; try with_reducible rfl)
      simp only [Act.put, List.setIfInBounds_toArray]; dsimp only [List.set_cons_zero, List.set_cons_succ]
      replace hCl := hCl'; clear hCl'
      refine T.qTake (i := 8) (d := (some 56)) (v := ?v24) rfl rfl (by as_aux_lemma => kernel_rfl) (by decide) hCl (by as_aux_lemma => kernel_rfl) (by as_aux_lemma => kernel_rfl) (by as_aux_lemma => kernel_rfl) (by rfl) ?hy24 (fun _ _ _ => trivial) (fun hCl' => ?_)
      case hy24 => (intro w hSw; refine T.qVal ?_ hSw; (have fF8 := F8.out w hSw; have fF9 := F9.out w hSw; have fF10 := F10.out w hSw); (try dsimp only [List.getElem_toArray, List.getElem_cons_succ, List.getElem_cons_zero]); go_simp; try with_reducible rfl)
      simp only [Act.put, List.setIfInBounds_toArray]; dsimp only [List.set_cons_zero, List.set_cons_succ]
      replace hCl := hCl'; clear hCl'
      refine T.qTake (i := 12) (d := (some 60)) (v := ?v25) rfl rfl (by as_aux_lemma => kernel_rfl) (by decide) hCl (by as_aux_lemma => kernel_rfl) (by as_aux_lemma => kernel_rfl) (by as_aux_lemma => kernel_rfl) (by rfl) ?hy25 (fun _ _ _ => trivial) (fun hCl' => ?_)
      case hy25 => (intro w hSw; refine T.qVal ?_ hSw; (have fF8 := F8.out w hSw; have fF9 := F9.out w hSw; have fF10 := F10.out w hSw); (try dsimp only [List.getElem_toArray, List.getElem_cons_succ, List.getElem_cons_zero]); go_simp; try with_reducible rfl)
      simp only [Act.put, List.setIfInBounds_toArray]; dsimp only [List.set_cons_zero, List.set_cons_succ]
      replace hCl := hCl'; clear hCl'
      refine T.qTake (i := 14) (d := (some 62)) (v := ?v26) rfl rfl (by as_aux_lemma => kernel_rfl) (by decide) hCl (by as_aux_lemma => kernel_rfl) (by as_aux_lemma => kernel_rfl) (by as_aux_lemma => kernel_rfl) (by rfl) ?hy26 (fun _ _ _ => trivial) (fun hCl' => ?_)
      case hy26 => (intro w hSw; refine T.qVal ?_ hSw; (have fF8 := F8.out w hSw; have fF9 := F9.out w hSw; have fF10 := F10.out w hSw); (try dsimp only [List.getElem_toArray, List.getElem_cons_succ, List.getElem_cons_zero]); go_simp; try with_reducible rfl)
      simp only [Act.put, List.setIfInBounds_toArray]; dsimp only [List.set_cons_zero, List.set_cons_succ]
      replace hCl := hCl'; clear hCl'
      refine T.qTake (i := 1) (d := (some 49)) (v := ?v27) rfl rfl (by as_aux_lemma => kernel_rfl) (by decide) hCl (by as_aux_lemma => kernel_rfl) (by as_aux_lemma => kernel_rfl) (by as_aux_lemma => kernel_rfl) (by rfl) ?hy27 (fun _ _ _ => trivial) (fun hCl' => ?_)
      case hy27 => (intro w hSw; refine T.qVal ?_ hSw; (have fF8 := F8.out w hSw; have fF9 := F9.out w hSw; have fF10 := F10.out w hSw); (try dsimp only [List.getElem_toArray, List.getElem_cons_succ, List.getElem_cons_zero]); go_simp; try with_reducible rfl)
      simp only [Act.put, List.setIfInBounds_toArray]; dsimp only [List.set_cons_zero, List.set_cons_succ]
      replace hCl := hCl'; clear hCl'
      refine T.qTake (i := 3) (d := (some 51)) (v := ?v28) rfl rfl (by as_aux_lemma => kernel_rfl) (by decide) hCl (by as_aux_lemma => kernel_rfl) (by as_aux_lemma => kernel_rfl) (by as_aux_lemma => kernel_rfl) (by rfl) ?hy28 (fun _ _ _ => trivial) (fun hCl' => ?_)
      case hy28 => (intro w hSw; refine T.qVal ?_ hSw; (have fF8 := F8.out w hSw; have fF9 := F9.out w hSw; have fF10 := F10.out w hSw); (try dsimp only [List.getElem_toArray, List.getElem_cons_succ, List.getElem_cons_zero]); go_simp; try with_reducible rfl)
      simp only [Act.put, List.setIfInBounds_toArray]; dsimp only [List.set_cons_zero, List.set_cons_succ]
      replace hCl := hCl'; clear hCl'
      refine T.qTake (i := 7) (d := (some 55)) (v := ?v29) rfl rfl (by as_aux_lemma => kernel_rfl) (by decide) hCl (by as_aux_lemma => kernel_rfl) (by as_aux_lemma => kernel_rfl) (by as_aux_lemma => kernel_rfl) (by rfl) ?hy29 (fun _ _ _ => trivial) (fun hCl' => ?_)
      case hy29 => (intro w hSw; refine T.qVal ?_ hSw; (have fF8 := F8.out w hSw; have fF9 := F9.out w hSw; have fF10 := F10.out w hSw); (try dsimp only [List.getElem_toArray, List.getElem_cons_succ, List.getElem_cons_zero]); go_simp; try with_reducible rfl)
      simp only [Act.put, List.setIfInBounds_toArray]; dsimp only [List.set_cons_zero, List.set_cons_succ]
      replace hCl := hCl'; clear hCl'
      refine T.qTake (i := 9) (d := (some 57)) (v := ?v30) rfl rfl (by as_aux_lemma => kernel_rfl) (by decide) hCl (by as_aux_lemma => kernel_rfl) (by as_aux_lemma => kernel_rfl) (by as_aux_lemma => kernel_rfl) (by rfl) ?hy30 (fun _ _ _ => trivial) (fun hCl' => ?_)
      case hy30 => (intro w hSw; refine T.qVal ?_ hSw; (have fF8 := F8.out w hSw; have fF9 := F9.out w hSw; have fF10 := F10.out w hSw); (try dsimp only [List.getElem_toArray, List.getElem_cons_succ, List.getElem_cons_zero]); go_simp; try with_reducible rfl)
      simp only [Act.put, List.setIfInBounds_toArray]; dsimp only [List.set_cons_zero, List.set_cons_succ]
      replace hCl := hCl'; clear hCl'
      refine T.qTake (i := 13) (d := (some 61)) (v := ?v31) rfl rfl (by as_aux_lemma => kernel_rfl) (by decide) hCl (by as_aux_lemma => kernel_rfl) (by as_aux_lemma => kernel_rfl) (by as_aux_lemma => kernel_rfl) (by rfl) ?hy31 (fun _ _ _ => trivial) (fun hCl' => ?_)
      case hy31 => (intro w hSw; refine T.qVal ?_ hSw; (have fF8 := F8.out w hSw; have fF9 := F9.out w hSw; have fF10 := F10.out w hSw); (try dsimp only [List.getElem_toArray, List.getElem_cons_succ, List.getElem_cons_zero]); go_simp; try with_reducible rfl)
      simp only [Act.put, List.setIfInBounds_toArray]; dsimp only [List.set_cons_zero, List.set_cons_succ]
      replace hCl := hCl'; clear hCl'
      refine T.qTake (i := 15) (d := (some 63)) (v := ?v32) rfl rfl (by as_aux_lemma => kernel_rfl) (by decide) hCl (by as_aux_lemma => kernel_rfl) (by as_aux_lemma => kernel_rfl) (by as_aux_lemma => kernel_rfl) (by rfl) ?hy32 (fun _ _ _ => trivial) (fun hCl' => ?_)
      case hy32 => (intro w hSw; refine T.qVal ?_ hSw; (have fF8 := F8.out w hSw; have fF9 := F9.out w hSw; have fF10 := F10.out w hSw); (try dsimp only [List.getElem_toArray, List.getElem_cons_succ, List.getElem_cons_zero]); go_simp; try with_reducible rfl)
      simp only [Act.put, List.setIfInBounds_toArray]; dsimp only [List.set_cons_zero, List.set_cons_succ]
      replace hCl := hCl'; clear hCl'
      refine T.qTake (i := 4) (d := (some 52)) (v := ?v33) rfl rfl (by as_aux_lemma => kernel_rfl) (by decide) hCl (by as_aux_lemma => kernel_rfl) (by as_aux_lemma => kernel_rfl) (by as_aux_lemma => kernel_rfl) (by rfl) ?hy33 (fun _ _ _ => trivial) (fun hCl' => ?_)
      case hy33 => (intro w hSw; refine T.qVal ?_ hSw; (have fF8 := F8.out w hSw; have fF9 := F9.out w hSw; have fF10 := F10.out w hSw); (try dsimp only [List.getElem_toArray, List.getElem_cons_succ, List.getElem_cons_zero]); go_simp; try with_reducible rfl)
      simp only [Act.put, List.setIfInBounds_toArray]; dsimp only [List.set_cons_zero, List.set_cons_succ]
      replace hCl := hCl'; clear hCl'
      refine T.qTake (i := 10) (d := (some 58)) (v := ?v34) rfl rfl (by as_aux_lemma => kernel_rfl) (by decide) hCl (by as_aux_lemma => kernel_rfl) (by as_aux_lemma => kernel_rfl) (by as_aux_lemma => kernel_rfl) (by rfl) ?hy34 (fun _ _ _ => trivial) (fun hCl' => ?_)
      case hy34 => (intro w hSw; refine T.qVal ?_ hSw; (have fF8 := F8.out w hSw; have fF9 := F9.out w hSw; have fF10 := F10.out w hSw); (try dsimp only [List.getElem_toArray, List.getElem_cons_succ, List.getElem_cons_zero]); go_simp; try with_reducible rfl)
      simp only [Act.put, List.setIfInBounds_toArray]; dsimp only [List.set_cons_zero, List.set_cons_succ]
      replace hCl := hCl'; clear hCl'
      refine T.qTake (i := 16) (d := (some 64)) (v := ?v35) rfl rfl (by as_aux_lemma => kernel_rfl) (by decide) hCl (by as_aux_lemma => kernel_rfl) (by as_aux_lemma => kernel_rfl) (by as_aux_lemma => kernel_rfl) (by rfl) ?hy35 (fun _ _ _ => trivial) (fun hCl' => ?_)
      case hy35 => (intro w hSw; refine T.qVal ?_ hSw; (have fF8 := F8.out w hSw; have fF9 := F9.out w hSw; have fF10 := F10.out w hSw); (try dsimp only [List.getElem_toArray, List.getElem_cons_succ, List.getElem_cons_zero]); go_simp; try with_reducible rfl)
      simp only [Act.put, List.setIfInBounds_toArray]; dsimp only [List.set_cons_zero, List.set_cons_succ]
      replace hCl := hCl'; clear hCl'
      refine T.qTake (i := 5) (d := (some 53)) (v := ((.int .i64 h))) rfl rfl (by as_aux_lemma => kernel_rfl) (by decide) hCl (by as_aux_lemma => kernel_rfl) (by as_aux_lemma => kernel_rfl) (by as_aux_lemma => kernel_rfl) (by rfl) ?hy36 (fun _ _ _ => trivial) (fun hCl' => ?_)
      case hy36 => (intro w hSw; (have fF8 := F8.out w hSw; have fF9 := F9.out w hSw; have fF10 := F10.out w hSw); (try dsimp only [List.getElem_toArray, List.getElem_cons_succ, List.getElem_cons_zero]); go_simp; (refine (callsIn_wide.2 (HRh.out w)).mono ?_; rintro e w3 ⟨rfl, rfl⟩; exact ⟨rfl, hSw⟩))
      simp only [Act.put, List.setIfInBounds_toArray]; dsimp only [List.set_cons_zero, List.set_cons_succ]
      replace hCl := hCl'; clear hCl'
      refine T.qTake (i := 11) (d := (some 59)) (v := ((.int .i64 g))) rfl rfl (by as_aux_lemma => kernel_rfl) (by decide) hCl (by as_aux_lemma => kernel_rfl) (by as_aux_lemma => kernel_rfl) (by as_aux_lemma => kernel_rfl) (by rfl) ?hy37 (fun _ _ _ => trivial) (fun hCl' => ?_)
      case hy37 => (intro w hSw; (have fF8 := F8.out w hSw; have fF9 := F9.out w hSw; have fF10 := F10.out w hSw); (try dsimp only [List.getElem_toArray, List.getElem_cons_succ, List.getElem_cons_zero]); go_simp; (refine (callsIn_wide.2 (HRg.out w)).mono ?_; rintro e w3 ⟨rfl, rfl⟩; exact ⟨rfl, hSw⟩))
      simp only [Act.put, List.setIfInBounds_toArray]; dsimp only [List.set_cons_zero, List.set_cons_succ]
      replace hCl := hCl'; clear hCl'
      refine T.qTake (i := 17) (d := (some 65)) (v := ((.int .i64 j))) rfl rfl (by as_aux_lemma => kernel_rfl) (by decide) hCl (by as_aux_lemma => kernel_rfl) (by as_aux_lemma => kernel_rfl) (by as_aux_lemma => kernel_rfl) (by rfl) ?hy38 (fun _ _ _ => trivial) (fun hCl' => ?_)
      case hy38 => (intro w hSw; (have fF8 := F8.out w hSw; have fF9 := F9.out w hSw; have fF10 := F10.out w hSw); (try dsimp only [List.getElem_toArray, List.getElem_cons_succ, List.getElem_cons_zero]); go_simp; (refine (callsIn_wide.2 (HRj.out w)).mono ?_; rintro e w3 ⟨rfl, rfl⟩; exact ⟨rfl, hSw⟩))
      simp only [Act.put, List.setIfInBounds_toArray]; dsimp only [List.set_cons_zero, List.set_cons_succ]
      replace hCl := hCl'; clear hCl'
      refine T.qTake (i := 18) (d := (some 10)) (v := ?v39) rfl rfl (by as_aux_lemma => kernel_rfl) (by decide) hCl (by as_aux_lemma => kernel_rfl) (by as_aux_lemma => kernel_rfl) (by as_aux_lemma => kernel_rfl) (by rfl) ?hy39 (fun _ _ _ => trivial) (fun hCl' => ?_)
      case hy39 => (intro w hSw; refine T.qVal ?_ hSw; (have fF8 := F8.out w hSw; have fF9 := F9.out w hSw; have fF10 := F10.out w hSw); (try dsimp only [List.getElem_toArray, List.getElem_cons_succ, List.getElem_cons_zero]); go_simp; try with_reducible rfl)
      simp only [Act.put, List.setIfInBounds_toArray]; dsimp only [List.set_cons_zero, List.set_cons_succ]
      replace hCl := hCl'; clear hCl'
      refine T.qTake (i := 19) (d := (some 11)) (v := ?v40) rfl rfl (by as_aux_lemma => kernel_rfl) (by decide) hCl (by as_aux_lemma => kernel_rfl) (by as_aux_lemma => kernel_rfl) (by as_aux_lemma => kernel_rfl) (by rfl) ?hy40 (fun _ _ _ => trivial) (fun hCl' => ?_)
      case hy40 => (intro w hSw; refine T.qVal ?_ hSw; (have fF8 := F8.out w hSw; have fF9 := F9.out w hSw; have fF10 := F10.out w hSw); (try dsimp only [List.getElem_toArray, List.getElem_cons_succ, List.getElem_cons_zero]); go_simp; try with_reducible rfl)
      simp only [Act.put, List.setIfInBounds_toArray]; dsimp only [List.set_cons_zero, List.set_cons_succ]
      replace hCl := hCl'; clear hCl'
      refine T.tail_intro (by as_aux_lemma => kernel_rfl) (fun Y7 hY7 => ?_)
      replace U := U.trans hY7
      replace kC := hY7.blk kC
      replace kN := hY7.blk kN
      replace kM := hY7.blk kM
      clear F8 F9 F10 hY7
      refine lastG (i := 20) (by as_aux_lemma => kernel_rfl) rfl (by rfl) (by decide) (fun K hK => ?_)
      go_simp
      refine hK.out _ _ ?_
      clear hK K
      refine doneG (by as_aux_lemma => kernel_rfl) ?_ _
      refine S.nrm_intro ?_
      clear HRi HRk HRl HRh HRg HRj wH
      clear kN kM
      go_wp2_with fail
      refine (Cs.out _ U).mono ?_
      rintro e x11 ⟨rfl, u12⟩
      replace U := U.trans u12
      replace kC := u12.blk kC
      clear u12 
      have dkCks := blk_lt kC
      have gks := U.size
      have ks := blk_new x11 (.cells #[.int .i64 0, .int .i64 0] 34) _ rfl
      replace kC := blk_keep (.cells #[.int .i64 0, .int .i64 0] 34) kC
      replace U := U.alloc (.cells #[.int .i64 0, .int .i64 0] 34)
      go_wp2_with fail
      obtain ⟨pks, hpks⟩ : ∃ z, x11.heap.size = z := ⟨_, rfl⟩
      obtain ⟨W13, hW13⟩ : ∃ z, x11.alloc (.cells #[.int .i64 0, .int .i64 0] 34) = z := ⟨_, rfl⟩
      rw [hpks] at ks dkCks gks
      rw [hW13] at ks U kC
      rw [hW13, hpks]
      go_wp2_with fail
      clear hpks hW13
      refine (Ct.out _ U).mono ?_
      rintro e x14 ⟨rfl, u15⟩
      replace U := U.trans u15
      replace kC := u15.blk kC
      replace ks := u15.blk ks
      clear u15 
      have dkCkt := blk_lt kC
      have dkskt := blk_lt ks
      have gkt := U.size
      have kt := blk_new x14 (.cells #[.int .i64 lt, .int .i64 ht] 34) _ rfl
      replace kC := blk_keep (.cells #[.int .i64 lt, .int .i64 ht] 34) kC
      replace ks := blk_keep (.cells #[.int .i64 lt, .int .i64 ht] 34) ks
      replace U := U.alloc (.cells #[.int .i64 lt, .int .i64 ht] 34)
      obtain ⟨pkt, hpkt⟩ : ∃ z, x14.heap.size = z := ⟨_, rfl⟩
      obtain ⟨W16, hW16⟩ : ∃ z, x14.alloc (.cells #[.int .i64 lt, .int .i64 ht] 34) = z := ⟨_, rfl⟩
      rw [hpkt] at kt dkCkt dkskt gkt
      rw [hW16] at kt U kC ks
      go_wp2_with fail
      clear hpkt hW16
      refine (HW.out _).mono ?_
      rintro e x17 ⟨rfl, u18⟩
      replace U := U.trans u18
      replace kC := u18.blk kC
      replace ks := u18.blk ks
      replace kt := u18.blk kt
      clear u18 
      go_wp2
      go_ret
      exact ⟨rfl, U⟩
    case inl =>
      obtain ⟨_, rfl, rfl⟩ := ta.flip tb
      obtain ⟨_, rfl, rfl⟩ := tp.flip tq
      obtain ⟨_, _, f1, f2⟩ := ta.dif ts tt
      obtain ⟨_, _, f3, f4⟩ := ta.tri tc td
      obtain ⟨_, _, f5, f6⟩ := tp.dif tu ts
      obtain ⟨_, _, f7, f8⟩ := tp.tri to tr
      rw [Int.add_comm lo lr] at f7
      rw [Int.add_comm ho hr] at f8
      have hbk : (i == k) = true → la = 0 ∧ ha = 0 := fun hb => by
        have := eq_of_beq hb
        subst this
        exact ta.self
      have hbg : (h == g) = true → lp = 0 ∧ hp = 0 := fun hb => by
        have := eq_of_beq hb
        subst this
        exact tp.self
      generalize hik : (i == k) = eik at hbk
      generalize hhg : (h == g) = ehg at hbg
      have z0 : IntKind.i64.wrap (-ha) = -ha := IntWalk.i64_in _ (by omega)
      have z1 : IntKind.i64.wrap (-la) = -la := IntWalk.i64_in _ (by omega)
      have z2 : IntKind.i64.wrap (ls - ht) = ls - ht := IntWalk.i64_in _ (by omega)
      have z3 : IntKind.i64.wrap (hs - lt) = hs - lt := IntWalk.i64_in _ (by omega)
      have z4 : IntKind.i64.wrap (lc + ld) = lc + ld := IntWalk.i64_in _ (by omega)
      have z5 : IntKind.i64.wrap (hc + hd) = hc + hd := IntWalk.i64_in _ (by omega)
      have z6 : IntKind.i64.wrap (-hp) = -hp := IntWalk.i64_in _ (by omega)
      have z7 : IntKind.i64.wrap (-lp) = -lp := IntWalk.i64_in _ (by omega)
      have z8 : IntKind.i64.wrap (lu - hs) = lu - hs := IntWalk.i64_in _ (by omega)
      have z9 : IntKind.i64.wrap (hu - ls) = hu - ls := IntWalk.i64_in _ (by omega)
      have z10 : IntKind.i64.wrap (lr + lo) = lr + lo := IntWalk.i64_in _ (by omega)
      have z11 : IntKind.i64.wrap (hr + ho) = hr + ho := IntWalk.i64_in _ (by omega)
      clear ta tb tc td tp tq tr to tu vs ws xs vt wt xt va wa xa vb wb xb vc wc xc vd wd xd vp wp xp vq wq xq vr wr xr vo wo xo vu wu xu ai bi ak bk al bl ah bh ag bg aj bj q1 q2 q3 q4 hv
      clear I IO IP
      go_enter Try.func11, Try.ntmps11
      obtain ⟨q0, e0⟩ : ∃ x, w.heap.size = x := ⟨_, rfl⟩
      have kC := blk_keep (.cells #[.int .i64 m0, .int .i64 m1, .int .i64 m2] 39) (blk_keep (.cells #[.int .i64 n0, .int .i64 n1, .int .i64 n2] 39) (blk_new w (.cells #[.int .i64 H, .slice aR rs.length cR, .slice aO nO cO, .slice aP nP cP] 26) q0 e0.symm))
      have kN := blk_keep (.cells #[.int .i64 m0, .int .i64 m1, .int .i64 m2] 39) (blk_new (w.alloc (.cells #[.int .i64 H, .slice aR rs.length cR, .slice aO nO cO, .slice aP nP cP] 26)) (.cells #[.int .i64 n0, .int .i64 n1, .int .i64 n2] 39) (q0 + 1) (by simp [e0]))
      have kM := blk_new ((w.alloc (.cells #[.int .i64 H, .slice aR rs.length cR, .slice aO nO cO, .slice aP nP cP] 26)).alloc (.cells #[.int .i64 n0, .int .i64 n1, .int .i64 n2] 39)) (.cells #[.int .i64 m0, .int .i64 m1, .int .i64 m2] 39) (q0 + 2) (by simp [e0])
      go_wp2_with fail
      refine (HS.out _ U).mono ?_
      rintro e x1 ⟨rfl, u2⟩
      replace U := U.trans u2
      replace kC := u2.blk kC
      replace kN := u2.blk kN
      replace kM := u2.blk kM
      clear u2 HS
      go_wp2_with fail
      have F4 := Lib.hid (fun w (u : Up x1 w) => cellB (u.blk kC))
      have F5 := Lib.hid (fun w (u : Up x1 w) => cellB (u.blk kN))
      have F6 := Lib.hid (fun w (u : Up x1 w) => cellB (u.blk kM))
      refine (wpIn_wide (n := 5)).1 ?_
      refine wpIn_nrm ?_
      refine T.regionQ (fun w' => Up x1 w') 20 1 hmx (by as_aux_lemma => kernel_rfl) (by as_aux_lemma => kernel_rfl) ((Up.refl x1).drew) (fun hCl => ?_)
      refine T.qTake (i := 0) (d := (some 30)) (v := ?v41) rfl rfl (by as_aux_lemma => kernel_rfl) (by decide) hCl (by as_aux_lemma => kernel_rfl) (by as_aux_lemma => kernel_rfl) (by as_aux_lemma => kernel_rfl) (by rfl) ?hy41 (fun _ _ _ => trivial) (fun hCl' => ?_)
      case hy41 => (intro w hSw; refine T.qVal ?_ hSw; (have fF4 := F4.out w hSw; have fF5 := F5.out w hSw; have fF6 := F6.out w hSw); (try dsimp only [List.getElem_toArray, List.getElem_cons_succ, List.getElem_cons_zero]); go_simp; try with_reducible rfl)
      simp only [Act.put, List.setIfInBounds_toArray]; dsimp only [List.set_cons_zero, List.set_cons_succ]
      replace hCl := hCl'; clear hCl'
      refine T.qTake (i := 2) (d := (some 32)) (v := ?v42) rfl rfl (by as_aux_lemma => kernel_rfl) (by decide) hCl (by as_aux_lemma => kernel_rfl) (by as_aux_lemma => kernel_rfl) (by as_aux_lemma => kernel_rfl) (by rfl) ?hy42 (fun _ _ _ => trivial) (fun hCl' => ?_)
      case hy42 => (intro w hSw; refine T.qVal ?_ hSw; (have fF4 := F4.out w hSw; have fF5 := F5.out w hSw; have fF6 := F6.out w hSw); (try dsimp only [List.getElem_toArray, List.getElem_cons_succ, List.getElem_cons_zero]); go_simp; try with_reducible rfl)
      simp only [Act.put, List.setIfInBounds_toArray]; dsimp only [List.set_cons_zero, List.set_cons_succ]
      replace hCl := hCl'; clear hCl'
      refine T.qTake (i := 6) (d := (some 36)) (v := ?v43) rfl rfl (by as_aux_lemma => kernel_rfl) (by decide) hCl (by as_aux_lemma => kernel_rfl) (by as_aux_lemma => kernel_rfl) (by as_aux_lemma => kernel_rfl) (by rfl) ?hy43 (fun _ _ _ => trivial) (fun hCl' => ?_)
      case hy43 => (intro w hSw; refine T.qVal ?_ hSw; (have fF4 := F4.out w hSw; have fF5 := F5.out w hSw; have fF6 := F6.out w hSw); (try dsimp only [List.getElem_toArray, List.getElem_cons_succ, List.getElem_cons_zero]); go_simp; try with_reducible rfl)
      simp only [Act.put, List.setIfInBounds_toArray]; dsimp only [List.set_cons_zero, List.set_cons_succ]
      replace hCl := hCl'; clear hCl'
      refine T.qTake (i := 8) (d := (some 38)) (v := ?v44) rfl rfl (by as_aux_lemma => kernel_rfl) (by decide) hCl (by as_aux_lemma => kernel_rfl) (by as_aux_lemma => kernel_rfl) (by as_aux_lemma => kernel_rfl) (by rfl) ?hy44 (fun _ _ _ => trivial) (fun hCl' => ?_)
      case hy44 => (intro w hSw; refine T.qVal ?_ hSw; (have fF4 := F4.out w hSw; have fF5 := F5.out w hSw; have fF6 := F6.out w hSw); (try dsimp only [List.getElem_toArray, List.getElem_cons_succ, List.getElem_cons_zero]); go_simp; try with_reducible rfl)
      simp only [Act.put, List.setIfInBounds_toArray]; dsimp only [List.set_cons_zero, List.set_cons_succ]
      replace hCl := hCl'; clear hCl'
      refine T.qTake (i := 12) (d := (some 42)) (v := ?v45) rfl rfl (by as_aux_lemma => kernel_rfl) (by decide) hCl (by as_aux_lemma => kernel_rfl) (by as_aux_lemma => kernel_rfl) (by as_aux_lemma => kernel_rfl) (by rfl) ?hy45 (fun _ _ _ => trivial) (fun hCl' => ?_)
      case hy45 => (intro w hSw; refine T.qVal ?_ hSw; (have fF4 := F4.out w hSw; have fF5 := F5.out w hSw; have fF6 := F6.out w hSw); (try dsimp only [List.getElem_toArray, List.getElem_cons_succ, List.getElem_cons_zero]); go_simp; try with_reducible rfl)
      simp only [Act.put, List.setIfInBounds_toArray]; dsimp only [List.set_cons_zero, List.set_cons_succ]
      replace hCl := hCl'; clear hCl'
      refine T.qTake (i := 14) (d := (some 44)) (v := ?v46) rfl rfl (by as_aux_lemma => kernel_rfl) (by decide) hCl (by as_aux_lemma => kernel_rfl) (by as_aux_lemma => kernel_rfl) (by as_aux_lemma => kernel_rfl) (by rfl) ?hy46 (fun _ _ _ => trivial) (fun hCl' => ?_)
      case hy46 => (intro w hSw; refine T.qVal ?_ hSw; (have fF4 := F4.out w hSw; have fF5 := F5.out w hSw; have fF6 := F6.out w hSw); (try dsimp only [List.getElem_toArray, List.getElem_cons_succ, List.getElem_cons_zero]); go_simp; try with_reducible rfl)
      simp only [Act.put, List.setIfInBounds_toArray]; dsimp only [List.set_cons_zero, List.set_cons_succ]
      replace hCl := hCl'; clear hCl'
      refine T.qTake (i := 1) (d := (some 31)) (v := ?v47) rfl rfl (by as_aux_lemma => kernel_rfl) (by decide) hCl (by as_aux_lemma => kernel_rfl) (by as_aux_lemma => kernel_rfl) (by as_aux_lemma => kernel_rfl) (by rfl) ?hy47 (fun _ _ _ => trivial) (fun hCl' => ?_)
      case hy47 => (intro w hSw; refine T.qVal ?_ hSw; (have fF4 := F4.out w hSw; have fF5 := F5.out w hSw; have fF6 := F6.out w hSw); (try dsimp only [List.getElem_toArray, List.getElem_cons_succ, List.getElem_cons_zero]); go_simp; try with_reducible rfl)
      simp only [Act.put, List.setIfInBounds_toArray]; dsimp only [List.set_cons_zero, List.set_cons_succ]
      replace hCl := hCl'; clear hCl'
      refine T.qTake (i := 3) (d := (some 33)) (v := ?v48) rfl rfl (by as_aux_lemma => kernel_rfl) (by decide) hCl (by as_aux_lemma => kernel_rfl) (by as_aux_lemma => kernel_rfl) (by as_aux_lemma => kernel_rfl) (by rfl) ?hy48 (fun _ _ _ => trivial) (fun hCl' => ?_)
      case hy48 => (intro w hSw; refine T.qVal ?_ hSw; (have fF4 := F4.out w hSw; have fF5 := F5.out w hSw; have fF6 := F6.out w hSw); (try dsimp only [List.getElem_toArray, List.getElem_cons_succ, List.getElem_cons_zero]); go_simp; try with_reducible rfl)
      simp only [Act.put, List.setIfInBounds_toArray]; dsimp only [List.set_cons_zero, List.set_cons_succ]
      replace hCl := hCl'; clear hCl'
      refine T.qTake (i := 7) (d := (some 37)) (v := ?v49) rfl rfl (by as_aux_lemma => kernel_rfl) (by decide) hCl (by as_aux_lemma => kernel_rfl) (by as_aux_lemma => kernel_rfl) (by as_aux_lemma => kernel_rfl) (by rfl) ?hy49 (fun _ _ _ => trivial) (fun hCl' => ?_)
      case hy49 => (intro w hSw; refine T.qVal ?_ hSw; (have fF4 := F4.out w hSw; have fF5 := F5.out w hSw; have fF6 := F6.out w hSw); (try dsimp only [List.getElem_toArray, List.getElem_cons_succ, List.getElem_cons_zero]); go_simp; try with_reducible rfl)
      simp only [Act.put, List.setIfInBounds_toArray]; dsimp only [List.set_cons_zero, List.set_cons_succ]
      replace hCl := hCl'; clear hCl'
      refine T.qTake (i := 9) (d := (some 39)) (v := ?v50) rfl rfl (by as_aux_lemma => kernel_rfl) (by decide) hCl (by as_aux_lemma => kernel_rfl) (by as_aux_lemma => kernel_rfl) (by as_aux_lemma => kernel_rfl) (by rfl) ?hy50 (fun _ _ _ => trivial) (fun hCl' => ?_)
      case hy50 => (intro w hSw; refine T.qVal ?_ hSw; (have fF4 := F4.out w hSw; have fF5 := F5.out w hSw; have fF6 := F6.out w hSw); (try dsimp only [List.getElem_toArray, List.getElem_cons_succ, List.getElem_cons_zero]); go_simp; try with_reducible rfl)
      simp only [Act.put, List.setIfInBounds_toArray]; dsimp only [List.set_cons_zero, List.set_cons_succ]
      replace hCl := hCl'; clear hCl'
      refine T.qTake (i := 13) (d := (some 43)) (v := ?v51) rfl rfl (by as_aux_lemma => kernel_rfl) (by decide) hCl (by as_aux_lemma => kernel_rfl) (by as_aux_lemma => kernel_rfl) (by as_aux_lemma => kernel_rfl) (by rfl) ?hy51 (fun _ _ _ => trivial) (fun hCl' => ?_)
      case hy51 => (intro w hSw; refine T.qVal ?_ hSw; (have fF4 := F4.out w hSw; have fF5 := F5.out w hSw; have fF6 := F6.out w hSw); (try dsimp only [List.getElem_toArray, List.getElem_cons_succ, List.getElem_cons_zero]); go_simp; try with_reducible rfl)
      simp only [Act.put, List.setIfInBounds_toArray]; dsimp only [List.set_cons_zero, List.set_cons_succ]
      replace hCl := hCl'; clear hCl'
      refine T.qTake (i := 15) (d := (some 45)) (v := ?v52) rfl rfl (by as_aux_lemma => kernel_rfl) (by decide) hCl (by as_aux_lemma => kernel_rfl) (by as_aux_lemma => kernel_rfl) (by as_aux_lemma => kernel_rfl) (by rfl) ?hy52 (fun _ _ _ => trivial) (fun hCl' => ?_)
      case hy52 => (intro w hSw; refine T.qVal ?_ hSw; (have fF4 := F4.out w hSw; have fF5 := F5.out w hSw; have fF6 := F6.out w hSw); (try dsimp only [List.getElem_toArray, List.getElem_cons_succ, List.getElem_cons_zero]); go_simp; try with_reducible rfl)
      simp only [Act.put, List.setIfInBounds_toArray]; dsimp only [List.set_cons_zero, List.set_cons_succ]
      replace hCl := hCl'; clear hCl'
      refine T.qTake (i := 4) (d := (some 34)) (v := ?v53) rfl rfl (by as_aux_lemma => kernel_rfl) (by decide) hCl (by as_aux_lemma => kernel_rfl) (by as_aux_lemma => kernel_rfl) (by as_aux_lemma => kernel_rfl) (by rfl) ?hy53 (fun _ _ _ => trivial) (fun hCl' => ?_)
      case hy53 => (intro w hSw; refine T.qVal ?_ hSw; (have fF4 := F4.out w hSw; have fF5 := F5.out w hSw; have fF6 := F6.out w hSw); (try dsimp only [List.getElem_toArray, List.getElem_cons_succ, List.getElem_cons_zero]); go_simp; try with_reducible rfl)
      simp only [Act.put, List.setIfInBounds_toArray]; dsimp only [List.set_cons_zero, List.set_cons_succ]
      replace hCl := hCl'; clear hCl'
      refine T.qTake (i := 10) (d := (some 40)) (v := ?v54) rfl rfl (by as_aux_lemma => kernel_rfl) (by decide) hCl (by as_aux_lemma => kernel_rfl) (by as_aux_lemma => kernel_rfl) (by as_aux_lemma => kernel_rfl) (by rfl) ?hy54 (fun _ _ _ => trivial) (fun hCl' => ?_)
      case hy54 => (intro w hSw; refine T.qVal ?_ hSw; (have fF4 := F4.out w hSw; have fF5 := F5.out w hSw; have fF6 := F6.out w hSw); (try dsimp only [List.getElem_toArray, List.getElem_cons_succ, List.getElem_cons_zero]); go_simp; try with_reducible rfl)
      simp only [Act.put, List.setIfInBounds_toArray]; dsimp only [List.set_cons_zero, List.set_cons_succ]
      replace hCl := hCl'; clear hCl'
      refine T.qTake (i := 16) (d := (some 46)) (v := ?v55) rfl rfl (by as_aux_lemma => kernel_rfl) (by decide) hCl (by as_aux_lemma => kernel_rfl) (by as_aux_lemma => kernel_rfl) (by as_aux_lemma => kernel_rfl) (by rfl) ?hy55 (fun _ _ _ => trivial) (fun hCl' => ?_)
      case hy55 => (intro w hSw; refine T.qVal ?_ hSw; (have fF4 := F4.out w hSw; have fF5 := F5.out w hSw; have fF6 := F6.out w hSw); (try dsimp only [List.getElem_toArray, List.getElem_cons_succ, List.getElem_cons_zero]); go_simp; try with_reducible rfl)
      simp only [Act.put, List.setIfInBounds_toArray]; dsimp only [List.set_cons_zero, List.set_cons_succ]
      replace hCl := hCl'; clear hCl'
      refine T.qTake (i := 5) (d := (some 35)) (v := ((.int .i64 i))) rfl rfl (by as_aux_lemma => kernel_rfl) (by decide) hCl (by as_aux_lemma => kernel_rfl) (by as_aux_lemma => kernel_rfl) (by as_aux_lemma => kernel_rfl) (by rfl) ?hy56 (fun _ _ _ => trivial) (fun hCl' => ?_)
      case hy56 => (intro w hSw; (have fF4 := F4.out w hSw; have fF5 := F5.out w hSw; have fF6 := F6.out w hSw); (try dsimp only [List.getElem_toArray, List.getElem_cons_succ, List.getElem_cons_zero]); go_simp; (refine (callsIn_wide.2 (HRi.out w)).mono ?_; rintro e w3 ⟨rfl, rfl⟩; exact ⟨rfl, hSw⟩))
      simp only [Act.put, List.setIfInBounds_toArray]; dsimp only [List.set_cons_zero, List.set_cons_succ]
      replace hCl := hCl'; clear hCl'
      refine T.qTake (i := 11) (d := (some 41)) (v := ((.int .i64 k))) rfl rfl (by as_aux_lemma => kernel_rfl) (by decide) hCl (by as_aux_lemma => kernel_rfl) (by as_aux_lemma => kernel_rfl) (by as_aux_lemma => kernel_rfl) (by rfl) ?hy57 (fun _ _ _ => trivial) (fun hCl' => ?_)
      case hy57 => (intro w hSw; (have fF4 := F4.out w hSw; have fF5 := F5.out w hSw; have fF6 := F6.out w hSw); (try dsimp only [List.getElem_toArray, List.getElem_cons_succ, List.getElem_cons_zero]); go_simp; (refine (callsIn_wide.2 (HRk.out w)).mono ?_; rintro e w3 ⟨rfl, rfl⟩; exact ⟨rfl, hSw⟩))
      simp only [Act.put, List.setIfInBounds_toArray]; dsimp only [List.set_cons_zero, List.set_cons_succ]
      replace hCl := hCl'; clear hCl'
      refine T.qTake (i := 17) (d := (some 47)) (v := ((.int .i64 l))) rfl rfl (by as_aux_lemma => kernel_rfl) (by decide) hCl (by as_aux_lemma => kernel_rfl) (by as_aux_lemma => kernel_rfl) (by as_aux_lemma => kernel_rfl) (by rfl) ?hy58 (fun _ _ _ => trivial) (fun hCl' => ?_)
      case hy58 => (intro w hSw; (have fF4 := F4.out w hSw; have fF5 := F5.out w hSw; have fF6 := F6.out w hSw); (try dsimp only [List.getElem_toArray, List.getElem_cons_succ, List.getElem_cons_zero]); go_simp; (refine (callsIn_wide.2 (HRl.out w)).mono ?_; rintro e w3 ⟨rfl, rfl⟩; exact ⟨rfl, hSw⟩))
      simp only [Act.put, List.setIfInBounds_toArray]; dsimp only [List.set_cons_zero, List.set_cons_succ]
      replace hCl := hCl'; clear hCl'
      refine T.qTake (i := 18) (d := (some 7)) (v := ?v59) rfl rfl (by as_aux_lemma => kernel_rfl) (by decide) hCl (by as_aux_lemma => kernel_rfl) (by as_aux_lemma => kernel_rfl) (by as_aux_lemma => kernel_rfl) (by rfl) ?hy59 (fun _ _ _ => trivial) (fun hCl' => ?_)
      case hy59 => (intro w hSw; refine T.qVal ?_ hSw; (have fF4 := F4.out w hSw; have fF5 := F5.out w hSw; have fF6 := F6.out w hSw); (try dsimp only [List.getElem_toArray, List.getElem_cons_succ, List.getElem_cons_zero]); go_simp; try with_reducible rfl)
      simp only [Act.put, List.setIfInBounds_toArray]; dsimp only [List.set_cons_zero, List.set_cons_succ]
      replace hCl := hCl'; clear hCl'
      refine T.qTake (i := 19) (d := (some 8)) (v := ?v60) rfl rfl (by as_aux_lemma => kernel_rfl) (by decide) hCl (by as_aux_lemma => kernel_rfl) (by as_aux_lemma => kernel_rfl) (by as_aux_lemma => kernel_rfl) (by rfl) ?hy60 (fun _ _ _ => trivial) (fun hCl' => ?_)
      case hy60 => (intro w hSw; refine T.qVal ?_ hSw; (have fF4 := F4.out w hSw; have fF5 := F5.out w hSw; have fF6 := F6.out w hSw); (try dsimp only [List.getElem_toArray, List.getElem_cons_succ, List.getElem_cons_zero]); go_simp; try with_reducible rfl)
      simp only [Act.put, List.setIfInBounds_toArray]; dsimp only [List.set_cons_zero, List.set_cons_succ]
      replace hCl := hCl'; clear hCl'
      refine T.tail_intro (by as_aux_lemma => kernel_rfl) (fun Y3 hY3 => ?_)
      replace U := U.trans hY3
      replace kC := hY3.blk kC
      replace kN := hY3.blk kN
      replace kM := hY3.blk kM
      clear F4 F5 F6 hY3
      refine lastG (i := 20) (by as_aux_lemma => kernel_rfl) rfl (by rfl) (by decide) (fun K hK => ?_)
      go_simp
      refine hK.out _ _ ?_
      clear hK K
      refine doneG (by as_aux_lemma => kernel_rfl) ?_ _
      refine S.nrm_intro ?_
      go_wp2_with fail
      have F8 := Lib.hid (fun w (u : Up Y3 w) => cellB (u.blk kC))
      have F9 := Lib.hid (fun w (u : Up Y3 w) => cellB (u.blk kN))
      have F10 := Lib.hid (fun w (u : Up Y3 w) => cellB (u.blk kM))
      refine (wpIn_wide (n := 5)).1 ?_
      refine wpIn_nrm ?_
      refine T.regionQ (fun w' => Up Y3 w') 20 1 hmx (by as_aux_lemma => kernel_rfl) (by as_aux_lemma => kernel_rfl) ((Up.refl Y3).drew) (fun hCl => ?_)
      refine T.qTake (i := 0) (d := (some 48)) (v := ?v61) rfl rfl (by as_aux_lemma => kernel_rfl) (by decide) hCl (by as_aux_lemma => kernel_rfl) (by as_aux_lemma => kernel_rfl) (by as_aux_lemma => kernel_rfl) (by rfl) ?hy61 (fun _ _ _ => trivial) (fun hCl' => ?_)
      case hy61 => (intro w hSw; refine T.qVal ?_ hSw; (have fF8 := F8.out w hSw; have fF9 := F9.out w hSw; have fF10 := F10.out w hSw); (try dsimp only [List.getElem_toArray, List.getElem_cons_succ, List.getElem_cons_zero]); go_simp; try with_reducible rfl)
      simp only [Act.put, List.setIfInBounds_toArray]; dsimp only [List.set_cons_zero, List.set_cons_succ]
      replace hCl := hCl'; clear hCl'
      refine T.qTake (i := 2) (d := (some 50)) (v := ?v62) rfl rfl (by as_aux_lemma => kernel_rfl) (by decide) hCl (by as_aux_lemma => kernel_rfl) (by as_aux_lemma => kernel_rfl) (by as_aux_lemma => kernel_rfl) (by rfl) ?hy62 (fun _ _ _ => trivial) (fun hCl' => ?_)
      case hy62 => (intro w hSw; refine T.qVal ?_ hSw; (have fF8 := F8.out w hSw; have fF9 := F9.out w hSw; have fF10 := F10.out w hSw); (try dsimp only [List.getElem_toArray, List.getElem_cons_succ, List.getElem_cons_zero]); go_simp; try with_reducible rfl)
      simp only [Act.put, List.setIfInBounds_toArray]; dsimp only [List.set_cons_zero, List.set_cons_succ]
      replace hCl := hCl'; clear hCl'
      refine T.qTake (i := 6) (d := (some 54)) (v := ?v63) rfl rfl (by as_aux_lemma => kernel_rfl) (by decide) hCl (by as_aux_lemma => kernel_rfl) (by as_aux_lemma => kernel_rfl) (by as_aux_lemma => kernel_rfl) (by rfl) ?hy63 (fun _ _ _ => trivial) (fun hCl' => ?_)
      case hy63 => (intro w hSw; refine T.qVal ?_ hSw; (have fF8 := F8.out w hSw; have fF9 := F9.out w hSw; have fF10 := F10.out w hSw); (try dsimp only [List.getElem_toArray, List.getElem_cons_succ, List.getElem_cons_zero]); go_simp; try with_reducible rfl)
      simp only [Act.put, List.setIfInBounds_toArray]; dsimp only [List.set_cons_zero, List.set_cons_succ]
      replace hCl := hCl'; clear hCl'
      refine T.qTake (i := 8) (d := (some 56)) (v := ?v64) rfl rfl (by as_aux_lemma => kernel_rfl) (by decide) hCl (by as_aux_lemma => kernel_rfl) (by as_aux_lemma => kernel_rfl) (by as_aux_lemma => kernel_rfl) (by rfl) ?hy64 (fun _ _ _ => trivial) (fun hCl' => ?_)
      case hy64 => (intro w hSw; refine T.qVal ?_ hSw; (have fF8 := F8.out w hSw; have fF9 := F9.out w hSw; have fF10 := F10.out w hSw); (try dsimp only [List.getElem_toArray, List.getElem_cons_succ, List.getElem_cons_zero]); go_simp; try with_reducible rfl)
      simp only [Act.put, List.setIfInBounds_toArray]; dsimp only [List.set_cons_zero, List.set_cons_succ]
      replace hCl := hCl'; clear hCl'
      refine T.qTake (i := 12) (d := (some 60)) (v := ?v65) rfl rfl (by as_aux_lemma => kernel_rfl) (by decide) hCl (by as_aux_lemma => kernel_rfl) (by as_aux_lemma => kernel_rfl) (by as_aux_lemma => kernel_rfl) (by rfl) ?hy65 (fun _ _ _ => trivial) (fun hCl' => ?_)
      case hy65 => (intro w hSw; refine T.qVal ?_ hSw; (have fF8 := F8.out w hSw; have fF9 := F9.out w hSw; have fF10 := F10.out w hSw); (try dsimp only [List.getElem_toArray, List.getElem_cons_succ, List.getElem_cons_zero]); go_simp; try with_reducible rfl)
      simp only [Act.put, List.setIfInBounds_toArray]; dsimp only [List.set_cons_zero, List.set_cons_succ]
      replace hCl := hCl'; clear hCl'
      refine T.qTake (i := 14) (d := (some 62)) (v := ?v66) rfl rfl (by as_aux_lemma => kernel_rfl) (by decide) hCl (by as_aux_lemma => kernel_rfl) (by as_aux_lemma => kernel_rfl) (by as_aux_lemma => kernel_rfl) (by rfl) ?hy66 (fun _ _ _ => trivial) (fun hCl' => ?_)
      case hy66 => (intro w hSw; refine T.qVal ?_ hSw; (have fF8 := F8.out w hSw; have fF9 := F9.out w hSw; have fF10 := F10.out w hSw); (try dsimp only [List.getElem_toArray, List.getElem_cons_succ, List.getElem_cons_zero]); go_simp; try with_reducible rfl)
      simp only [Act.put, List.setIfInBounds_toArray]; dsimp only [List.set_cons_zero, List.set_cons_succ]
      replace hCl := hCl'; clear hCl'
      refine T.qTake (i := 1) (d := (some 49)) (v := ?v67) rfl rfl (by as_aux_lemma => kernel_rfl) (by decide) hCl (by as_aux_lemma => kernel_rfl) (by as_aux_lemma => kernel_rfl) (by as_aux_lemma => kernel_rfl) (by rfl) ?hy67 (fun _ _ _ => trivial) (fun hCl' => ?_)
      case hy67 => (intro w hSw; refine T.qVal ?_ hSw; (have fF8 := F8.out w hSw; have fF9 := F9.out w hSw; have fF10 := F10.out w hSw); (try dsimp only [List.getElem_toArray, List.getElem_cons_succ, List.getElem_cons_zero]); go_simp; try with_reducible rfl)
      simp only [Act.put, List.setIfInBounds_toArray]; dsimp only [List.set_cons_zero, List.set_cons_succ]
      replace hCl := hCl'; clear hCl'
      refine T.qTake (i := 3) (d := (some 51)) (v := ?v68) rfl rfl (by as_aux_lemma => kernel_rfl) (by decide) hCl (by as_aux_lemma => kernel_rfl) (by as_aux_lemma => kernel_rfl) (by as_aux_lemma => kernel_rfl) (by rfl) ?hy68 (fun _ _ _ => trivial) (fun hCl' => ?_)
      case hy68 => (intro w hSw; refine T.qVal ?_ hSw; (have fF8 := F8.out w hSw; have fF9 := F9.out w hSw; have fF10 := F10.out w hSw); (try dsimp only [List.getElem_toArray, List.getElem_cons_succ, List.getElem_cons_zero]); go_simp; try with_reducible rfl)
      simp only [Act.put, List.setIfInBounds_toArray]; dsimp only [List.set_cons_zero, List.set_cons_succ]
      replace hCl := hCl'; clear hCl'
      refine T.qTake (i := 7) (d := (some 55)) (v := ?v69) rfl rfl (by as_aux_lemma => kernel_rfl) (by decide) hCl (by as_aux_lemma => kernel_rfl) (by as_aux_lemma => kernel_rfl) (by as_aux_lemma => kernel_rfl) (by rfl) ?hy69 (fun _ _ _ => trivial) (fun hCl' => ?_)
      case hy69 => (intro w hSw; refine T.qVal ?_ hSw; (have fF8 := F8.out w hSw; have fF9 := F9.out w hSw; have fF10 := F10.out w hSw); (try dsimp only [List.getElem_toArray, List.getElem_cons_succ, List.getElem_cons_zero]); go_simp; try with_reducible rfl)
      simp only [Act.put, List.setIfInBounds_toArray]; dsimp only [List.set_cons_zero, List.set_cons_succ]
      replace hCl := hCl'; clear hCl'
      refine T.qTake (i := 9) (d := (some 57)) (v := ?v70) rfl rfl (by as_aux_lemma => kernel_rfl) (by decide) hCl (by as_aux_lemma => kernel_rfl) (by as_aux_lemma => kernel_rfl) (by as_aux_lemma => kernel_rfl) (by rfl) ?hy70 (fun _ _ _ => trivial) (fun hCl' => ?_)
      case hy70 => (intro w hSw; refine T.qVal ?_ hSw; (have fF8 := F8.out w hSw; have fF9 := F9.out w hSw; have fF10 := F10.out w hSw); (try dsimp only [List.getElem_toArray, List.getElem_cons_succ, List.getElem_cons_zero]); go_simp; try with_reducible rfl)
      simp only [Act.put, List.setIfInBounds_toArray]; dsimp only [List.set_cons_zero, List.set_cons_succ]
      replace hCl := hCl'; clear hCl'
      refine T.qTake (i := 13) (d := (some 61)) (v := ?v71) rfl rfl (by as_aux_lemma => kernel_rfl) (by decide) hCl (by as_aux_lemma => kernel_rfl) (by as_aux_lemma => kernel_rfl) (by as_aux_lemma => kernel_rfl) (by rfl) ?hy71 (fun _ _ _ => trivial) (fun hCl' => ?_)
      case hy71 => (intro w hSw; refine T.qVal ?_ hSw; (have fF8 := F8.out w hSw; have fF9 := F9.out w hSw; have fF10 := F10.out w hSw); (try dsimp only [List.getElem_toArray, List.getElem_cons_succ, List.getElem_cons_zero]); go_simp; try with_reducible rfl)
      simp only [Act.put, List.setIfInBounds_toArray]; dsimp only [List.set_cons_zero, List.set_cons_succ]
      replace hCl := hCl'; clear hCl'
      refine T.qTake (i := 15) (d := (some 63)) (v := ?v72) rfl rfl (by as_aux_lemma => kernel_rfl) (by decide) hCl (by as_aux_lemma => kernel_rfl) (by as_aux_lemma => kernel_rfl) (by as_aux_lemma => kernel_rfl) (by rfl) ?hy72 (fun _ _ _ => trivial) (fun hCl' => ?_)
      case hy72 => (intro w hSw; refine T.qVal ?_ hSw; (have fF8 := F8.out w hSw; have fF9 := F9.out w hSw; have fF10 := F10.out w hSw); (try dsimp only [List.getElem_toArray, List.getElem_cons_succ, List.getElem_cons_zero]); go_simp; try with_reducible rfl)
      simp only [Act.put, List.setIfInBounds_toArray]; dsimp only [List.set_cons_zero, List.set_cons_succ]
      replace hCl := hCl'; clear hCl'
      refine T.qTake (i := 4) (d := (some 52)) (v := ?v73) rfl rfl (by as_aux_lemma => kernel_rfl) (by decide) hCl (by as_aux_lemma => kernel_rfl) (by as_aux_lemma => kernel_rfl) (by as_aux_lemma => kernel_rfl) (by rfl) ?hy73 (fun _ _ _ => trivial) (fun hCl' => ?_)
      case hy73 => (intro w hSw; refine T.qVal ?_ hSw; (have fF8 := F8.out w hSw; have fF9 := F9.out w hSw; have fF10 := F10.out w hSw); (try dsimp only [List.getElem_toArray, List.getElem_cons_succ, List.getElem_cons_zero]); go_simp; try with_reducible rfl)
      simp only [Act.put, List.setIfInBounds_toArray]; dsimp only [List.set_cons_zero, List.set_cons_succ]
      replace hCl := hCl'; clear hCl'
      refine T.qTake (i := 10) (d := (some 58)) (v := ?v74) rfl rfl (by as_aux_lemma => kernel_rfl) (by decide) hCl (by as_aux_lemma => kernel_rfl) (by as_aux_lemma => kernel_rfl) (by as_aux_lemma => kernel_rfl) (by rfl) ?hy74 (fun _ _ _ => trivial) (fun hCl' => ?_)
      case hy74 => (intro w hSw; refine T.qVal ?_ hSw; (have fF8 := F8.out w hSw; have fF9 := F9.out w hSw; have fF10 := F10.out w hSw); (try dsimp only [List.getElem_toArray, List.getElem_cons_succ, List.getElem_cons_zero]); go_simp; try with_reducible rfl)
      simp only [Act.put, List.setIfInBounds_toArray]; dsimp only [List.set_cons_zero, List.set_cons_succ]
      replace hCl := hCl'; clear hCl'
      refine T.qTake (i := 16) (d := (some 64)) (v := ?v75) rfl rfl (by as_aux_lemma => kernel_rfl) (by decide) hCl (by as_aux_lemma => kernel_rfl) (by as_aux_lemma => kernel_rfl) (by as_aux_lemma => kernel_rfl) (by rfl) ?hy75 (fun _ _ _ => trivial) (fun hCl' => ?_)
      case hy75 => (intro w hSw; refine T.qVal ?_ hSw; (have fF8 := F8.out w hSw; have fF9 := F9.out w hSw; have fF10 := F10.out w hSw); (try dsimp only [List.getElem_toArray, List.getElem_cons_succ, List.getElem_cons_zero]); go_simp; try with_reducible rfl)
      simp only [Act.put, List.setIfInBounds_toArray]; dsimp only [List.set_cons_zero, List.set_cons_succ]
      replace hCl := hCl'; clear hCl'
      refine T.qTake (i := 5) (d := (some 53)) (v := ((.int .i64 h))) rfl rfl (by as_aux_lemma => kernel_rfl) (by decide) hCl (by as_aux_lemma => kernel_rfl) (by as_aux_lemma => kernel_rfl) (by as_aux_lemma => kernel_rfl) (by rfl) ?hy76 (fun _ _ _ => trivial) (fun hCl' => ?_)
      case hy76 => (intro w hSw; (have fF8 := F8.out w hSw; have fF9 := F9.out w hSw; have fF10 := F10.out w hSw); (try dsimp only [List.getElem_toArray, List.getElem_cons_succ, List.getElem_cons_zero]); go_simp; (refine (callsIn_wide.2 (HRh.out w)).mono ?_; rintro e w3 ⟨rfl, rfl⟩; exact ⟨rfl, hSw⟩))
      simp only [Act.put, List.setIfInBounds_toArray]; dsimp only [List.set_cons_zero, List.set_cons_succ]
      replace hCl := hCl'; clear hCl'
      refine T.qTake (i := 11) (d := (some 59)) (v := ((.int .i64 g))) rfl rfl (by as_aux_lemma => kernel_rfl) (by decide) hCl (by as_aux_lemma => kernel_rfl) (by as_aux_lemma => kernel_rfl) (by as_aux_lemma => kernel_rfl) (by rfl) ?hy77 (fun _ _ _ => trivial) (fun hCl' => ?_)
      case hy77 => (intro w hSw; (have fF8 := F8.out w hSw; have fF9 := F9.out w hSw; have fF10 := F10.out w hSw); (try dsimp only [List.getElem_toArray, List.getElem_cons_succ, List.getElem_cons_zero]); go_simp; (refine (callsIn_wide.2 (HRg.out w)).mono ?_; rintro e w3 ⟨rfl, rfl⟩; exact ⟨rfl, hSw⟩))
      simp only [Act.put, List.setIfInBounds_toArray]; dsimp only [List.set_cons_zero, List.set_cons_succ]
      replace hCl := hCl'; clear hCl'
      refine T.qTake (i := 17) (d := (some 65)) (v := ((.int .i64 j))) rfl rfl (by as_aux_lemma => kernel_rfl) (by decide) hCl (by as_aux_lemma => kernel_rfl) (by as_aux_lemma => kernel_rfl) (by as_aux_lemma => kernel_rfl) (by rfl) ?hy78 (fun _ _ _ => trivial) (fun hCl' => ?_)
      case hy78 => (intro w hSw; (have fF8 := F8.out w hSw; have fF9 := F9.out w hSw; have fF10 := F10.out w hSw); (try dsimp only [List.getElem_toArray, List.getElem_cons_succ, List.getElem_cons_zero]); go_simp; (refine (callsIn_wide.2 (HRj.out w)).mono ?_; rintro e w3 ⟨rfl, rfl⟩; exact ⟨rfl, hSw⟩))
      simp only [Act.put, List.setIfInBounds_toArray]; dsimp only [List.set_cons_zero, List.set_cons_succ]
      replace hCl := hCl'; clear hCl'
      refine T.qTake (i := 18) (d := (some 10)) (v := ?v79) rfl rfl (by as_aux_lemma => kernel_rfl) (by decide) hCl (by as_aux_lemma => kernel_rfl) (by as_aux_lemma => kernel_rfl) (by as_aux_lemma => kernel_rfl) (by rfl) ?hy79 (fun _ _ _ => trivial) (fun hCl' => ?_)
      case hy79 => (intro w hSw; refine T.qVal ?_ hSw; (have fF8 := F8.out w hSw; have fF9 := F9.out w hSw; have fF10 := F10.out w hSw); (try dsimp only [List.getElem_toArray, List.getElem_cons_succ, List.getElem_cons_zero]); go_simp; try with_reducible rfl)
      simp only [Act.put, List.setIfInBounds_toArray]; dsimp only [List.set_cons_zero, List.set_cons_succ]
      replace hCl := hCl'; clear hCl'
      refine T.qTake (i := 19) (d := (some 11)) (v := ?v80) rfl rfl (by as_aux_lemma => kernel_rfl) (by decide) hCl (by as_aux_lemma => kernel_rfl) (by as_aux_lemma => kernel_rfl) (by as_aux_lemma => kernel_rfl) (by rfl) ?hy80 (fun _ _ _ => trivial) (fun hCl' => ?_)
      case hy80 => (intro w hSw; refine T.qVal ?_ hSw; (have fF8 := F8.out w hSw; have fF9 := F9.out w hSw; have fF10 := F10.out w hSw); (try dsimp only [List.getElem_toArray, List.getElem_cons_succ, List.getElem_cons_zero]); go_simp; try with_reducible rfl)
      simp only [Act.put, List.setIfInBounds_toArray]; dsimp only [List.set_cons_zero, List.set_cons_succ]
      replace hCl := hCl'; clear hCl'
      refine T.tail_intro (by as_aux_lemma => kernel_rfl) (fun Y7 hY7 => ?_)
      replace U := U.trans hY7
      replace kC := hY7.blk kC
      replace kN := hY7.blk kN
      replace kM := hY7.blk kM
      clear F8 F9 F10 hY7
      refine lastG (i := 20) (by as_aux_lemma => kernel_rfl) rfl (by rfl) (by decide) (fun K hK => ?_)
      go_simp
      refine hK.out _ _ ?_
      clear hK K
      refine doneG (by as_aux_lemma => kernel_rfl) ?_ _
      refine S.nrm_intro ?_
      clear HRi HRk HRl HRh HRg HRj wH
      clear kN kM
      go_wp2_with fail
      refine (Cs.out _ U).mono ?_
      rintro e x11 ⟨rfl, u12⟩
      replace U := U.trans u12
      replace kC := u12.blk kC
      clear u12 
      have dkCks := blk_lt kC
      have gks := U.size
      have ks := blk_new x11 (.cells #[.int .i64 ls, .int .i64 hs] 34) _ rfl
      replace kC := blk_keep (.cells #[.int .i64 ls, .int .i64 hs] 34) kC
      replace U := U.alloc (.cells #[.int .i64 ls, .int .i64 hs] 34)
      obtain ⟨pks, hpks⟩ : ∃ z, x11.heap.size = z := ⟨_, rfl⟩
      obtain ⟨W13, hW13⟩ : ∃ z, x11.alloc (.cells #[.int .i64 ls, .int .i64 hs] 34) = z := ⟨_, rfl⟩
      rw [hpks] at ks dkCks gks
      rw [hW13] at ks U kC
      go_wp2_with fail
      clear hpks hW13
      refine (Ct.out _ U).mono ?_
      rintro e x14 ⟨rfl, u15⟩
      replace U := U.trans u15
      replace kC := u15.blk kC
      replace ks := u15.blk ks
      clear u15 
      have dkCkt := blk_lt kC
      have dkskt := blk_lt ks
      have gkt := U.size
      have kt := blk_new x14 (.cells #[.int .i64 lt, .int .i64 ht] 34) _ rfl
      replace kC := blk_keep (.cells #[.int .i64 lt, .int .i64 ht] 34) kC
      replace ks := blk_keep (.cells #[.int .i64 lt, .int .i64 ht] 34) ks
      replace U := U.alloc (.cells #[.int .i64 lt, .int .i64 ht] 34)
      obtain ⟨pkt, hpkt⟩ : ∃ z, x14.heap.size = z := ⟨_, rfl⟩
      obtain ⟨W16, hW16⟩ : ∃ z, x14.alloc (.cells #[.int .i64 lt, .int .i64 ht] 34) = z := ⟨_, rfl⟩
      rw [hpkt] at kt dkCkt dkskt gkt
      rw [hW16] at kt U kC ks
      go_wp2_with fail
      clear hpkt hW16
      refine (Ca.out _ U).mono ?_
      rintro e x17 ⟨rfl, u18⟩
      replace U := U.trans u18
      replace kC := u18.blk kC
      replace ks := u18.blk ks
      replace kt := u18.blk kt
      clear u18 
      have dkCka := blk_lt kC
      have dkska := blk_lt ks
      have dktka := blk_lt kt
      have gka := U.size
      have ka := blk_new x17 (.cells #[.int .i64 la, .int .i64 ha] 34) _ rfl
      replace kC := blk_keep (.cells #[.int .i64 la, .int .i64 ha] 34) kC
      replace ks := blk_keep (.cells #[.int .i64 la, .int .i64 ha] 34) ks
      replace kt := blk_keep (.cells #[.int .i64 la, .int .i64 ha] 34) kt
      replace U := U.alloc (.cells #[.int .i64 la, .int .i64 ha] 34)
      obtain ⟨pka, hpka⟩ : ∃ z, x17.heap.size = z := ⟨_, rfl⟩
      obtain ⟨W19, hW19⟩ : ∃ z, x17.alloc (.cells #[.int .i64 la, .int .i64 ha] 34) = z := ⟨_, rfl⟩
      rw [hpka] at ka dkCka dkska dktka gka
      rw [hW19] at ka U kC ks kt
      go_wp2_with fail
      clear hpka hW19
      refine (Cb.out _ U).mono ?_
      rintro e x20 ⟨rfl, u21⟩
      replace U := U.trans u21
      replace kC := u21.blk kC
      replace ks := u21.blk ks
      replace kt := u21.blk kt
      replace ka := u21.blk ka
      clear u21 
      have dkCkb := blk_lt kC
      have dkskb := blk_lt ks
      have dktkb := blk_lt kt
      have dkakb := blk_lt ka
      have gkb := U.size
      have kb := blk_new x20 (.cells #[.int .i64 (-ha), .int .i64 (-la)] 34) _ rfl
      replace kC := blk_keep (.cells #[.int .i64 (-ha), .int .i64 (-la)] 34) kC
      replace ks := blk_keep (.cells #[.int .i64 (-ha), .int .i64 (-la)] 34) ks
      replace kt := blk_keep (.cells #[.int .i64 (-ha), .int .i64 (-la)] 34) kt
      replace ka := blk_keep (.cells #[.int .i64 (-ha), .int .i64 (-la)] 34) ka
      replace U := U.alloc (.cells #[.int .i64 (-ha), .int .i64 (-la)] 34)
      obtain ⟨pkb, hpkb⟩ : ∃ z, x20.heap.size = z := ⟨_, rfl⟩
      obtain ⟨W22, hW22⟩ : ∃ z, x20.alloc (.cells #[.int .i64 (-ha), .int .i64 (-la)] 34) = z := ⟨_, rfl⟩
      rw [hpkb] at kb dkCkb dkskb dktkb dkakb gkb
      rw [hW22] at kb U kC ks kt ka
      go_wp2_with fail
      clear hpkb hW22
      refine (Cc.out _ U).mono ?_
      rintro e x23 ⟨rfl, u24⟩
      replace U := U.trans u24
      replace kC := u24.blk kC
      replace ks := u24.blk ks
      replace kt := u24.blk kt
      replace ka := u24.blk ka
      replace kb := u24.blk kb
      clear u24 
      have dkCkc := blk_lt kC
      have dkskc := blk_lt ks
      have dktkc := blk_lt kt
      have dkakc := blk_lt ka
      have dkbkc := blk_lt kb
      have gkc := U.size
      have kc := blk_new x23 (.cells #[.int .i64 lc, .int .i64 hc] 34) _ rfl
      replace kC := blk_keep (.cells #[.int .i64 lc, .int .i64 hc] 34) kC
      replace ks := blk_keep (.cells #[.int .i64 lc, .int .i64 hc] 34) ks
      replace kt := blk_keep (.cells #[.int .i64 lc, .int .i64 hc] 34) kt
      replace ka := blk_keep (.cells #[.int .i64 lc, .int .i64 hc] 34) ka
      replace kb := blk_keep (.cells #[.int .i64 lc, .int .i64 hc] 34) kb
      replace U := U.alloc (.cells #[.int .i64 lc, .int .i64 hc] 34)
      obtain ⟨pkc, hpkc⟩ : ∃ z, x23.heap.size = z := ⟨_, rfl⟩
      obtain ⟨W25, hW25⟩ : ∃ z, x23.alloc (.cells #[.int .i64 lc, .int .i64 hc] 34) = z := ⟨_, rfl⟩
      rw [hpkc] at kc dkCkc dkskc dktkc dkakc dkbkc gkc
      rw [hW25] at kc U kC ks kt ka kb
      go_wp2_with fail
      clear hpkc hW25
      refine (Cd.out _ U).mono ?_
      rintro e x26 ⟨rfl, u27⟩
      replace U := U.trans u27
      replace kC := u27.blk kC
      replace ks := u27.blk ks
      replace kt := u27.blk kt
      replace ka := u27.blk ka
      replace kb := u27.blk kb
      replace kc := u27.blk kc
      clear u27 
      have dkCkd := blk_lt kC
      have dkskd := blk_lt ks
      have dktkd := blk_lt kt
      have dkakd := blk_lt ka
      have dkbkd := blk_lt kb
      have dkckd := blk_lt kc
      have gkd := U.size
      have kd := blk_new x26 (.cells #[.int .i64 ld, .int .i64 hd] 34) _ rfl
      replace kC := blk_keep (.cells #[.int .i64 ld, .int .i64 hd] 34) kC
      replace ks := blk_keep (.cells #[.int .i64 ld, .int .i64 hd] 34) ks
      replace kt := blk_keep (.cells #[.int .i64 ld, .int .i64 hd] 34) kt
      replace ka := blk_keep (.cells #[.int .i64 ld, .int .i64 hd] 34) ka
      replace kb := blk_keep (.cells #[.int .i64 ld, .int .i64 hd] 34) kb
      replace kc := blk_keep (.cells #[.int .i64 ld, .int .i64 hd] 34) kc
      replace U := U.alloc (.cells #[.int .i64 ld, .int .i64 hd] 34)
      obtain ⟨pkd, hpkd⟩ : ∃ z, x26.heap.size = z := ⟨_, rfl⟩
      obtain ⟨W28, hW28⟩ : ∃ z, x26.alloc (.cells #[.int .i64 ld, .int .i64 hd] 34) = z := ⟨_, rfl⟩
      rw [hpkd] at kd dkCkd dkskd dktkd dkakd dkbkd dkckd gkd
      rw [hW28] at kd U kC ks kt ka kb kc
      go_wp2_with fail
      clear hpkd hW28
      have HF := Lib.hid (And.intro (And.intro f1 f2) (And.intro (And.intro f3 f4) (And.intro (And.intro f5 f6) (And.intro f7 f8))))
      clear f1 f2 f3 f4 f5 f6 f7 f8
      have F30 := Lib.hid (fun w (u : Up W28 w) => cellB (u.blk kC))
      have F31 := Lib.hid (fun w (u : Up W28 w) => cellB (u.blk ks))
      have F32 := Lib.hid (fun w (u : Up W28 w) => cellB (u.blk kt))
      have F33 := Lib.hid (fun w (u : Up W28 w) => cellB (u.blk ka))
      have F34 := Lib.hid (fun w (u : Up W28 w) => cellB (u.blk kb))
      have F35 := Lib.hid (fun w (u : Up W28 w) => cellB (u.blk kc))
      have F36 := Lib.hid (fun w (u : Up W28 w) => cellB (u.blk kd))
      refine (wpIn_wide (n := 5)).1 ?_
      refine wpIn_nrm ?_
      refine T.regionQ (fun w' => Up W28 w') 70 1 hmx (by as_aux_lemma => kernel_rfl) (by as_aux_lemma => kernel_rfl) ((Up.refl W28).drew) (fun hCl => ?_)
      refine T.qTake (i := 0) (d := (some 124)) (v := ?v81) rfl rfl (by as_aux_lemma => kernel_rfl) (by decide) hCl (by as_aux_lemma => kernel_rfl) (by as_aux_lemma => kernel_rfl) (by as_aux_lemma => kernel_rfl) (by rfl) ?hy81 (fun _ _ _ => trivial) (fun hCl' => ?_)
      case hy81 => (intro w hSw; refine T.qVal ?_ hSw; (have fF30 := F30.out w hSw; have fF31 := F31.out w hSw; have fF32 := F32.out w hSw; have fF33 := F33.out w hSw; have fF34 := F34.out w hSw; have fF35 := F35.out w hSw; have fF36 := F36.out w hSw); (try dsimp only [List.getElem_toArray, List.getElem_cons_succ, List.getElem_cons_zero]); go_simp; try with_reducible rfl)
      simp only [Act.put, List.setIfInBounds_toArray]; dsimp only [List.set_cons_zero, List.set_cons_succ]
      replace hCl := hCl'; clear hCl'
      refine T.qTake (i := 1) (d := (some 125)) (v := ?v82) rfl rfl (by as_aux_lemma => kernel_rfl) (by decide) hCl (by as_aux_lemma => kernel_rfl) (by as_aux_lemma => kernel_rfl) (by as_aux_lemma => kernel_rfl) (by rfl) ?hy82 (fun _ _ _ => trivial) (fun hCl' => ?_)
      case hy82 => (intro w hSw; refine T.qVal ?_ hSw; (have fF30 := F30.out w hSw; have fF31 := F31.out w hSw; have fF32 := F32.out w hSw; have fF33 := F33.out w hSw; have fF34 := F34.out w hSw; have fF35 := F35.out w hSw; have fF36 := F36.out w hSw); (try dsimp only [List.getElem_toArray, List.getElem_cons_succ, List.getElem_cons_zero]); go_simp; try with_reducible rfl)
      simp only [Act.put, List.setIfInBounds_toArray]; dsimp only [List.set_cons_zero, List.set_cons_succ]
      replace hCl := hCl'; clear hCl'
      refine T.qTake (i := 2) (d := (some 126)) (v := ?v83) rfl rfl (by as_aux_lemma => kernel_rfl) (by decide) hCl (by as_aux_lemma => kernel_rfl) (by as_aux_lemma => kernel_rfl) (by as_aux_lemma => kernel_rfl) (by rfl) ?hy83 (fun _ _ _ => trivial) (fun hCl' => ?_)
      case hy83 => (intro w hSw; refine T.qVal ?_ hSw; (have fF30 := F30.out w hSw; have fF31 := F31.out w hSw; have fF32 := F32.out w hSw; have fF33 := F33.out w hSw; have fF34 := F34.out w hSw; have fF35 := F35.out w hSw; have fF36 := F36.out w hSw); (try dsimp only [List.getElem_toArray, List.getElem_cons_succ, List.getElem_cons_zero]); go_simp; try with_reducible rfl)
      simp only [Act.put, List.setIfInBounds_toArray]; dsimp only [List.set_cons_zero, List.set_cons_succ]
      replace hCl := hCl'; clear hCl'
      refine T.qTake (i := 3) (d := (some 127)) (v := ?v84) rfl rfl (by as_aux_lemma => kernel_rfl) (by decide) hCl (by as_aux_lemma => kernel_rfl) (by as_aux_lemma => kernel_rfl) (by as_aux_lemma => kernel_rfl) (by rfl) ?hy84 (fun _ _ _ => trivial) (fun hCl' => ?_)
      case hy84 => (intro w hSw; refine T.qVal ?_ hSw; (have fF30 := F30.out w hSw; have fF31 := F31.out w hSw; have fF32 := F32.out w hSw; have fF33 := F33.out w hSw; have fF34 := F34.out w hSw; have fF35 := F35.out w hSw; have fF36 := F36.out w hSw); (try dsimp only [List.getElem_toArray, List.getElem_cons_succ, List.getElem_cons_zero]); go_simp; try with_reducible rfl)
      simp only [Act.put, List.setIfInBounds_toArray]; dsimp only [List.set_cons_zero, List.set_cons_succ]
      replace hCl := hCl'; clear hCl'
      refine T.qTake (i := 4) (d := (some 128)) (v := ?v85) rfl rfl (by as_aux_lemma => kernel_rfl) (by decide) hCl (by as_aux_lemma => kernel_rfl) (by as_aux_lemma => kernel_rfl) (by as_aux_lemma => kernel_rfl) (by rfl) ?hy85 (fun _ _ _ => trivial) (fun hCl' => ?_)
      case hy85 => (intro w hSw; refine T.qVal ?_ hSw; (have fF30 := F30.out w hSw; have fF31 := F31.out w hSw; have fF32 := F32.out w hSw; have fF33 := F33.out w hSw; have fF34 := F34.out w hSw; have fF35 := F35.out w hSw; have fF36 := F36.out w hSw); (try dsimp only [List.getElem_toArray, List.getElem_cons_succ, List.getElem_cons_zero]); go_simp; try with_reducible rfl)
      simp only [Act.put, List.setIfInBounds_toArray]; dsimp only [List.set_cons_zero, List.set_cons_succ]
      replace hCl := hCl'; clear hCl'
      refine T.qTake (i := 5) (d := (some 129)) (v := ?v86) rfl rfl (by as_aux_lemma => kernel_rfl) (by decide) hCl (by as_aux_lemma => kernel_rfl) (by as_aux_lemma => kernel_rfl) (by as_aux_lemma => kernel_rfl) (by rfl) ?hy86 (fun _ _ _ => trivial) (fun hCl' => ?_)
      case hy86 => (intro w hSw; refine T.qVal ?_ hSw; (have fF30 := F30.out w hSw; have fF31 := F31.out w hSw; have fF32 := F32.out w hSw; have fF33 := F33.out w hSw; have fF34 := F34.out w hSw; have fF35 := F35.out w hSw; have fF36 := F36.out w hSw); (try dsimp only [List.getElem_toArray, List.getElem_cons_succ, List.getElem_cons_zero]); go_simp; try with_reducible rfl)
      simp only [Act.put, List.setIfInBounds_toArray]; dsimp only [List.set_cons_zero, List.set_cons_succ]
      replace hCl := hCl'; clear hCl'
      refine T.qTake (i := 6) (d := (some 130)) (v := ?v87) rfl rfl (by as_aux_lemma => kernel_rfl) (by decide) hCl (by as_aux_lemma => kernel_rfl) (by as_aux_lemma => kernel_rfl) (by as_aux_lemma => kernel_rfl) (by rfl) ?hy87 (fun _ _ _ => trivial) (fun hCl' => ?_)
      case hy87 => (intro w hSw; refine T.qVal ?_ hSw; (have fF30 := F30.out w hSw; have fF31 := F31.out w hSw; have fF32 := F32.out w hSw; have fF33 := F33.out w hSw; have fF34 := F34.out w hSw; have fF35 := F35.out w hSw; have fF36 := F36.out w hSw); (try dsimp only [List.getElem_toArray, List.getElem_cons_succ, List.getElem_cons_zero]); go_simp; try with_reducible rfl)
      simp only [Act.put, List.setIfInBounds_toArray]; dsimp only [List.set_cons_zero, List.set_cons_succ]
      replace hCl := hCl'; clear hCl'
      refine T.qTake (i := 7) (d := (some 131)) (v := ?v88) rfl rfl (by as_aux_lemma => kernel_rfl) (by decide) hCl (by as_aux_lemma => kernel_rfl) (by as_aux_lemma => kernel_rfl) (by as_aux_lemma => kernel_rfl) (by rfl) ?hy88 (fun _ _ _ => trivial) (fun hCl' => ?_)
      case hy88 => (intro w hSw; refine T.qVal ?_ hSw; (have fF30 := F30.out w hSw; have fF31 := F31.out w hSw; have fF32 := F32.out w hSw; have fF33 := F33.out w hSw; have fF34 := F34.out w hSw; have fF35 := F35.out w hSw; have fF36 := F36.out w hSw); (try dsimp only [List.getElem_toArray, List.getElem_cons_succ, List.getElem_cons_zero]); go_simp; try with_reducible rfl)
      simp only [Act.put, List.setIfInBounds_toArray]; dsimp only [List.set_cons_zero, List.set_cons_succ]
      replace hCl := hCl'; clear hCl'
      refine T.qTake (i := 8) (d := (some 132)) (v := ?v89) rfl rfl (by as_aux_lemma => kernel_rfl) (by decide) hCl (by as_aux_lemma => kernel_rfl) (by as_aux_lemma => kernel_rfl) (by as_aux_lemma => kernel_rfl) (by rfl) ?hy89 (fun _ _ _ => trivial) (fun hCl' => ?_)
      case hy89 => (intro w hSw; refine T.qVal ?_ hSw; (have fF30 := F30.out w hSw; have fF31 := F31.out w hSw; have fF32 := F32.out w hSw; have fF33 := F33.out w hSw; have fF34 := F34.out w hSw; have fF35 := F35.out w hSw; have fF36 := F36.out w hSw); (try dsimp only [List.getElem_toArray, List.getElem_cons_succ, List.getElem_cons_zero]); go_simp; try with_reducible rfl)
      simp only [Act.put, List.setIfInBounds_toArray]; dsimp only [List.set_cons_zero, List.set_cons_succ]
      replace hCl := hCl'; clear hCl'
      refine T.qTake (i := 9) (d := (some 133)) (v := ?v90) rfl rfl (by as_aux_lemma => kernel_rfl) (by decide) hCl (by as_aux_lemma => kernel_rfl) (by as_aux_lemma => kernel_rfl) (by as_aux_lemma => kernel_rfl) (by rfl) ?hy90 (fun _ _ _ => trivial) (fun hCl' => ?_)
      case hy90 => (intro w hSw; refine T.qVal ?_ hSw; (have fF30 := F30.out w hSw; have fF31 := F31.out w hSw; have fF32 := F32.out w hSw; have fF33 := F33.out w hSw; have fF34 := F34.out w hSw; have fF35 := F35.out w hSw; have fF36 := F36.out w hSw); (try dsimp only [List.getElem_toArray, List.getElem_cons_succ, List.getElem_cons_zero]); go_simp; try with_reducible rfl)
      simp only [Act.put, List.setIfInBounds_toArray]; dsimp only [List.set_cons_zero, List.set_cons_succ]
      replace hCl := hCl'; clear hCl'
      refine T.qTake (i := 10) (d := (some 134)) (v := ?v91) rfl rfl (by as_aux_lemma => kernel_rfl) (by decide) hCl (by as_aux_lemma => kernel_rfl) (by as_aux_lemma => kernel_rfl) (by as_aux_lemma => kernel_rfl) (by rfl) ?hy91 (fun _ _ _ => trivial) (fun hCl' => ?_)
      case hy91 => (intro w hSw; refine T.qVal ?_ hSw; (have fF30 := F30.out w hSw; have fF31 := F31.out w hSw; have fF32 := F32.out w hSw; have fF33 := F33.out w hSw; have fF34 := F34.out w hSw; have fF35 := F35.out w hSw; have fF36 := F36.out w hSw); (try dsimp only [List.getElem_toArray, List.getElem_cons_succ, List.getElem_cons_zero]); go_simp; try with_reducible rfl)
      simp only [Act.put, List.setIfInBounds_toArray]; dsimp only [List.set_cons_zero, List.set_cons_succ]
      replace hCl := hCl'; clear hCl'
      refine T.qTake (i := 11) (d := (some 135)) (v := ?v92) rfl rfl (by as_aux_lemma => kernel_rfl) (by decide) hCl (by as_aux_lemma => kernel_rfl) (by as_aux_lemma => kernel_rfl) (by as_aux_lemma => kernel_rfl) (by rfl) ?hy92 (fun _ _ _ => trivial) (fun hCl' => ?_)
      case hy92 => (intro w hSw; refine T.qVal ?_ hSw; (have fF30 := F30.out w hSw; have fF31 := F31.out w hSw; have fF32 := F32.out w hSw; have fF33 := F33.out w hSw; have fF34 := F34.out w hSw; have fF35 := F35.out w hSw; have fF36 := F36.out w hSw); (try dsimp only [List.getElem_toArray, List.getElem_cons_succ, List.getElem_cons_zero]); go_simp; try with_reducible rfl)
      simp only [Act.put, List.setIfInBounds_toArray]; dsimp only [List.set_cons_zero, List.set_cons_succ]
      replace hCl := hCl'; clear hCl'
      refine T.qTake (i := 12) (d := (some 136)) (v := ?v93) rfl rfl (by as_aux_lemma => kernel_rfl) (by decide) hCl (by as_aux_lemma => kernel_rfl) (by as_aux_lemma => kernel_rfl) (by as_aux_lemma => kernel_rfl) (by rfl) ?hy93 (fun _ _ _ => trivial) (fun hCl' => ?_)
      case hy93 => (intro w hSw; refine T.qVal ?_ hSw; (have fF30 := F30.out w hSw; have fF31 := F31.out w hSw; have fF32 := F32.out w hSw; have fF33 := F33.out w hSw; have fF34 := F34.out w hSw; have fF35 := F35.out w hSw; have fF36 := F36.out w hSw); (try dsimp only [List.getElem_toArray, List.getElem_cons_succ, List.getElem_cons_zero]); go_simp; try with_reducible rfl)
      simp only [Act.put, List.setIfInBounds_toArray]; dsimp only [List.set_cons_zero, List.set_cons_succ]
      replace hCl := hCl'; clear hCl'
      refine T.qTake (i := 13) (d := (some 137)) (v := ?v94) rfl rfl (by as_aux_lemma => kernel_rfl) (by decide) hCl (by as_aux_lemma => kernel_rfl) (by as_aux_lemma => kernel_rfl) (by as_aux_lemma => kernel_rfl) (by rfl) ?hy94 (fun _ _ _ => trivial) (fun hCl' => ?_)
      case hy94 => (intro w hSw; refine T.qVal ?_ hSw; (have fF30 := F30.out w hSw; have fF31 := F31.out w hSw; have fF32 := F32.out w hSw; have fF33 := F33.out w hSw; have fF34 := F34.out w hSw; have fF35 := F35.out w hSw; have fF36 := F36.out w hSw); (try dsimp only [List.getElem_toArray, List.getElem_cons_succ, List.getElem_cons_zero]); go_simp; try with_reducible rfl)
      simp only [Act.put, List.setIfInBounds_toArray]; dsimp only [List.set_cons_zero, List.set_cons_succ]
      replace hCl := hCl'; clear hCl'
      refine T.qTake (i := 14) (d := (some 138)) (v := ?v95) rfl rfl (by as_aux_lemma => kernel_rfl) (by decide) hCl (by as_aux_lemma => kernel_rfl) (by as_aux_lemma => kernel_rfl) (by as_aux_lemma => kernel_rfl) (by rfl) ?hy95 (fun _ _ _ => trivial) (fun hCl' => ?_)
      case hy95 => (intro w hSw; refine T.qVal ?_ hSw; (have fF30 := F30.out w hSw; have fF31 := F31.out w hSw; have fF32 := F32.out w hSw; have fF33 := F33.out w hSw; have fF34 := F34.out w hSw; have fF35 := F35.out w hSw; have fF36 := F36.out w hSw); (try dsimp only [List.getElem_toArray, List.getElem_cons_succ, List.getElem_cons_zero]); go_simp; try with_reducible rfl)
      simp only [Act.put, List.setIfInBounds_toArray]; dsimp only [List.set_cons_zero, List.set_cons_succ]
      replace hCl := hCl'; clear hCl'
      refine T.qTake (i := 15) (d := (some 139)) (v := ?v96) rfl rfl (by as_aux_lemma => kernel_rfl) (by decide) hCl (by as_aux_lemma => kernel_rfl) (by as_aux_lemma => kernel_rfl) (by as_aux_lemma => kernel_rfl) (by rfl) ?hy96 (fun _ _ _ => trivial) (fun hCl' => ?_)
      case hy96 => (intro w hSw; refine T.qVal ?_ hSw; (have fF30 := F30.out w hSw; have fF31 := F31.out w hSw; have fF32 := F32.out w hSw; have fF33 := F33.out w hSw; have fF34 := F34.out w hSw; have fF35 := F35.out w hSw; have fF36 := F36.out w hSw); (try dsimp only [List.getElem_toArray, List.getElem_cons_succ, List.getElem_cons_zero]); go_simp; try with_reducible rfl)
      simp only [Act.put, List.setIfInBounds_toArray]; dsimp only [List.set_cons_zero, List.set_cons_succ]
      replace hCl := hCl'; clear hCl'
      refine T.qTake (i := 16) (d := (some 140)) (v := ?v97) rfl rfl (by as_aux_lemma => kernel_rfl) (by decide) hCl (by as_aux_lemma => kernel_rfl) (by as_aux_lemma => kernel_rfl) (by as_aux_lemma => kernel_rfl) (by rfl) ?hy97 (fun _ _ _ => trivial) (fun hCl' => ?_)
      case hy97 => (intro w hSw; refine T.qVal ?_ hSw; (have fF30 := F30.out w hSw; have fF31 := F31.out w hSw; have fF32 := F32.out w hSw; have fF33 := F33.out w hSw; have fF34 := F34.out w hSw; have fF35 := F35.out w hSw; have fF36 := F36.out w hSw); (try dsimp only [List.getElem_toArray, List.getElem_cons_succ, List.getElem_cons_zero]); go_simp; try with_reducible rfl)
      simp only [Act.put, List.setIfInBounds_toArray]; dsimp only [List.set_cons_zero, List.set_cons_succ]
      replace hCl := hCl'; clear hCl'
      refine T.qTake (i := 17) (d := (some 141)) (v := ?v98) rfl rfl (by as_aux_lemma => kernel_rfl) (by decide) hCl (by as_aux_lemma => kernel_rfl) (by as_aux_lemma => kernel_rfl) (by as_aux_lemma => kernel_rfl) (by rfl) ?hy98 (fun _ _ _ => trivial) (fun hCl' => ?_)
      case hy98 => (intro w hSw; refine T.qVal ?_ hSw; (have fF30 := F30.out w hSw; have fF31 := F31.out w hSw; have fF32 := F32.out w hSw; have fF33 := F33.out w hSw; have fF34 := F34.out w hSw; have fF35 := F35.out w hSw; have fF36 := F36.out w hSw); (try dsimp only [List.getElem_toArray, List.getElem_cons_succ, List.getElem_cons_zero]); go_simp; try with_reducible rfl)
      simp only [Act.put, List.setIfInBounds_toArray]; dsimp only [List.set_cons_zero, List.set_cons_succ]
      replace hCl := hCl'; clear hCl'
      refine T.qTake (i := 18) (d := (some 142)) (v := ?v99) rfl rfl (by as_aux_lemma => kernel_rfl) (by decide) hCl (by as_aux_lemma => kernel_rfl) (by as_aux_lemma => kernel_rfl) (by as_aux_lemma => kernel_rfl) (by rfl) ?hy99 (fun _ _ _ => trivial) (fun hCl' => ?_)
      case hy99 => (intro w hSw; refine T.qVal ?_ hSw; (have fF30 := F30.out w hSw; have fF31 := F31.out w hSw; have fF32 := F32.out w hSw; have fF33 := F33.out w hSw; have fF34 := F34.out w hSw; have fF35 := F35.out w hSw; have fF36 := F36.out w hSw); (try dsimp only [List.getElem_toArray, List.getElem_cons_succ, List.getElem_cons_zero]); go_simp; try with_reducible rfl)
      simp only [Act.put, List.setIfInBounds_toArray]; dsimp only [List.set_cons_zero, List.set_cons_succ]
      replace hCl := hCl'; clear hCl'
      refine T.qTake (i := 19) (d := (some 143)) (v := ?v100) rfl rfl (by as_aux_lemma => kernel_rfl) (by decide) hCl (by as_aux_lemma => kernel_rfl) (by as_aux_lemma => kernel_rfl) (by as_aux_lemma => kernel_rfl) (by rfl) ?hy100 (fun _ _ _ => trivial) (fun hCl' => ?_)
      case hy100 => (intro w hSw; refine T.qVal ?_ hSw; (have fF30 := F30.out w hSw; have fF31 := F31.out w hSw; have fF32 := F32.out w hSw; have fF33 := F33.out w hSw; have fF34 := F34.out w hSw; have fF35 := F35.out w hSw; have fF36 := F36.out w hSw); (try dsimp only [List.getElem_toArray, List.getElem_cons_succ, List.getElem_cons_zero]); go_simp; try with_reducible rfl)
      simp only [Act.put, List.setIfInBounds_toArray]; dsimp only [List.set_cons_zero, List.set_cons_succ]
      replace hCl := hCl'; clear hCl'
      refine T.qTake (i := 20) (d := (some 144)) (v := ?v101) rfl rfl (by as_aux_lemma => kernel_rfl) (by decide) hCl (by as_aux_lemma => kernel_rfl) (by as_aux_lemma => kernel_rfl) (by as_aux_lemma => kernel_rfl) (by rfl) ?hy101 (fun _ _ _ => trivial) (fun hCl' => ?_)
      case hy101 => (intro w hSw; refine T.qVal ?_ hSw; (have fF30 := F30.out w hSw; have fF31 := F31.out w hSw; have fF32 := F32.out w hSw; have fF33 := F33.out w hSw; have fF34 := F34.out w hSw; have fF35 := F35.out w hSw; have fF36 := F36.out w hSw); (try dsimp only [List.getElem_toArray, List.getElem_cons_succ, List.getElem_cons_zero]); go_simp; try with_reducible rfl)
      simp only [Act.put, List.setIfInBounds_toArray]; dsimp only [List.set_cons_zero, List.set_cons_succ]
      replace hCl := hCl'; clear hCl'
      refine T.qTake (i := 23) (d := (some 147)) (v := ?v102) rfl rfl (by as_aux_lemma => kernel_rfl) (by decide) hCl (by as_aux_lemma => kernel_rfl) (by as_aux_lemma => kernel_rfl) (by as_aux_lemma => kernel_rfl) (by rfl) ?hy102 (fun _ _ _ => trivial) (fun hCl' => ?_)
      case hy102 => (intro w hSw; refine T.qVal ?_ hSw; (have fF30 := F30.out w hSw; have fF31 := F31.out w hSw; have fF32 := F32.out w hSw; have fF33 := F33.out w hSw; have fF34 := F34.out w hSw; have fF35 := F35.out w hSw; have fF36 := F36.out w hSw); (try dsimp only [List.getElem_toArray, List.getElem_cons_succ, List.getElem_cons_zero]); go_simp; try with_reducible rfl)
      simp only [Act.put, List.setIfInBounds_toArray]; dsimp only [List.set_cons_zero, List.set_cons_succ]
      replace hCl := hCl'; clear hCl'
      refine T.qTake (i := 21) (d := (some 145)) (v := ?v103) rfl rfl (by as_aux_lemma => kernel_rfl) (by decide) hCl (by as_aux_lemma => kernel_rfl) (by as_aux_lemma => kernel_rfl) (by as_aux_lemma => kernel_rfl) (by rfl) ?hy103 (fun _ _ _ => trivial) (fun hCl' => ?_)
      case hy103 => (intro w hSw; refine T.qVal ?_ hSw; (have fF30 := F30.out w hSw; have fF31 := F31.out w hSw; have fF32 := F32.out w hSw; have fF33 := F33.out w hSw; have fF34 := F34.out w hSw; have fF35 := F35.out w hSw; have fF36 := F36.out w hSw); (try dsimp only [List.getElem_toArray, List.getElem_cons_succ, List.getElem_cons_zero]); go_simp; try with_reducible rfl)
      simp only [Act.put, List.setIfInBounds_toArray]; dsimp only [List.set_cons_zero, List.set_cons_succ]
      replace hCl := hCl'; clear hCl'
      refine T.qTake (i := 24) (d := (some 148)) (v := ?v104) rfl rfl (by as_aux_lemma => kernel_rfl) (by decide) hCl (by as_aux_lemma => kernel_rfl) (by as_aux_lemma => kernel_rfl) (by as_aux_lemma => kernel_rfl) (by rfl) ?hy104 (fun _ _ _ => trivial) (fun hCl' => ?_)
      case hy104 => (intro w hSw; refine T.qVal ?_ hSw; (have fF30 := F30.out w hSw; have fF31 := F31.out w hSw; have fF32 := F32.out w hSw; have fF33 := F33.out w hSw; have fF34 := F34.out w hSw; have fF35 := F35.out w hSw; have fF36 := F36.out w hSw); (try dsimp only [List.getElem_toArray, List.getElem_cons_succ, List.getElem_cons_zero]); go_simp; try with_reducible rfl)
      simp only [Act.put, List.setIfInBounds_toArray]; dsimp only [List.set_cons_zero, List.set_cons_succ]
      replace hCl := hCl'; clear hCl'
      refine T.qTake (i := 22) (d := (some 146)) (v := ?v105) rfl rfl (by as_aux_lemma => kernel_rfl) (by decide) hCl (by as_aux_lemma => kernel_rfl) (by as_aux_lemma => kernel_rfl) (by as_aux_lemma => kernel_rfl) (by rfl) ?hy105 (fun _ _ _ => trivial) (fun hCl' => ?_)
      case hy105 => (intro w hSw; refine T.qVal ?_ hSw; (have fF30 := F30.out w hSw; have fF31 := F31.out w hSw; have fF32 := F32.out w hSw; have fF33 := F33.out w hSw; have fF34 := F34.out w hSw; have fF35 := F35.out w hSw; have fF36 := F36.out w hSw); (try dsimp only [List.getElem_toArray, List.getElem_cons_succ, List.getElem_cons_zero]); go_simp; try with_reducible rfl)
      simp only [Act.put, List.setIfInBounds_toArray]; dsimp only [List.set_cons_zero, List.set_cons_succ]
      replace hCl := hCl'; clear hCl'
      refine T.qTake (i := 25) (d := (some 149)) (v := ?v106) rfl rfl (by as_aux_lemma => kernel_rfl) (by decide) hCl (by as_aux_lemma => kernel_rfl) (by as_aux_lemma => kernel_rfl) (by as_aux_lemma => kernel_rfl) (by rfl) ?hy106 (fun _ _ _ => trivial) (fun hCl' => ?_)
      case hy106 => (intro w hSw; refine T.qVal ?_ hSw; (have fF30 := F30.out w hSw; have fF31 := F31.out w hSw; have fF32 := F32.out w hSw; have fF33 := F33.out w hSw; have fF34 := F34.out w hSw; have fF35 := F35.out w hSw; have fF36 := F36.out w hSw); (try dsimp only [List.getElem_toArray, List.getElem_cons_succ, List.getElem_cons_zero]); go_simp; try with_reducible rfl)
      simp only [Act.put, List.setIfInBounds_toArray]; dsimp only [List.set_cons_zero, List.set_cons_succ]
      replace hCl := hCl'; clear hCl'
      refine T.qTake (i := 26) (d := (some 150)) (v := ((SpV (-ha) (-la)))) rfl rfl (by as_aux_lemma => kernel_rfl) (by decide) hCl (by as_aux_lemma => kernel_rfl) (by as_aux_lemma => kernel_rfl) (by as_aux_lemma => kernel_rfl) (by rfl) ?hy107 (fun _ _ _ => trivial) (fun hCl' => ?_)
      case hy107 => (intro w hSw; (have fF30 := F30.out w hSw; have fF31 := F31.out w hSw; have fF32 := F32.out w hSw; have fF33 := F33.out w hSw; have fF34 := F34.out w hSw; have fF35 := F35.out w hSw; have fF36 := F36.out w hSw); (try dsimp only [List.getElem_toArray, List.getElem_cons_succ, List.getElem_cons_zero]); go_simp; (refine (callsIn_wide.2 (HTo.out _ _ w)).mono ?_; rintro e w3 ⟨rfl, u3⟩; exact ⟨rfl, hSw.trans u3⟩))
      simp only [Act.put, List.setIfInBounds_toArray]; dsimp only [List.set_cons_zero, List.set_cons_succ]
      replace hCl := hCl'; clear hCl'
      refine T.qTake (i := 27) (d := (some 151)) (v := ?v108) rfl rfl (by as_aux_lemma => kernel_rfl) (by decide) hCl (by as_aux_lemma => kernel_rfl) (by as_aux_lemma => kernel_rfl) (by as_aux_lemma => kernel_rfl) (by rfl) ?hy108 (fun _ _ _ => trivial) (fun hCl' => ?_)
      case hy108 => (intro w hSw; refine T.qVal ?_ hSw; (have fF30 := F30.out w hSw; have fF31 := F31.out w hSw; have fF32 := F32.out w hSw; have fF33 := F33.out w hSw; have fF34 := F34.out w hSw; have fF35 := F35.out w hSw; have fF36 := F36.out w hSw); (try dsimp only [List.getElem_toArray, List.getElem_cons_succ, List.getElem_cons_zero]); go_simp; try with_reducible rfl)
      simp only [Act.put, List.setIfInBounds_toArray]; dsimp only [List.set_cons_zero, List.set_cons_succ]
      replace hCl := hCl'; clear hCl'
      refine T.qTake (i := 28) (d := (some 152)) (v := ?v109) rfl rfl (by as_aux_lemma => kernel_rfl) (by decide) hCl (by as_aux_lemma => kernel_rfl) (by as_aux_lemma => kernel_rfl) (by as_aux_lemma => kernel_rfl) (by rfl) ?hy109 (fun _ _ _ => trivial) (fun hCl' => ?_)
      case hy109 => (intro w hSw; refine T.qVal ?_ hSw; (have fF30 := F30.out w hSw; have fF31 := F31.out w hSw; have fF32 := F32.out w hSw; have fF33 := F33.out w hSw; have fF34 := F34.out w hSw; have fF35 := F35.out w hSw; have fF36 := F36.out w hSw); (try dsimp only [List.getElem_toArray, List.getElem_cons_succ, List.getElem_cons_zero]); go_simp; try with_reducible rfl)
      simp only [Act.put, List.setIfInBounds_toArray]; dsimp only [List.set_cons_zero, List.set_cons_succ]
      replace hCl := hCl'; clear hCl'
      refine T.qTake (i := 29) (d := (some 153)) (v := ?v110) rfl rfl (by as_aux_lemma => kernel_rfl) (by decide) hCl (by as_aux_lemma => kernel_rfl) (by as_aux_lemma => kernel_rfl) (by as_aux_lemma => kernel_rfl) (by rfl) ?hy110 (fun _ _ _ => trivial) (fun hCl' => ?_)
      case hy110 => (intro w hSw; refine T.qVal ?_ hSw; (have fF30 := F30.out w hSw; have fF31 := F31.out w hSw; have fF32 := F32.out w hSw; have fF33 := F33.out w hSw; have fF34 := F34.out w hSw; have fF35 := F35.out w hSw; have fF36 := F36.out w hSw); (try dsimp only [List.getElem_toArray, List.getElem_cons_succ, List.getElem_cons_zero]); go_simp; try with_reducible rfl)
      simp only [Act.put, List.setIfInBounds_toArray]; dsimp only [List.set_cons_zero, List.set_cons_succ]
      replace hCl := hCl'; clear hCl'
      refine T.qTake (i := 30) (d := (some 154)) (v := ?v111) rfl rfl (by as_aux_lemma => kernel_rfl) (by decide) hCl (by as_aux_lemma => kernel_rfl) (by as_aux_lemma => kernel_rfl) (by as_aux_lemma => kernel_rfl) (by rfl) ?hy111 (fun _ _ _ => trivial) (fun hCl' => ?_)
      case hy111 => (intro w hSw; refine T.qVal ?_ hSw; (have fF30 := F30.out w hSw; have fF31 := F31.out w hSw; have fF32 := F32.out w hSw; have fF33 := F33.out w hSw; have fF34 := F34.out w hSw; have fF35 := F35.out w hSw; have fF36 := F36.out w hSw); (try dsimp only [List.getElem_toArray, List.getElem_cons_succ, List.getElem_cons_zero]); go_simp; try with_reducible rfl)
      simp only [Act.put, List.setIfInBounds_toArray]; dsimp only [List.set_cons_zero, List.set_cons_succ]
      replace hCl := hCl'; clear hCl'
      refine T.qTake (i := 31) (d := (some 155)) (v := ?v112) rfl rfl (by as_aux_lemma => kernel_rfl) (by decide) hCl (by as_aux_lemma => kernel_rfl) (by as_aux_lemma => kernel_rfl) (by as_aux_lemma => kernel_rfl) (by rfl) ?hy112 (fun _ _ _ => trivial) (fun hCl' => ?_)
      case hy112 => (intro w hSw; refine T.qVal ?_ hSw; (have fF30 := F30.out w hSw; have fF31 := F31.out w hSw; have fF32 := F32.out w hSw; have fF33 := F33.out w hSw; have fF34 := F34.out w hSw; have fF35 := F35.out w hSw; have fF36 := F36.out w hSw); (try dsimp only [List.getElem_toArray, List.getElem_cons_succ, List.getElem_cons_zero]); go_simp; try with_reducible rfl)
      simp only [Act.put, List.setIfInBounds_toArray]; dsimp only [List.set_cons_zero, List.set_cons_succ]
      replace hCl := hCl'; clear hCl'
      refine T.qTake (i := 33) (d := (some 157)) (v := ?v113) rfl rfl (by as_aux_lemma => kernel_rfl) (by decide) hCl (by as_aux_lemma => kernel_rfl) (by as_aux_lemma => kernel_rfl) (by as_aux_lemma => kernel_rfl) (by rfl) ?hy113 (fun _ _ _ => trivial) (fun hCl' => ?_)
      case hy113 => (intro w hSw; refine T.qVal ?_ hSw; (have fF30 := F30.out w hSw; have fF31 := F31.out w hSw; have fF32 := F32.out w hSw; have fF33 := F33.out w hSw; have fF34 := F34.out w hSw; have fF35 := F35.out w hSw; have fF36 := F36.out w hSw); (try dsimp only [List.getElem_toArray, List.getElem_cons_succ, List.getElem_cons_zero]); go_simp; try with_reducible rfl)
      simp only [Act.put, List.setIfInBounds_toArray]; dsimp only [List.set_cons_zero, List.set_cons_succ]
      replace hCl := hCl'; clear hCl'
      refine T.qTake (i := 36) (d := (some 160)) (v := ?v114) rfl rfl (by as_aux_lemma => kernel_rfl) (by decide) hCl (by as_aux_lemma => kernel_rfl) (by as_aux_lemma => kernel_rfl) (by as_aux_lemma => kernel_rfl) (by rfl) ?hy114 (fun _ _ _ => trivial) (fun hCl' => ?_)
      case hy114 => (intro w hSw; refine T.qVal ?_ hSw; (have fF30 := F30.out w hSw; have fF31 := F31.out w hSw; have fF32 := F32.out w hSw; have fF33 := F33.out w hSw; have fF34 := F34.out w hSw; have fF35 := F35.out w hSw; have fF36 := F36.out w hSw); (try dsimp only [List.getElem_toArray, List.getElem_cons_succ, List.getElem_cons_zero]); go_simp; try with_reducible rfl)
      simp only [Act.put, List.setIfInBounds_toArray]; dsimp only [List.set_cons_zero, List.set_cons_succ]
      replace hCl := hCl'; clear hCl'
      refine T.qTake (i := 38) (d := (some 162)) (v := ?v115) rfl rfl (by as_aux_lemma => kernel_rfl) (by decide) hCl (by as_aux_lemma => kernel_rfl) (by as_aux_lemma => kernel_rfl) (by as_aux_lemma => kernel_rfl) (by rfl) ?hy115 (fun _ _ _ => trivial) (fun hCl' => ?_)
      case hy115 => (intro w hSw; refine T.qVal ?_ hSw; (have fF30 := F30.out w hSw; have fF31 := F31.out w hSw; have fF32 := F32.out w hSw; have fF33 := F33.out w hSw; have fF34 := F34.out w hSw; have fF35 := F35.out w hSw; have fF36 := F36.out w hSw); (try dsimp only [List.getElem_toArray, List.getElem_cons_succ, List.getElem_cons_zero]); go_simp; try with_reducible rfl)
      simp only [Act.put, List.setIfInBounds_toArray]; dsimp only [List.set_cons_zero, List.set_cons_succ]
      replace hCl := hCl'; clear hCl'
      refine T.qTake (i := 32) (d := (some 156)) (v := ?v116) rfl rfl (by as_aux_lemma => kernel_rfl) (by decide) hCl (by as_aux_lemma => kernel_rfl) (by as_aux_lemma => kernel_rfl) (by as_aux_lemma => kernel_rfl) (by rfl) ?hy116 (fun _ _ _ => trivial) (fun hCl' => ?_)
      case hy116 => (intro w hSw; refine T.qVal ?_ hSw; (have fF30 := F30.out w hSw; have fF31 := F31.out w hSw; have fF32 := F32.out w hSw; have fF33 := F33.out w hSw; have fF34 := F34.out w hSw; have fF35 := F35.out w hSw; have fF36 := F36.out w hSw); (try dsimp only [List.getElem_toArray, List.getElem_cons_succ, List.getElem_cons_zero]); go_simp; try with_reducible rfl)
      simp only [Act.put, List.setIfInBounds_toArray]; dsimp only [List.set_cons_zero, List.set_cons_succ]
      replace hCl := hCl'; clear hCl'
      refine T.qTake (i := 34) (d := (some 158)) (v := ?v117) rfl rfl (by as_aux_lemma => kernel_rfl) (by decide) hCl (by as_aux_lemma => kernel_rfl) (by as_aux_lemma => kernel_rfl) (by as_aux_lemma => kernel_rfl) (by rfl) ?hy117 (fun _ _ _ => trivial) (fun hCl' => ?_)
      case hy117 => (intro w hSw; refine T.qVal ?_ hSw; (have fF30 := F30.out w hSw; have fF31 := F31.out w hSw; have fF32 := F32.out w hSw; have fF33 := F33.out w hSw; have fF34 := F34.out w hSw; have fF35 := F35.out w hSw; have fF36 := F36.out w hSw); (try dsimp only [List.getElem_toArray, List.getElem_cons_succ, List.getElem_cons_zero]); go_simp; try with_reducible rfl)
      simp only [Act.put, List.setIfInBounds_toArray]; dsimp only [List.set_cons_zero, List.set_cons_succ]
      replace hCl := hCl'; clear hCl'
      refine T.qTake (i := 37) (d := (some 161)) (v := ?v118) rfl rfl (by as_aux_lemma => kernel_rfl) (by decide) hCl (by as_aux_lemma => kernel_rfl) (by as_aux_lemma => kernel_rfl) (by as_aux_lemma => kernel_rfl) (by rfl) ?hy118 (fun _ _ _ => trivial) (fun hCl' => ?_)
      case hy118 => (intro w hSw; refine T.qVal ?_ hSw; (have fF30 := F30.out w hSw; have fF31 := F31.out w hSw; have fF32 := F32.out w hSw; have fF33 := F33.out w hSw; have fF34 := F34.out w hSw; have fF35 := F35.out w hSw; have fF36 := F36.out w hSw); (try dsimp only [List.getElem_toArray, List.getElem_cons_succ, List.getElem_cons_zero]); go_simp; try with_reducible rfl)
      simp only [Act.put, List.setIfInBounds_toArray]; dsimp only [List.set_cons_zero, List.set_cons_succ]
      replace hCl := hCl'; clear hCl'
      refine T.qTake (i := 39) (d := (some 163)) (v := ?v119) rfl rfl (by as_aux_lemma => kernel_rfl) (by decide) hCl (by as_aux_lemma => kernel_rfl) (by as_aux_lemma => kernel_rfl) (by as_aux_lemma => kernel_rfl) (by rfl) ?hy119 (fun _ _ _ => trivial) (fun hCl' => ?_)
      case hy119 => (intro w hSw; refine T.qVal ?_ hSw; (have fF30 := F30.out w hSw; have fF31 := F31.out w hSw; have fF32 := F32.out w hSw; have fF33 := F33.out w hSw; have fF34 := F34.out w hSw; have fF35 := F35.out w hSw; have fF36 := F36.out w hSw); (try dsimp only [List.getElem_toArray, List.getElem_cons_succ, List.getElem_cons_zero]); go_simp; try with_reducible rfl)
      simp only [Act.put, List.setIfInBounds_toArray]; dsimp only [List.set_cons_zero, List.set_cons_succ]
      replace hCl := hCl'; clear hCl'
      refine T.qTake (i := 35) (d := (some 159)) (v := ?v120) rfl rfl (by as_aux_lemma => kernel_rfl) (by decide) hCl (by as_aux_lemma => kernel_rfl) (by as_aux_lemma => kernel_rfl) (by as_aux_lemma => kernel_rfl) (by rfl) ?hy120 (fun _ _ _ => trivial) (fun hCl' => ?_)
      case hy120 => (intro w hSw; refine T.qVal ?_ hSw; (have fF30 := F30.out w hSw; have fF31 := F31.out w hSw; have fF32 := F32.out w hSw; have fF33 := F33.out w hSw; have fF34 := F34.out w hSw; have fF35 := F35.out w hSw; have fF36 := F36.out w hSw); (try dsimp only [List.getElem_toArray, List.getElem_cons_succ, List.getElem_cons_zero]); go_simp; try with_reducible rfl)
      simp only [Act.put, List.setIfInBounds_toArray]; dsimp only [List.set_cons_zero, List.set_cons_succ]
      replace hCl := hCl'; clear hCl'
      refine T.qTake (i := 40) (d := (some 164)) (v := ?v121) rfl rfl (by as_aux_lemma => kernel_rfl) (by decide) hCl (by as_aux_lemma => kernel_rfl) (by as_aux_lemma => kernel_rfl) (by as_aux_lemma => kernel_rfl) (by rfl) ?hy121 (fun _ _ _ => trivial) (fun hCl' => ?_)
      case hy121 => (intro w hSw; refine T.qVal ?_ hSw; (have fF30 := F30.out w hSw; have fF31 := F31.out w hSw; have fF32 := F32.out w hSw; have fF33 := F33.out w hSw; have fF34 := F34.out w hSw; have fF35 := F35.out w hSw; have fF36 := F36.out w hSw); (try dsimp only [List.getElem_toArray, List.getElem_cons_succ, List.getElem_cons_zero]); go_simp; try with_reducible rfl)
      simp only [Act.put, List.setIfInBounds_toArray]; dsimp only [List.set_cons_zero, List.set_cons_succ]
      replace hCl := hCl'; clear hCl'
      refine T.qTake (i := 41) (d := (some 165)) (v := ((SpV (ls - ht) (hs - lt)))) rfl rfl (by as_aux_lemma => kernel_rfl) (by decide) hCl (by as_aux_lemma => kernel_rfl) (by as_aux_lemma => kernel_rfl) (by as_aux_lemma => kernel_rfl) (by rfl) ?hy122 (fun _ _ _ => trivial) (fun hCl' => ?_)
      case hy122 => (intro w hSw; (have fF30 := F30.out w hSw; have fF31 := F31.out w hSw; have fF32 := F32.out w hSw; have fF33 := F33.out w hSw; have fF34 := F34.out w hSw; have fF35 := F35.out w hSw; have fF36 := F36.out w hSw); (try dsimp only [List.getElem_toArray, List.getElem_cons_succ, List.getElem_cons_zero]); go_simp; (refine (callsIn_wide.2 (HTo.out _ _ w)).mono ?_; rintro e w3 ⟨rfl, u3⟩; exact ⟨rfl, hSw.trans u3⟩))
      simp only [Act.put, List.setIfInBounds_toArray]; dsimp only [List.set_cons_zero, List.set_cons_succ]
      replace hCl := hCl'; clear hCl'
      refine T.qTake (i := 42) (d := (some 166)) (v := ((.bool true))) rfl rfl (by as_aux_lemma => kernel_rfl) (by decide) hCl (by as_aux_lemma => kernel_rfl) (by as_aux_lemma => kernel_rfl) (by as_aux_lemma => kernel_rfl) (by rfl) ?hy123 (fun _ _ _ => trivial) (fun hCl' => ?_)
      case hy123 => (intro w hSw; (have fF30 := F30.out w hSw; have fF31 := F31.out w hSw; have fF32 := F32.out w hSw; have fF33 := F33.out w hSw; have fF34 := F34.out w hSw; have fF35 := F35.out w hSw; have fF36 := F36.out w hSw); (try dsimp only [List.getElem_toArray, List.getElem_cons_succ, List.getElem_cons_zero]); go_simp; (refine (callsIn_wide.2 (HWi.out _ _ _ _ w HF.out.1)).mono ?_; rintro e w3 ⟨rfl, u3⟩; exact ⟨rfl, hSw.trans u3⟩))
      simp only [Act.put, List.setIfInBounds_toArray]; dsimp only [List.set_cons_zero, List.set_cons_succ]
      replace hCl := hCl'; clear hCl'
      refine T.qTake (i := 43) (d := (some 167)) (v := ?v124) rfl rfl (by as_aux_lemma => kernel_rfl) (by decide) hCl (by as_aux_lemma => kernel_rfl) (by as_aux_lemma => kernel_rfl) (by as_aux_lemma => kernel_rfl) (by rfl) ?hy124 (fun _ _ _ => trivial) (fun hCl' => ?_)
      case hy124 => (intro w hSw; refine T.qVal ?_ hSw; (have fF30 := F30.out w hSw; have fF31 := F31.out w hSw; have fF32 := F32.out w hSw; have fF33 := F33.out w hSw; have fF34 := F34.out w hSw; have fF35 := F35.out w hSw; have fF36 := F36.out w hSw); (try dsimp only [List.getElem_toArray, List.getElem_cons_succ, List.getElem_cons_zero]); go_simp; try with_reducible rfl)
      simp only [Act.put, List.setIfInBounds_toArray]; dsimp only [List.set_cons_zero, List.set_cons_succ]
      replace hCl := hCl'; clear hCl'
      refine T.qTake (i := 44) (d := (some 168)) (v := ?v125) rfl rfl (by as_aux_lemma => kernel_rfl) (by decide) hCl (by as_aux_lemma => kernel_rfl) (by as_aux_lemma => kernel_rfl) (by as_aux_lemma => kernel_rfl) (by rfl) ?hy125 (fun _ _ _ => trivial) (fun hCl' => ?_)
      case hy125 => (intro w hSw; refine T.qVal ?_ hSw; (have fF30 := F30.out w hSw; have fF31 := F31.out w hSw; have fF32 := F32.out w hSw; have fF33 := F33.out w hSw; have fF34 := F34.out w hSw; have fF35 := F35.out w hSw; have fF36 := F36.out w hSw); (try dsimp only [List.getElem_toArray, List.getElem_cons_succ, List.getElem_cons_zero]); go_simp; try with_reducible rfl)
      simp only [Act.put, List.setIfInBounds_toArray]; dsimp only [List.set_cons_zero, List.set_cons_succ]
      replace hCl := hCl'; clear hCl'
      refine T.qTake (i := 45) (d := (some 169)) (v := ?v126) rfl rfl (by as_aux_lemma => kernel_rfl) (by decide) hCl (by as_aux_lemma => kernel_rfl) (by as_aux_lemma => kernel_rfl) (by as_aux_lemma => kernel_rfl) (by rfl) ?hy126 (fun _ _ _ => trivial) (fun hCl' => ?_)
      case hy126 => (intro w hSw; refine T.qVal ?_ hSw; (have fF30 := F30.out w hSw; have fF31 := F31.out w hSw; have fF32 := F32.out w hSw; have fF33 := F33.out w hSw; have fF34 := F34.out w hSw; have fF35 := F35.out w hSw; have fF36 := F36.out w hSw); (try dsimp only [List.getElem_toArray, List.getElem_cons_succ, List.getElem_cons_zero]); go_simp; try with_reducible rfl)
      simp only [Act.put, List.setIfInBounds_toArray]; dsimp only [List.set_cons_zero, List.set_cons_succ]
      replace hCl := hCl'; clear hCl'
      refine T.qTake (i := 46) (d := (some 170)) (v := ?v127) rfl rfl (by as_aux_lemma => kernel_rfl) (by decide) hCl (by as_aux_lemma => kernel_rfl) (by as_aux_lemma => kernel_rfl) (by as_aux_lemma => kernel_rfl) (by rfl) ?hy127 (fun _ _ _ => trivial) (fun hCl' => ?_)
      case hy127 => (intro w hSw; refine T.qVal ?_ hSw; (have fF30 := F30.out w hSw; have fF31 := F31.out w hSw; have fF32 := F32.out w hSw; have fF33 := F33.out w hSw; have fF34 := F34.out w hSw; have fF35 := F35.out w hSw; have fF36 := F36.out w hSw); (try dsimp only [List.getElem_toArray, List.getElem_cons_succ, List.getElem_cons_zero]); go_simp; try with_reducible rfl)
      simp only [Act.put, List.setIfInBounds_toArray]; dsimp only [List.set_cons_zero, List.set_cons_succ]
      replace hCl := hCl'; clear hCl'
      refine T.qTake (i := 47) (d := (some 171)) (v := ?v128) rfl rfl (by as_aux_lemma => kernel_rfl) (by decide) hCl (by as_aux_lemma => kernel_rfl) (by as_aux_lemma => kernel_rfl) (by as_aux_lemma => kernel_rfl) (by rfl) ?hy128 (fun _ _ _ => trivial) (fun hCl' => ?_)
      case hy128 => (intro w hSw; refine T.qVal ?_ hSw; (have fF30 := F30.out w hSw; have fF31 := F31.out w hSw; have fF32 := F32.out w hSw; have fF33 := F33.out w hSw; have fF34 := F34.out w hSw; have fF35 := F35.out w hSw; have fF36 := F36.out w hSw); (try dsimp only [List.getElem_toArray, List.getElem_cons_succ, List.getElem_cons_zero]); go_simp; try with_reducible rfl)
      simp only [Act.put, List.setIfInBounds_toArray]; dsimp only [List.set_cons_zero, List.set_cons_succ]
      replace hCl := hCl'; clear hCl'
      refine T.qTake (i := 49) (d := (some 173)) (v := ?v129) rfl rfl (by as_aux_lemma => kernel_rfl) (by decide) hCl (by as_aux_lemma => kernel_rfl) (by as_aux_lemma => kernel_rfl) (by as_aux_lemma => kernel_rfl) (by rfl) ?hy129 (fun _ _ _ => trivial) (fun hCl' => ?_)
      case hy129 => (intro w hSw; refine T.qVal ?_ hSw; (have fF30 := F30.out w hSw; have fF31 := F31.out w hSw; have fF32 := F32.out w hSw; have fF33 := F33.out w hSw; have fF34 := F34.out w hSw; have fF35 := F35.out w hSw; have fF36 := F36.out w hSw); (try dsimp only [List.getElem_toArray, List.getElem_cons_succ, List.getElem_cons_zero]); go_simp; try with_reducible rfl)
      simp only [Act.put, List.setIfInBounds_toArray]; dsimp only [List.set_cons_zero, List.set_cons_succ]
      replace hCl := hCl'; clear hCl'
      refine T.qTake (i := 52) (d := (some 176)) (v := ?v130) rfl rfl (by as_aux_lemma => kernel_rfl) (by decide) hCl (by as_aux_lemma => kernel_rfl) (by as_aux_lemma => kernel_rfl) (by as_aux_lemma => kernel_rfl) (by rfl) ?hy130 (fun _ _ _ => trivial) (fun hCl' => ?_)
      case hy130 => (intro w hSw; refine T.qVal ?_ hSw; (have fF30 := F30.out w hSw; have fF31 := F31.out w hSw; have fF32 := F32.out w hSw; have fF33 := F33.out w hSw; have fF34 := F34.out w hSw; have fF35 := F35.out w hSw; have fF36 := F36.out w hSw); (try dsimp only [List.getElem_toArray, List.getElem_cons_succ, List.getElem_cons_zero]); go_simp; try with_reducible rfl)
      simp only [Act.put, List.setIfInBounds_toArray]; dsimp only [List.set_cons_zero, List.set_cons_succ]
      replace hCl := hCl'; clear hCl'
      refine T.qTake (i := 54) (d := (some 178)) (v := ?v131) rfl rfl (by as_aux_lemma => kernel_rfl) (by decide) hCl (by as_aux_lemma => kernel_rfl) (by as_aux_lemma => kernel_rfl) (by as_aux_lemma => kernel_rfl) (by rfl) ?hy131 (fun _ _ _ => trivial) (fun hCl' => ?_)
      case hy131 => (intro w hSw; refine T.qVal ?_ hSw; (have fF30 := F30.out w hSw; have fF31 := F31.out w hSw; have fF32 := F32.out w hSw; have fF33 := F33.out w hSw; have fF34 := F34.out w hSw; have fF35 := F35.out w hSw; have fF36 := F36.out w hSw); (try dsimp only [List.getElem_toArray, List.getElem_cons_succ, List.getElem_cons_zero]); go_simp; try with_reducible rfl)
      simp only [Act.put, List.setIfInBounds_toArray]; dsimp only [List.set_cons_zero, List.set_cons_succ]
      replace hCl := hCl'; clear hCl'
      refine T.qTake (i := 48) (d := (some 172)) (v := ?v132) rfl rfl (by as_aux_lemma => kernel_rfl) (by decide) hCl (by as_aux_lemma => kernel_rfl) (by as_aux_lemma => kernel_rfl) (by as_aux_lemma => kernel_rfl) (by rfl) ?hy132 (fun _ _ _ => trivial) (fun hCl' => ?_)
      case hy132 => (intro w hSw; refine T.qVal ?_ hSw; (have fF30 := F30.out w hSw; have fF31 := F31.out w hSw; have fF32 := F32.out w hSw; have fF33 := F33.out w hSw; have fF34 := F34.out w hSw; have fF35 := F35.out w hSw; have fF36 := F36.out w hSw); (try dsimp only [List.getElem_toArray, List.getElem_cons_succ, List.getElem_cons_zero]); go_simp; try with_reducible rfl)
      simp only [Act.put, List.setIfInBounds_toArray]; dsimp only [List.set_cons_zero, List.set_cons_succ]
      replace hCl := hCl'; clear hCl'
      refine T.qTake (i := 50) (d := (some 174)) (v := ?v133) rfl rfl (by as_aux_lemma => kernel_rfl) (by decide) hCl (by as_aux_lemma => kernel_rfl) (by as_aux_lemma => kernel_rfl) (by as_aux_lemma => kernel_rfl) (by rfl) ?hy133 (fun _ _ _ => trivial) (fun hCl' => ?_)
      case hy133 => (intro w hSw; refine T.qVal ?_ hSw; (have fF30 := F30.out w hSw; have fF31 := F31.out w hSw; have fF32 := F32.out w hSw; have fF33 := F33.out w hSw; have fF34 := F34.out w hSw; have fF35 := F35.out w hSw; have fF36 := F36.out w hSw); (try dsimp only [List.getElem_toArray, List.getElem_cons_succ, List.getElem_cons_zero]); go_simp; try with_reducible rfl)
      simp only [Act.put, List.setIfInBounds_toArray]; dsimp only [List.set_cons_zero, List.set_cons_succ]
      replace hCl := hCl'; clear hCl'
      refine T.qTake (i := 53) (d := (some 177)) (v := ?v134) rfl rfl (by as_aux_lemma => kernel_rfl) (by decide) hCl (by as_aux_lemma => kernel_rfl) (by as_aux_lemma => kernel_rfl) (by as_aux_lemma => kernel_rfl) (by rfl) ?hy134 (fun _ _ _ => trivial) (fun hCl' => ?_)
      case hy134 => (intro w hSw; refine T.qVal ?_ hSw; (have fF30 := F30.out w hSw; have fF31 := F31.out w hSw; have fF32 := F32.out w hSw; have fF33 := F33.out w hSw; have fF34 := F34.out w hSw; have fF35 := F35.out w hSw; have fF36 := F36.out w hSw); (try dsimp only [List.getElem_toArray, List.getElem_cons_succ, List.getElem_cons_zero]); go_simp; try with_reducible rfl)
      simp only [Act.put, List.setIfInBounds_toArray]; dsimp only [List.set_cons_zero, List.set_cons_succ]
      replace hCl := hCl'; clear hCl'
      refine T.qTake (i := 55) (d := (some 179)) (v := ?v135) rfl rfl (by as_aux_lemma => kernel_rfl) (by decide) hCl (by as_aux_lemma => kernel_rfl) (by as_aux_lemma => kernel_rfl) (by as_aux_lemma => kernel_rfl) (by rfl) ?hy135 (fun _ _ _ => trivial) (fun hCl' => ?_)
      case hy135 => (intro w hSw; refine T.qVal ?_ hSw; (have fF30 := F30.out w hSw; have fF31 := F31.out w hSw; have fF32 := F32.out w hSw; have fF33 := F33.out w hSw; have fF34 := F34.out w hSw; have fF35 := F35.out w hSw; have fF36 := F36.out w hSw); (try dsimp only [List.getElem_toArray, List.getElem_cons_succ, List.getElem_cons_zero]); go_simp; try with_reducible rfl)
      simp only [Act.put, List.setIfInBounds_toArray]; dsimp only [List.set_cons_zero, List.set_cons_succ]
      replace hCl := hCl'; clear hCl'
      refine T.qTake (i := 51) (d := (some 175)) (v := ?v136) rfl rfl (by as_aux_lemma => kernel_rfl) (by decide) hCl (by as_aux_lemma => kernel_rfl) (by as_aux_lemma => kernel_rfl) (by as_aux_lemma => kernel_rfl) (by rfl) ?hy136 (fun _ _ _ => trivial) (fun hCl' => ?_)
      case hy136 => (intro w hSw; refine T.qVal ?_ hSw; (have fF30 := F30.out w hSw; have fF31 := F31.out w hSw; have fF32 := F32.out w hSw; have fF33 := F33.out w hSw; have fF34 := F34.out w hSw; have fF35 := F35.out w hSw; have fF36 := F36.out w hSw); (try dsimp only [List.getElem_toArray, List.getElem_cons_succ, List.getElem_cons_zero]); go_simp; try with_reducible rfl)
      simp only [Act.put, List.setIfInBounds_toArray]; dsimp only [List.set_cons_zero, List.set_cons_succ]
      replace hCl := hCl'; clear hCl'
      refine T.qTake (i := 56) (d := (some 180)) (v := ?v137) rfl rfl (by as_aux_lemma => kernel_rfl) (by decide) hCl (by as_aux_lemma => kernel_rfl) (by as_aux_lemma => kernel_rfl) (by as_aux_lemma => kernel_rfl) (by rfl) ?hy137 (fun _ _ _ => trivial) (fun hCl' => ?_)
      case hy137 => (intro w hSw; refine T.qVal ?_ hSw; (have fF30 := F30.out w hSw; have fF31 := F31.out w hSw; have fF32 := F32.out w hSw; have fF33 := F33.out w hSw; have fF34 := F34.out w hSw; have fF35 := F35.out w hSw; have fF36 := F36.out w hSw); (try dsimp only [List.getElem_toArray, List.getElem_cons_succ, List.getElem_cons_zero]); go_simp; try with_reducible rfl)
      simp only [Act.put, List.setIfInBounds_toArray]; dsimp only [List.set_cons_zero, List.set_cons_succ]
      replace hCl := hCl'; clear hCl'
      refine T.qTake (i := 57) (d := (some 181)) (v := ((SpV (lc + ld) (hc + hd)))) rfl rfl (by as_aux_lemma => kernel_rfl) (by decide) hCl (by as_aux_lemma => kernel_rfl) (by as_aux_lemma => kernel_rfl) (by as_aux_lemma => kernel_rfl) (by rfl) ?hy138 (fun _ _ _ => trivial) (fun hCl' => ?_)
      case hy138 => (intro w hSw; (have fF30 := F30.out w hSw; have fF31 := F31.out w hSw; have fF32 := F32.out w hSw; have fF33 := F33.out w hSw; have fF34 := F34.out w hSw; have fF35 := F35.out w hSw; have fF36 := F36.out w hSw); (try dsimp only [List.getElem_toArray, List.getElem_cons_succ, List.getElem_cons_zero]); go_simp; (refine (callsIn_wide.2 (HTo.out _ _ w)).mono ?_; rintro e w3 ⟨rfl, u3⟩; exact ⟨rfl, hSw.trans u3⟩))
      simp only [Act.put, List.setIfInBounds_toArray]; dsimp only [List.set_cons_zero, List.set_cons_succ]
      replace hCl := hCl'; clear hCl'
      refine T.qTake (i := 58) (d := (some 182)) (v := ((.bool true))) rfl rfl (by as_aux_lemma => kernel_rfl) (by decide) hCl (by as_aux_lemma => kernel_rfl) (by as_aux_lemma => kernel_rfl) (by as_aux_lemma => kernel_rfl) (by rfl) ?hy139 (fun _ _ _ => trivial) (fun hCl' => ?_)
      case hy139 => (intro w hSw; (have fF30 := F30.out w hSw; have fF31 := F31.out w hSw; have fF32 := F32.out w hSw; have fF33 := F33.out w hSw; have fF34 := F34.out w hSw; have fF35 := F35.out w hSw; have fF36 := F36.out w hSw); (try dsimp only [List.getElem_toArray, List.getElem_cons_succ, List.getElem_cons_zero]); go_simp; (refine (callsIn_wide.2 (HWi.out _ _ _ _ w HF.out.2.1)).mono ?_; rintro e w3 ⟨rfl, u3⟩; exact ⟨rfl, hSw.trans u3⟩))
      simp only [Act.put, List.setIfInBounds_toArray]; dsimp only [List.set_cons_zero, List.set_cons_succ]
      replace hCl := hCl'; clear hCl'
      refine T.qTake (i := 59) (d := (some 183)) (v := ?v140) rfl rfl (by as_aux_lemma => kernel_rfl) (by decide) hCl (by as_aux_lemma => kernel_rfl) (by as_aux_lemma => kernel_rfl) (by as_aux_lemma => kernel_rfl) (by rfl) ?hy140 (fun _ _ _ => trivial) (fun hCl' => ?_)
      case hy140 => (intro w hSw; refine T.qVal ?_ hSw; (have fF30 := F30.out w hSw; have fF31 := F31.out w hSw; have fF32 := F32.out w hSw; have fF33 := F33.out w hSw; have fF34 := F34.out w hSw; have fF35 := F35.out w hSw; have fF36 := F36.out w hSw); (try dsimp only [List.getElem_toArray, List.getElem_cons_succ, List.getElem_cons_zero]); go_simp; try with_reducible rfl)
      simp only [Act.put, List.setIfInBounds_toArray]; dsimp only [List.set_cons_zero, List.set_cons_succ]
      replace hCl := hCl'; clear hCl'
      refine T.qTake (i := 60) (d := (some 184)) (v := ?v141) rfl rfl (by as_aux_lemma => kernel_rfl) (by decide) hCl (by as_aux_lemma => kernel_rfl) (by as_aux_lemma => kernel_rfl) (by as_aux_lemma => kernel_rfl) (by rfl) ?hy141 (fun _ _ _ => trivial) (fun hCl' => ?_)
      case hy141 => (intro w hSw; refine T.qVal ?_ hSw; (have fF30 := F30.out w hSw; have fF31 := F31.out w hSw; have fF32 := F32.out w hSw; have fF33 := F33.out w hSw; have fF34 := F34.out w hSw; have fF35 := F35.out w hSw; have fF36 := F36.out w hSw); (try dsimp only [List.getElem_toArray, List.getElem_cons_succ, List.getElem_cons_zero]); go_simp; try with_reducible rfl)
      simp only [Act.put, List.setIfInBounds_toArray]; dsimp only [List.set_cons_zero, List.set_cons_succ]
      replace hCl := hCl'; clear hCl'
      refine T.qTake (i := 61) (d := (some 185)) (v := ?v142) rfl rfl (by as_aux_lemma => kernel_rfl) (by decide) hCl (by as_aux_lemma => kernel_rfl) (by as_aux_lemma => kernel_rfl) (by as_aux_lemma => kernel_rfl) (by rfl) ?hy142 (fun _ _ _ => trivial) (fun hCl' => ?_)
      case hy142 => (intro w hSw; refine T.qVal ?_ hSw; (have fF30 := F30.out w hSw; have fF31 := F31.out w hSw; have fF32 := F32.out w hSw; have fF33 := F33.out w hSw; have fF34 := F34.out w hSw; have fF35 := F35.out w hSw; have fF36 := F36.out w hSw); (try dsimp only [List.getElem_toArray, List.getElem_cons_succ, List.getElem_cons_zero]); go_simp; try with_reducible rfl)
      simp only [Act.put, List.setIfInBounds_toArray]; dsimp only [List.set_cons_zero, List.set_cons_succ]
      replace hCl := hCl'; clear hCl'
      refine T.qTake (i := 62) (d := (some 186)) (v := ?v143) rfl rfl (by as_aux_lemma => kernel_rfl) (by decide) hCl (by as_aux_lemma => kernel_rfl) (by as_aux_lemma => kernel_rfl) (by as_aux_lemma => kernel_rfl) (by rfl) ?hy143 (fun _ _ _ => trivial) (fun hCl' => ?_)
      case hy143 => (intro w hSw; refine T.qVal ?_ hSw; (have fF30 := F30.out w hSw; have fF31 := F31.out w hSw; have fF32 := F32.out w hSw; have fF33 := F33.out w hSw; have fF34 := F34.out w hSw; have fF35 := F35.out w hSw; have fF36 := F36.out w hSw); (try dsimp only [List.getElem_toArray, List.getElem_cons_succ, List.getElem_cons_zero]); go_simp; try with_reducible rfl)
      simp only [Act.put, List.setIfInBounds_toArray]; dsimp only [List.set_cons_zero, List.set_cons_succ]
      replace hCl := hCl'; clear hCl'
      refine T.qTake (i := 63) (d := (some 187)) (v := ?v144) rfl rfl (by as_aux_lemma => kernel_rfl) (by decide) hCl (by as_aux_lemma => kernel_rfl) (by as_aux_lemma => kernel_rfl) (by as_aux_lemma => kernel_rfl) (by rfl) ?hy144 (fun _ _ _ => trivial) (fun hCl' => ?_)
      case hy144 => (intro w hSw; refine T.qVal ?_ hSw; (have fF30 := F30.out w hSw; have fF31 := F31.out w hSw; have fF32 := F32.out w hSw; have fF33 := F33.out w hSw; have fF34 := F34.out w hSw; have fF35 := F35.out w hSw; have fF36 := F36.out w hSw); (try dsimp only [List.getElem_toArray, List.getElem_cons_succ, List.getElem_cons_zero]); go_simp; try with_reducible rfl)
      simp only [Act.put, List.setIfInBounds_toArray]; dsimp only [List.set_cons_zero, List.set_cons_succ]
      replace hCl := hCl'; clear hCl'
      refine T.qTake (i := 64) (d := (some 188)) (v := ((.bool eik))) rfl rfl (by as_aux_lemma => kernel_rfl) (by decide) hCl (by as_aux_lemma => kernel_rfl) (by as_aux_lemma => kernel_rfl) (by as_aux_lemma => kernel_rfl) (by rfl) ?hy145 (fun _ _ _ => trivial) (fun hCl' => ?_)
      case hy145 => (intro w hSw; (have fF30 := F30.out w hSw; have fF31 := F31.out w hSw; have fF32 := F32.out w hSw; have fF33 := F33.out w hSw; have fF34 := F34.out w hSw; have fF35 := F35.out w hSw; have fF36 := F36.out w hSw); (try dsimp only [List.getElem_toArray, List.getElem_cons_succ, List.getElem_cons_zero]); refine T.qVal ?_ hSw; rw [← hik]; go_simp; try rfl)
      simp only [Act.put, List.setIfInBounds_toArray]; dsimp only [List.set_cons_zero, List.set_cons_succ]
      replace hCl := hCl'; clear hCl'
      refine T.qTake (i := 65) (d := (some 189)) (v := ?v146) rfl rfl (by as_aux_lemma => kernel_rfl) (by decide) hCl (by as_aux_lemma => kernel_rfl) (by as_aux_lemma => kernel_rfl) (by as_aux_lemma => kernel_rfl) (by rfl) ?hy146 (fun _ _ _ => trivial) (fun hCl' => ?_)
      case hy146 => (intro w hSw; refine T.qVal ?_ hSw; (have fF30 := F30.out w hSw; have fF31 := F31.out w hSw; have fF32 := F32.out w hSw; have fF33 := F33.out w hSw; have fF34 := F34.out w hSw; have fF35 := F35.out w hSw; have fF36 := F36.out w hSw); (try dsimp only [List.getElem_toArray, List.getElem_cons_succ, List.getElem_cons_zero]); go_simp; try with_reducible rfl)
      simp only [Act.put, List.setIfInBounds_toArray]; dsimp only [List.set_cons_zero, List.set_cons_succ]
      replace hCl := hCl'; clear hCl'
      refine T.qMay (eik) (i := 66) (d := (some 190)) (v := ((SpV la ha))) rfl rfl (by as_aux_lemma => kernel_rfl) (by decide) hCl (by as_aux_lemma => kernel_rfl) (by as_aux_lemma => kernel_rfl) (by as_aux_lemma => kernel_rfl) (by first | rfl | (generalize (eik) = bb; cases bb <;> rfl)) ?hy147 (fun _ _ _ => trivial) (fun u190 hu190 hCl' => ?_)
      case hy147 => (intro hb w hSw; (have fF30 := F30.out w hSw; have fF31 := F31.out w hSw; have fF32 := F32.out w hSw; have fF33 := F33.out w hSw; have fF34 := F34.out w hSw; have fF35 := F35.out w hSw; have fF36 := F36.out w hSw); (try dsimp only [List.getElem_toArray, List.getElem_cons_succ, List.getElem_cons_zero]); refine T.qVal ?_ hSw; go_simp)
      simp only [Act.put, List.setIfInBounds_toArray]; dsimp only [List.set_cons_zero, List.set_cons_succ]
      replace hCl := hCl'; clear hCl'
      refine T.qMay (eik) (i := 67) (d := (some 191)) (v := ((SpV 0 0))) rfl rfl (by as_aux_lemma => kernel_rfl) (by decide) hCl (by as_aux_lemma => kernel_rfl) (by as_aux_lemma => kernel_rfl) (by as_aux_lemma => kernel_rfl) (by first | rfl | (generalize (eik) = bb; cases bb <;> rfl)) ?hy148 (fun _ _ _ => trivial) (fun u191 hu191 hCl' => ?_)
      case hy148 => (intro hb w hSw; (have fF30 := F30.out w hSw; have fF31 := F31.out w hSw; have fF32 := F32.out w hSw; have fF33 := F33.out w hSw; have fF34 := F34.out w hSw; have fF35 := F35.out w hSw; have fF36 := F36.out w hSw); (try dsimp only [List.getElem_toArray, List.getElem_cons_succ, List.getElem_cons_zero]); go_simp; refine (callsIn_wide.2 (HTo.out 0 0 w)).mono ?_; rintro e w3 ⟨rfl, u3⟩; exact ⟨rfl, hSw.trans u3⟩)
      simp only [Act.put, List.setIfInBounds_toArray]; dsimp only [List.set_cons_zero, List.set_cons_succ]
      replace hCl := hCl'; clear hCl'
      refine T.qMay (eik) (i := 68) (d := (some 192)) (v := ((.bool false))) rfl rfl (by as_aux_lemma => kernel_rfl) (by decide) hCl (by as_aux_lemma => kernel_rfl) (by as_aux_lemma => kernel_rfl) (by as_aux_lemma => kernel_rfl) (by first | rfl | (generalize (eik) = bb; cases bb <;> rfl)) ?hy149 (fun _ _ _ => trivial) (fun u192 hu192 hCl' => ?_)
      case hy149 => (intro hb w hSw; (have fF30 := F30.out w hSw; have fF31 := F31.out w hSw; have fF32 := F32.out w hSw; have fF33 := F33.out w hSw; have fF34 := F34.out w hSw; have fF35 := F35.out w hSw; have fF36 := F36.out w hSw); (try dsimp only [List.getElem_toArray, List.getElem_cons_succ, List.getElem_cons_zero]); refine T.qVal ?_ hSw; obtain ⟨rfl, rfl⟩ := hbk hb; rw [hu190 hb, hu191 hb]; go_simp)
      simp only [Act.put, List.setIfInBounds_toArray]; dsimp only [List.set_cons_zero, List.set_cons_succ]
      replace hCl := hCl'; clear hCl'
      refine T.qTake (i := 69) (d := (some 193)) (v := ((.bool false))) rfl rfl (by as_aux_lemma => kernel_rfl) (by decide) hCl (by as_aux_lemma => kernel_rfl) (by as_aux_lemma => kernel_rfl) (by as_aux_lemma => kernel_rfl) (by rfl) ?hy150 (fun _ _ _ => trivial) (fun hCl' => ?_)
      case hy150 => (intro w hSw; (have fF30 := F30.out w hSw; have fF31 := F31.out w hSw; have fF32 := F32.out w hSw; have fF33 := F33.out w hSw; have fF34 := F34.out w hSw; have fF35 := F35.out w hSw; have fF36 := F36.out w hSw); (try dsimp only [List.getElem_toArray, List.getElem_cons_succ, List.getElem_cons_zero]); refine T.qVal ?_ hSw; by_cases hb : eik = true; (rw [hu192 hb, hb]; go_simp); (rw [Bool.not_eq_true] at hb; rw [hb]; go_simp))
      simp only [Act.put, List.setIfInBounds_toArray]; dsimp only [List.set_cons_zero, List.set_cons_succ]
      replace hCl := hCl'; clear hCl'
      refine T.tail_intro (by as_aux_lemma => kernel_rfl) (fun Y29 hY29 => ?_)
      replace U := U.trans hY29
      replace kC := hY29.blk kC
      replace ks := hY29.blk ks
      replace kt := hY29.blk kt
      replace ka := hY29.blk ka
      replace kb := hY29.blk kb
      replace kc := hY29.blk kc
      replace kd := hY29.blk kd
      clear F30 F31 F32 F33 F34 F35 F36 hY29
      refine lastG (i := 70) (by as_aux_lemma => kernel_rfl) rfl (by rfl) (by decide) (fun K hK => ?_)
      go_simp
      refine hK.out _ _ ?_
      clear hK K
      refine doneG (by as_aux_lemma => kernel_rfl) ?_ _
      refine S.nrm_intro ?_
      clear z0 z1 z2 z3 z4 z5 hik hbk hu190 hu191 hu192
      go_wp2_with fail
      refine (Cp.out _ U).mono ?_
      rintro e x37 ⟨rfl, u38⟩
      replace U := U.trans u38
      replace kC := u38.blk kC
      replace ks := u38.blk ks
      replace kt := u38.blk kt
      replace ka := u38.blk ka
      replace kb := u38.blk kb
      replace kc := u38.blk kc
      replace kd := u38.blk kd
      clear u38 
      have zf := frozB ka
      have i0 := ka
      have U1 := ((U.set (p := ⟨pka, 0, none⟩) (show w.heap.size ≤ pka by omega) (.int .i64 lp)).set (p := ⟨pka, 1, none⟩) (show w.heap.size ≤ pka by omega) (.int .i64 hp))
      have jkC := kC
      rw [← blk_set (x37) ⟨pka, 0, none⟩ (.int .i64 lp) q0 (by show q0 ≠ pka; omega), ← blk_set ((x37).setCell ⟨pka, 0, none⟩ (.int .i64 lp)) ⟨pka, 1, none⟩ (.int .i64 hp) q0 (by show q0 ≠ pka; omega)] at jkC
      have jks := ks
      rw [← blk_set (x37) ⟨pka, 0, none⟩ (.int .i64 lp) pks (by show pks ≠ pka; omega), ← blk_set ((x37).setCell ⟨pka, 0, none⟩ (.int .i64 lp)) ⟨pka, 1, none⟩ (.int .i64 hp) pks (by show pks ≠ pka; omega)] at jks
      have jkt := kt
      rw [← blk_set (x37) ⟨pka, 0, none⟩ (.int .i64 lp) pkt (by show pkt ≠ pka; omega), ← blk_set ((x37).setCell ⟨pka, 0, none⟩ (.int .i64 lp)) ⟨pka, 1, none⟩ (.int .i64 hp) pkt (by show pkt ≠ pka; omega)] at jkt
      have jkb := kb
      rw [← blk_set (x37) ⟨pka, 0, none⟩ (.int .i64 lp) pkb (by show pkb ≠ pka; omega), ← blk_set ((x37).setCell ⟨pka, 0, none⟩ (.int .i64 lp)) ⟨pka, 1, none⟩ (.int .i64 hp) pkb (by show pkb ≠ pka; omega)] at jkb
      have jkc := kc
      rw [← blk_set (x37) ⟨pka, 0, none⟩ (.int .i64 lp) pkc (by show pkc ≠ pka; omega), ← blk_set ((x37).setCell ⟨pka, 0, none⟩ (.int .i64 lp)) ⟨pka, 1, none⟩ (.int .i64 hp) pkc (by show pkc ≠ pka; omega)] at jkc
      have jkd := kd
      rw [← blk_set (x37) ⟨pka, 0, none⟩ (.int .i64 lp) pkd (by show pkd ≠ pka; omega), ← blk_set ((x37).setCell ⟨pka, 0, none⟩ (.int .i64 lp)) ⟨pka, 1, none⟩ (.int .i64 hp) pkd (by show pkd ≠ pka; omega)] at jkd
      have jka : mblk (((x37).setCell ⟨pka, 0, none⟩ (.int .i64 lp)).setCell ⟨pka, 1, none⟩ (.int .i64 hp)) pka = some (.cells #[.int .i64 lp, .int .i64 hp] 34 (0, 0)) := (blk_put (blk_put ka 0 (.int .i64 lp)) 1 (.int .i64 hp))
      obtain ⟨W39, hW39⟩ : ∃ z, ((x37).setCell ⟨pka, 0, none⟩ (.int .i64 lp)).setCell ⟨pka, 1, none⟩ (.int .i64 hp) = z := ⟨_, rfl⟩
      rw [hW39] at jkC jks jkt jkb jkc jkd jka U1
      clear kC ks kt ka kb kc kd U
      have kC := jkC
      have ks := jks
      have kt := jkt
      have ka := jka
      have kb := jkb
      have kc := jkc
      have kd := jkd
      have U := U1
      clear jkC jks jkt jkb jkc jkd jka U1
      go_wp2_with fail
      clear hW39 zf i0
      refine (Cq.out _ U).mono ?_
      rintro e x40 ⟨rfl, u41⟩
      replace U := U.trans u41
      replace kC := u41.blk kC
      replace ks := u41.blk ks
      replace kt := u41.blk kt
      replace ka := u41.blk ka
      replace kb := u41.blk kb
      replace kc := u41.blk kc
      replace kd := u41.blk kd
      clear u41 
      have zf := frozB kb
      have i0 := kb
      have U1 := ((U.set (p := ⟨pkb, 0, none⟩) (show w.heap.size ≤ pkb by omega) (.int .i64 (-hp))).set (p := ⟨pkb, 1, none⟩) (show w.heap.size ≤ pkb by omega) (.int .i64 (-lp)))
      have jkC := kC
      rw [← blk_set (x40) ⟨pkb, 0, none⟩ (.int .i64 (-hp)) q0 (by show q0 ≠ pkb; omega), ← blk_set ((x40).setCell ⟨pkb, 0, none⟩ (.int .i64 (-hp))) ⟨pkb, 1, none⟩ (.int .i64 (-lp)) q0 (by show q0 ≠ pkb; omega)] at jkC
      have jks := ks
      rw [← blk_set (x40) ⟨pkb, 0, none⟩ (.int .i64 (-hp)) pks (by show pks ≠ pkb; omega), ← blk_set ((x40).setCell ⟨pkb, 0, none⟩ (.int .i64 (-hp))) ⟨pkb, 1, none⟩ (.int .i64 (-lp)) pks (by show pks ≠ pkb; omega)] at jks
      have jkt := kt
      rw [← blk_set (x40) ⟨pkb, 0, none⟩ (.int .i64 (-hp)) pkt (by show pkt ≠ pkb; omega), ← blk_set ((x40).setCell ⟨pkb, 0, none⟩ (.int .i64 (-hp))) ⟨pkb, 1, none⟩ (.int .i64 (-lp)) pkt (by show pkt ≠ pkb; omega)] at jkt
      have jka := ka
      rw [← blk_set (x40) ⟨pkb, 0, none⟩ (.int .i64 (-hp)) pka (by show pka ≠ pkb; omega), ← blk_set ((x40).setCell ⟨pkb, 0, none⟩ (.int .i64 (-hp))) ⟨pkb, 1, none⟩ (.int .i64 (-lp)) pka (by show pka ≠ pkb; omega)] at jka
      have jkc := kc
      rw [← blk_set (x40) ⟨pkb, 0, none⟩ (.int .i64 (-hp)) pkc (by show pkc ≠ pkb; omega), ← blk_set ((x40).setCell ⟨pkb, 0, none⟩ (.int .i64 (-hp))) ⟨pkb, 1, none⟩ (.int .i64 (-lp)) pkc (by show pkc ≠ pkb; omega)] at jkc
      have jkd := kd
      rw [← blk_set (x40) ⟨pkb, 0, none⟩ (.int .i64 (-hp)) pkd (by show pkd ≠ pkb; omega), ← blk_set ((x40).setCell ⟨pkb, 0, none⟩ (.int .i64 (-hp))) ⟨pkb, 1, none⟩ (.int .i64 (-lp)) pkd (by show pkd ≠ pkb; omega)] at jkd
      have jkb : mblk (((x40).setCell ⟨pkb, 0, none⟩ (.int .i64 (-hp))).setCell ⟨pkb, 1, none⟩ (.int .i64 (-lp))) pkb = some (.cells #[.int .i64 (-hp), .int .i64 (-lp)] 34 (0, 0)) := (blk_put (blk_put kb 0 (.int .i64 (-hp))) 1 (.int .i64 (-lp)))
      obtain ⟨W42, hW42⟩ : ∃ z, ((x40).setCell ⟨pkb, 0, none⟩ (.int .i64 (-hp))).setCell ⟨pkb, 1, none⟩ (.int .i64 (-lp)) = z := ⟨_, rfl⟩
      rw [hW42] at jkC jks jkt jka jkc jkd jkb U1
      clear kC ks kt ka kb kc kd U
      have kC := jkC
      have ks := jks
      have kt := jkt
      have ka := jka
      have kb := jkb
      have kc := jkc
      have kd := jkd
      have U := U1
      clear jkC jks jkt jka jkc jkd jkb U1
      go_wp2_with fail
      clear hW42 zf i0
      refine (Cr.out _ U).mono ?_
      rintro e x43 ⟨rfl, u44⟩
      replace U := U.trans u44
      replace kC := u44.blk kC
      replace ks := u44.blk ks
      replace kt := u44.blk kt
      replace ka := u44.blk ka
      replace kb := u44.blk kb
      replace kc := u44.blk kc
      replace kd := u44.blk kd
      clear u44 
      have zf := frozB kc
      have i0 := kc
      have U1 := ((U.set (p := ⟨pkc, 0, none⟩) (show w.heap.size ≤ pkc by omega) (.int .i64 lr)).set (p := ⟨pkc, 1, none⟩) (show w.heap.size ≤ pkc by omega) (.int .i64 hr))
      have jkC := kC
      rw [← blk_set (x43) ⟨pkc, 0, none⟩ (.int .i64 lr) q0 (by show q0 ≠ pkc; omega), ← blk_set ((x43).setCell ⟨pkc, 0, none⟩ (.int .i64 lr)) ⟨pkc, 1, none⟩ (.int .i64 hr) q0 (by show q0 ≠ pkc; omega)] at jkC
      have jks := ks
      rw [← blk_set (x43) ⟨pkc, 0, none⟩ (.int .i64 lr) pks (by show pks ≠ pkc; omega), ← blk_set ((x43).setCell ⟨pkc, 0, none⟩ (.int .i64 lr)) ⟨pkc, 1, none⟩ (.int .i64 hr) pks (by show pks ≠ pkc; omega)] at jks
      have jkt := kt
      rw [← blk_set (x43) ⟨pkc, 0, none⟩ (.int .i64 lr) pkt (by show pkt ≠ pkc; omega), ← blk_set ((x43).setCell ⟨pkc, 0, none⟩ (.int .i64 lr)) ⟨pkc, 1, none⟩ (.int .i64 hr) pkt (by show pkt ≠ pkc; omega)] at jkt
      have jka := ka
      rw [← blk_set (x43) ⟨pkc, 0, none⟩ (.int .i64 lr) pka (by show pka ≠ pkc; omega), ← blk_set ((x43).setCell ⟨pkc, 0, none⟩ (.int .i64 lr)) ⟨pkc, 1, none⟩ (.int .i64 hr) pka (by show pka ≠ pkc; omega)] at jka
      have jkb := kb
      rw [← blk_set (x43) ⟨pkc, 0, none⟩ (.int .i64 lr) pkb (by show pkb ≠ pkc; omega), ← blk_set ((x43).setCell ⟨pkc, 0, none⟩ (.int .i64 lr)) ⟨pkc, 1, none⟩ (.int .i64 hr) pkb (by show pkb ≠ pkc; omega)] at jkb
      have jkd := kd
      rw [← blk_set (x43) ⟨pkc, 0, none⟩ (.int .i64 lr) pkd (by show pkd ≠ pkc; omega), ← blk_set ((x43).setCell ⟨pkc, 0, none⟩ (.int .i64 lr)) ⟨pkc, 1, none⟩ (.int .i64 hr) pkd (by show pkd ≠ pkc; omega)] at jkd
      have jkc : mblk (((x43).setCell ⟨pkc, 0, none⟩ (.int .i64 lr)).setCell ⟨pkc, 1, none⟩ (.int .i64 hr)) pkc = some (.cells #[.int .i64 lr, .int .i64 hr] 34 (0, 0)) := (blk_put (blk_put kc 0 (.int .i64 lr)) 1 (.int .i64 hr))
      obtain ⟨W45, hW45⟩ : ∃ z, ((x43).setCell ⟨pkc, 0, none⟩ (.int .i64 lr)).setCell ⟨pkc, 1, none⟩ (.int .i64 hr) = z := ⟨_, rfl⟩
      rw [hW45] at jkC jks jkt jka jkb jkd jkc U1
      clear kC ks kt ka kb kc kd U
      have kC := jkC
      have ks := jks
      have kt := jkt
      have ka := jka
      have kb := jkb
      have kc := jkc
      have kd := jkd
      have U := U1
      clear jkC jks jkt jka jkb jkd jkc U1
      go_wp2_with fail
      clear hW45 zf i0
      refine (Co.out _ U).mono ?_
      rintro e x46 ⟨rfl, u47⟩
      replace U := U.trans u47
      replace kC := u47.blk kC
      replace ks := u47.blk ks
      replace kt := u47.blk kt
      replace ka := u47.blk ka
      replace kb := u47.blk kb
      replace kc := u47.blk kc
      replace kd := u47.blk kd
      clear u47 
      have zf := frozB kd
      have i0 := kd
      have U1 := ((U.set (p := ⟨pkd, 0, none⟩) (show w.heap.size ≤ pkd by omega) (.int .i64 lo)).set (p := ⟨pkd, 1, none⟩) (show w.heap.size ≤ pkd by omega) (.int .i64 ho))
      have jkC := kC
      rw [← blk_set (x46) ⟨pkd, 0, none⟩ (.int .i64 lo) q0 (by show q0 ≠ pkd; omega), ← blk_set ((x46).setCell ⟨pkd, 0, none⟩ (.int .i64 lo)) ⟨pkd, 1, none⟩ (.int .i64 ho) q0 (by show q0 ≠ pkd; omega)] at jkC
      have jks := ks
      rw [← blk_set (x46) ⟨pkd, 0, none⟩ (.int .i64 lo) pks (by show pks ≠ pkd; omega), ← blk_set ((x46).setCell ⟨pkd, 0, none⟩ (.int .i64 lo)) ⟨pkd, 1, none⟩ (.int .i64 ho) pks (by show pks ≠ pkd; omega)] at jks
      have jkt := kt
      rw [← blk_set (x46) ⟨pkd, 0, none⟩ (.int .i64 lo) pkt (by show pkt ≠ pkd; omega), ← blk_set ((x46).setCell ⟨pkd, 0, none⟩ (.int .i64 lo)) ⟨pkd, 1, none⟩ (.int .i64 ho) pkt (by show pkt ≠ pkd; omega)] at jkt
      have jka := ka
      rw [← blk_set (x46) ⟨pkd, 0, none⟩ (.int .i64 lo) pka (by show pka ≠ pkd; omega), ← blk_set ((x46).setCell ⟨pkd, 0, none⟩ (.int .i64 lo)) ⟨pkd, 1, none⟩ (.int .i64 ho) pka (by show pka ≠ pkd; omega)] at jka
      have jkb := kb
      rw [← blk_set (x46) ⟨pkd, 0, none⟩ (.int .i64 lo) pkb (by show pkb ≠ pkd; omega), ← blk_set ((x46).setCell ⟨pkd, 0, none⟩ (.int .i64 lo)) ⟨pkd, 1, none⟩ (.int .i64 ho) pkb (by show pkb ≠ pkd; omega)] at jkb
      have jkc := kc
      rw [← blk_set (x46) ⟨pkd, 0, none⟩ (.int .i64 lo) pkc (by show pkc ≠ pkd; omega), ← blk_set ((x46).setCell ⟨pkd, 0, none⟩ (.int .i64 lo)) ⟨pkd, 1, none⟩ (.int .i64 ho) pkc (by show pkc ≠ pkd; omega)] at jkc
      have jkd : mblk (((x46).setCell ⟨pkd, 0, none⟩ (.int .i64 lo)).setCell ⟨pkd, 1, none⟩ (.int .i64 ho)) pkd = some (.cells #[.int .i64 lo, .int .i64 ho] 34 (0, 0)) := (blk_put (blk_put kd 0 (.int .i64 lo)) 1 (.int .i64 ho))
      obtain ⟨W48, hW48⟩ : ∃ z, ((x46).setCell ⟨pkd, 0, none⟩ (.int .i64 lo)).setCell ⟨pkd, 1, none⟩ (.int .i64 ho) = z := ⟨_, rfl⟩
      rw [hW48] at jkC jks jkt jka jkb jkc jkd U1
      clear kC ks kt ka kb kc kd U
      have kC := jkC
      have ks := jks
      have kt := jkt
      have ka := jka
      have kb := jkb
      have kc := jkc
      have kd := jkd
      have U := U1
      clear jkC jks jkt jka jkb jkc jkd U1
      go_wp2_with fail
      clear hW48 zf i0
      refine (Cu.out _ U).mono ?_
      rintro e x49 ⟨rfl, u50⟩
      replace U := U.trans u50
      replace kC := u50.blk kC
      replace ks := u50.blk ks
      replace kt := u50.blk kt
      replace ka := u50.blk ka
      replace kb := u50.blk kb
      replace kc := u50.blk kc
      replace kd := u50.blk kd
      clear u50 
      have dkCku := blk_lt kC
      have dksku := blk_lt ks
      have dktku := blk_lt kt
      have dkaku := blk_lt ka
      have dkbku := blk_lt kb
      have dkcku := blk_lt kc
      have dkdku := blk_lt kd
      have gku := U.size
      have ku := blk_new x49 (.cells #[.int .i64 lu, .int .i64 hu] 34) _ rfl
      replace kC := blk_keep (.cells #[.int .i64 lu, .int .i64 hu] 34) kC
      replace ks := blk_keep (.cells #[.int .i64 lu, .int .i64 hu] 34) ks
      replace kt := blk_keep (.cells #[.int .i64 lu, .int .i64 hu] 34) kt
      replace ka := blk_keep (.cells #[.int .i64 lu, .int .i64 hu] 34) ka
      replace kb := blk_keep (.cells #[.int .i64 lu, .int .i64 hu] 34) kb
      replace kc := blk_keep (.cells #[.int .i64 lu, .int .i64 hu] 34) kc
      replace kd := blk_keep (.cells #[.int .i64 lu, .int .i64 hu] 34) kd
      replace U := U.alloc (.cells #[.int .i64 lu, .int .i64 hu] 34)
      obtain ⟨pku, hpku⟩ : ∃ z, x49.heap.size = z := ⟨_, rfl⟩
      obtain ⟨W51, hW51⟩ : ∃ z, x49.alloc (.cells #[.int .i64 lu, .int .i64 hu] 34) = z := ⟨_, rfl⟩
      rw [hpku] at ku dkCku dksku dktku dkaku dkbku dkcku dkdku gku
      rw [hW51] at ku U kC ks kt ka kb kc kd
      go_wp2_with fail
      clear hpku hW51
      have F53 := Lib.hid (fun w (u : Up W51 w) => cellB (u.blk kC))
      have F54 := Lib.hid (fun w (u : Up W51 w) => cellB (u.blk ks))
      have F55 := Lib.hid (fun w (u : Up W51 w) => cellB (u.blk kt))
      have F56 := Lib.hid (fun w (u : Up W51 w) => cellB (u.blk ka))
      have F57 := Lib.hid (fun w (u : Up W51 w) => cellB (u.blk kb))
      have F58 := Lib.hid (fun w (u : Up W51 w) => cellB (u.blk kc))
      have F59 := Lib.hid (fun w (u : Up W51 w) => cellB (u.blk kd))
      have F60 := Lib.hid (fun w (u : Up W51 w) => cellB (u.blk ku))
      refine (wpIn_wide (n := 5)).1 ?_
      refine wpIn_nrm ?_
      refine T.regionQ (fun w' => Up W51 w') 72 1 hmx (by as_aux_lemma => kernel_rfl) (by as_aux_lemma => kernel_rfl) ((Up.refl W51).drew) (fun hCl => ?_)
      refine T.qTake (i := 0) (d := (some 234)) (v := ?v151) rfl rfl (by as_aux_lemma => kernel_rfl) (by decide) hCl (by as_aux_lemma => kernel_rfl) (by as_aux_lemma => kernel_rfl) (by as_aux_lemma => kernel_rfl) (by rfl) ?hy151 (fun _ _ _ => trivial) (fun hCl' => ?_)
      case hy151 => (intro w hSw; refine T.qVal ?_ hSw; (have fF53 := F53.out w hSw; have fF54 := F54.out w hSw; have fF55 := F55.out w hSw; have fF56 := F56.out w hSw; have fF57 := F57.out w hSw; have fF58 := F58.out w hSw; have fF59 := F59.out w hSw; have fF60 := F60.out w hSw); (try dsimp only [List.getElem_toArray, List.getElem_cons_succ, List.getElem_cons_zero]); go_simp; try with_reducible rfl)
      simp only [Act.put, List.setIfInBounds_toArray]; dsimp only [List.set_cons_zero, List.set_cons_succ]
      replace hCl := hCl'; clear hCl'
      refine T.qTake (i := 1) (d := (some 235)) (v := ?v152) rfl rfl (by as_aux_lemma => kernel_rfl) (by decide) hCl (by as_aux_lemma => kernel_rfl) (by as_aux_lemma => kernel_rfl) (by as_aux_lemma => kernel_rfl) (by rfl) ?hy152 (fun _ _ _ => trivial) (fun hCl' => ?_)
      case hy152 => (intro w hSw; refine T.qVal ?_ hSw; (have fF53 := F53.out w hSw; have fF54 := F54.out w hSw; have fF55 := F55.out w hSw; have fF56 := F56.out w hSw; have fF57 := F57.out w hSw; have fF58 := F58.out w hSw; have fF59 := F59.out w hSw; have fF60 := F60.out w hSw); (try dsimp only [List.getElem_toArray, List.getElem_cons_succ, List.getElem_cons_zero]); go_simp; try with_reducible rfl)
      simp only [Act.put, List.setIfInBounds_toArray]; dsimp only [List.set_cons_zero, List.set_cons_succ]
      replace hCl := hCl'; clear hCl'
      refine T.qTake (i := 2) (d := (some 236)) (v := ?v153) rfl rfl (by as_aux_lemma => kernel_rfl) (by decide) hCl (by as_aux_lemma => kernel_rfl) (by as_aux_lemma => kernel_rfl) (by as_aux_lemma => kernel_rfl) (by rfl) ?hy153 (fun _ _ _ => trivial) (fun hCl' => ?_)
      case hy153 => (intro w hSw; refine T.qVal ?_ hSw; (have fF53 := F53.out w hSw; have fF54 := F54.out w hSw; have fF55 := F55.out w hSw; have fF56 := F56.out w hSw; have fF57 := F57.out w hSw; have fF58 := F58.out w hSw; have fF59 := F59.out w hSw; have fF60 := F60.out w hSw); (try dsimp only [List.getElem_toArray, List.getElem_cons_succ, List.getElem_cons_zero]); go_simp; try with_reducible rfl)
      simp only [Act.put, List.setIfInBounds_toArray]; dsimp only [List.set_cons_zero, List.set_cons_succ]
      replace hCl := hCl'; clear hCl'
      refine T.qTake (i := 3) (d := (some 237)) (v := ?v154) rfl rfl (by as_aux_lemma => kernel_rfl) (by decide) hCl (by as_aux_lemma => kernel_rfl) (by as_aux_lemma => kernel_rfl) (by as_aux_lemma => kernel_rfl) (by rfl) ?hy154 (fun _ _ _ => trivial) (fun hCl' => ?_)
      case hy154 => (intro w hSw; refine T.qVal ?_ hSw; (have fF53 := F53.out w hSw; have fF54 := F54.out w hSw; have fF55 := F55.out w hSw; have fF56 := F56.out w hSw; have fF57 := F57.out w hSw; have fF58 := F58.out w hSw; have fF59 := F59.out w hSw; have fF60 := F60.out w hSw); (try dsimp only [List.getElem_toArray, List.getElem_cons_succ, List.getElem_cons_zero]); go_simp; try with_reducible rfl)
      simp only [Act.put, List.setIfInBounds_toArray]; dsimp only [List.set_cons_zero, List.set_cons_succ]
      replace hCl := hCl'; clear hCl'
      refine T.qTake (i := 4) (d := (some 238)) (v := ?v155) rfl rfl (by as_aux_lemma => kernel_rfl) (by decide) hCl (by as_aux_lemma => kernel_rfl) (by as_aux_lemma => kernel_rfl) (by as_aux_lemma => kernel_rfl) (by rfl) ?hy155 (fun _ _ _ => trivial) (fun hCl' => ?_)
      case hy155 => (intro w hSw; refine T.qVal ?_ hSw; (have fF53 := F53.out w hSw; have fF54 := F54.out w hSw; have fF55 := F55.out w hSw; have fF56 := F56.out w hSw; have fF57 := F57.out w hSw; have fF58 := F58.out w hSw; have fF59 := F59.out w hSw; have fF60 := F60.out w hSw); (try dsimp only [List.getElem_toArray, List.getElem_cons_succ, List.getElem_cons_zero]); go_simp; try with_reducible rfl)
      simp only [Act.put, List.setIfInBounds_toArray]; dsimp only [List.set_cons_zero, List.set_cons_succ]
      replace hCl := hCl'; clear hCl'
      refine T.qTake (i := 5) (d := (some 239)) (v := ?v156) rfl rfl (by as_aux_lemma => kernel_rfl) (by decide) hCl (by as_aux_lemma => kernel_rfl) (by as_aux_lemma => kernel_rfl) (by as_aux_lemma => kernel_rfl) (by rfl) ?hy156 (fun _ _ _ => trivial) (fun hCl' => ?_)
      case hy156 => (intro w hSw; refine T.qVal ?_ hSw; (have fF53 := F53.out w hSw; have fF54 := F54.out w hSw; have fF55 := F55.out w hSw; have fF56 := F56.out w hSw; have fF57 := F57.out w hSw; have fF58 := F58.out w hSw; have fF59 := F59.out w hSw; have fF60 := F60.out w hSw); (try dsimp only [List.getElem_toArray, List.getElem_cons_succ, List.getElem_cons_zero]); go_simp; try with_reducible rfl)
      simp only [Act.put, List.setIfInBounds_toArray]; dsimp only [List.set_cons_zero, List.set_cons_succ]
      replace hCl := hCl'; clear hCl'
      refine T.qTake (i := 6) (d := (some 240)) (v := ?v157) rfl rfl (by as_aux_lemma => kernel_rfl) (by decide) hCl (by as_aux_lemma => kernel_rfl) (by as_aux_lemma => kernel_rfl) (by as_aux_lemma => kernel_rfl) (by rfl) ?hy157 (fun _ _ _ => trivial) (fun hCl' => ?_)
      case hy157 => (intro w hSw; refine T.qVal ?_ hSw; (have fF53 := F53.out w hSw; have fF54 := F54.out w hSw; have fF55 := F55.out w hSw; have fF56 := F56.out w hSw; have fF57 := F57.out w hSw; have fF58 := F58.out w hSw; have fF59 := F59.out w hSw; have fF60 := F60.out w hSw); (try dsimp only [List.getElem_toArray, List.getElem_cons_succ, List.getElem_cons_zero]); go_simp; try with_reducible rfl)
      simp only [Act.put, List.setIfInBounds_toArray]; dsimp only [List.set_cons_zero, List.set_cons_succ]
      replace hCl := hCl'; clear hCl'
      refine T.qTake (i := 7) (d := (some 241)) (v := ?v158) rfl rfl (by as_aux_lemma => kernel_rfl) (by decide) hCl (by as_aux_lemma => kernel_rfl) (by as_aux_lemma => kernel_rfl) (by as_aux_lemma => kernel_rfl) (by rfl) ?hy158 (fun _ _ _ => trivial) (fun hCl' => ?_)
      case hy158 => (intro w hSw; refine T.qVal ?_ hSw; (have fF53 := F53.out w hSw; have fF54 := F54.out w hSw; have fF55 := F55.out w hSw; have fF56 := F56.out w hSw; have fF57 := F57.out w hSw; have fF58 := F58.out w hSw; have fF59 := F59.out w hSw; have fF60 := F60.out w hSw); (try dsimp only [List.getElem_toArray, List.getElem_cons_succ, List.getElem_cons_zero]); go_simp; try with_reducible rfl)
      simp only [Act.put, List.setIfInBounds_toArray]; dsimp only [List.set_cons_zero, List.set_cons_succ]
      replace hCl := hCl'; clear hCl'
      refine T.qTake (i := 8) (d := (some 242)) (v := ?v159) rfl rfl (by as_aux_lemma => kernel_rfl) (by decide) hCl (by as_aux_lemma => kernel_rfl) (by as_aux_lemma => kernel_rfl) (by as_aux_lemma => kernel_rfl) (by rfl) ?hy159 (fun _ _ _ => trivial) (fun hCl' => ?_)
      case hy159 => (intro w hSw; refine T.qVal ?_ hSw; (have fF53 := F53.out w hSw; have fF54 := F54.out w hSw; have fF55 := F55.out w hSw; have fF56 := F56.out w hSw; have fF57 := F57.out w hSw; have fF58 := F58.out w hSw; have fF59 := F59.out w hSw; have fF60 := F60.out w hSw); (try dsimp only [List.getElem_toArray, List.getElem_cons_succ, List.getElem_cons_zero]); go_simp; try with_reducible rfl)
      simp only [Act.put, List.setIfInBounds_toArray]; dsimp only [List.set_cons_zero, List.set_cons_succ]
      replace hCl := hCl'; clear hCl'
      refine T.qTake (i := 9) (d := (some 243)) (v := ?v160) rfl rfl (by as_aux_lemma => kernel_rfl) (by decide) hCl (by as_aux_lemma => kernel_rfl) (by as_aux_lemma => kernel_rfl) (by as_aux_lemma => kernel_rfl) (by rfl) ?hy160 (fun _ _ _ => trivial) (fun hCl' => ?_)
      case hy160 => (intro w hSw; refine T.qVal ?_ hSw; (have fF53 := F53.out w hSw; have fF54 := F54.out w hSw; have fF55 := F55.out w hSw; have fF56 := F56.out w hSw; have fF57 := F57.out w hSw; have fF58 := F58.out w hSw; have fF59 := F59.out w hSw; have fF60 := F60.out w hSw); (try dsimp only [List.getElem_toArray, List.getElem_cons_succ, List.getElem_cons_zero]); go_simp; try with_reducible rfl)
      simp only [Act.put, List.setIfInBounds_toArray]; dsimp only [List.set_cons_zero, List.set_cons_succ]
      replace hCl := hCl'; clear hCl'
      refine T.qTake (i := 10) (d := (some 244)) (v := ?v161) rfl rfl (by as_aux_lemma => kernel_rfl) (by decide) hCl (by as_aux_lemma => kernel_rfl) (by as_aux_lemma => kernel_rfl) (by as_aux_lemma => kernel_rfl) (by rfl) ?hy161 (fun _ _ _ => trivial) (fun hCl' => ?_)
      case hy161 => (intro w hSw; refine T.qVal ?_ hSw; (have fF53 := F53.out w hSw; have fF54 := F54.out w hSw; have fF55 := F55.out w hSw; have fF56 := F56.out w hSw; have fF57 := F57.out w hSw; have fF58 := F58.out w hSw; have fF59 := F59.out w hSw; have fF60 := F60.out w hSw); (try dsimp only [List.getElem_toArray, List.getElem_cons_succ, List.getElem_cons_zero]); go_simp; try with_reducible rfl)
      simp only [Act.put, List.setIfInBounds_toArray]; dsimp only [List.set_cons_zero, List.set_cons_succ]
      replace hCl := hCl'; clear hCl'
      refine T.qTake (i := 11) (d := (some 245)) (v := ?v162) rfl rfl (by as_aux_lemma => kernel_rfl) (by decide) hCl (by as_aux_lemma => kernel_rfl) (by as_aux_lemma => kernel_rfl) (by as_aux_lemma => kernel_rfl) (by rfl) ?hy162 (fun _ _ _ => trivial) (fun hCl' => ?_)
      case hy162 => (intro w hSw; refine T.qVal ?_ hSw; (have fF53 := F53.out w hSw; have fF54 := F54.out w hSw; have fF55 := F55.out w hSw; have fF56 := F56.out w hSw; have fF57 := F57.out w hSw; have fF58 := F58.out w hSw; have fF59 := F59.out w hSw; have fF60 := F60.out w hSw); (try dsimp only [List.getElem_toArray, List.getElem_cons_succ, List.getElem_cons_zero]); go_simp; try with_reducible rfl)
      simp only [Act.put, List.setIfInBounds_toArray]; dsimp only [List.set_cons_zero, List.set_cons_succ]
      replace hCl := hCl'; clear hCl'
      refine T.qTake (i := 12) (d := (some 246)) (v := ?v163) rfl rfl (by as_aux_lemma => kernel_rfl) (by decide) hCl (by as_aux_lemma => kernel_rfl) (by as_aux_lemma => kernel_rfl) (by as_aux_lemma => kernel_rfl) (by rfl) ?hy163 (fun _ _ _ => trivial) (fun hCl' => ?_)
      case hy163 => (intro w hSw; refine T.qVal ?_ hSw; (have fF53 := F53.out w hSw; have fF54 := F54.out w hSw; have fF55 := F55.out w hSw; have fF56 := F56.out w hSw; have fF57 := F57.out w hSw; have fF58 := F58.out w hSw; have fF59 := F59.out w hSw; have fF60 := F60.out w hSw); (try dsimp only [List.getElem_toArray, List.getElem_cons_succ, List.getElem_cons_zero]); go_simp; try with_reducible rfl)
      simp only [Act.put, List.setIfInBounds_toArray]; dsimp only [List.set_cons_zero, List.set_cons_succ]
      replace hCl := hCl'; clear hCl'
      refine T.qTake (i := 13) (d := (some 247)) (v := ?v164) rfl rfl (by as_aux_lemma => kernel_rfl) (by decide) hCl (by as_aux_lemma => kernel_rfl) (by as_aux_lemma => kernel_rfl) (by as_aux_lemma => kernel_rfl) (by rfl) ?hy164 (fun _ _ _ => trivial) (fun hCl' => ?_)
      case hy164 => (intro w hSw; refine T.qVal ?_ hSw; (have fF53 := F53.out w hSw; have fF54 := F54.out w hSw; have fF55 := F55.out w hSw; have fF56 := F56.out w hSw; have fF57 := F57.out w hSw; have fF58 := F58.out w hSw; have fF59 := F59.out w hSw; have fF60 := F60.out w hSw); (try dsimp only [List.getElem_toArray, List.getElem_cons_succ, List.getElem_cons_zero]); go_simp; try with_reducible rfl)
      simp only [Act.put, List.setIfInBounds_toArray]; dsimp only [List.set_cons_zero, List.set_cons_succ]
      replace hCl := hCl'; clear hCl'
      refine T.qTake (i := 14) (d := (some 248)) (v := ?v165) rfl rfl (by as_aux_lemma => kernel_rfl) (by decide) hCl (by as_aux_lemma => kernel_rfl) (by as_aux_lemma => kernel_rfl) (by as_aux_lemma => kernel_rfl) (by rfl) ?hy165 (fun _ _ _ => trivial) (fun hCl' => ?_)
      case hy165 => (intro w hSw; refine T.qVal ?_ hSw; (have fF53 := F53.out w hSw; have fF54 := F54.out w hSw; have fF55 := F55.out w hSw; have fF56 := F56.out w hSw; have fF57 := F57.out w hSw; have fF58 := F58.out w hSw; have fF59 := F59.out w hSw; have fF60 := F60.out w hSw); (try dsimp only [List.getElem_toArray, List.getElem_cons_succ, List.getElem_cons_zero]); go_simp; try with_reducible rfl)
      simp only [Act.put, List.setIfInBounds_toArray]; dsimp only [List.set_cons_zero, List.set_cons_succ]
      replace hCl := hCl'; clear hCl'
      refine T.qTake (i := 15) (d := (some 249)) (v := ?v166) rfl rfl (by as_aux_lemma => kernel_rfl) (by decide) hCl (by as_aux_lemma => kernel_rfl) (by as_aux_lemma => kernel_rfl) (by as_aux_lemma => kernel_rfl) (by rfl) ?hy166 (fun _ _ _ => trivial) (fun hCl' => ?_)
      case hy166 => (intro w hSw; refine T.qVal ?_ hSw; (have fF53 := F53.out w hSw; have fF54 := F54.out w hSw; have fF55 := F55.out w hSw; have fF56 := F56.out w hSw; have fF57 := F57.out w hSw; have fF58 := F58.out w hSw; have fF59 := F59.out w hSw; have fF60 := F60.out w hSw); (try dsimp only [List.getElem_toArray, List.getElem_cons_succ, List.getElem_cons_zero]); go_simp; try with_reducible rfl)
      simp only [Act.put, List.setIfInBounds_toArray]; dsimp only [List.set_cons_zero, List.set_cons_succ]
      replace hCl := hCl'; clear hCl'
      refine T.qTake (i := 16) (d := (some 250)) (v := ?v167) rfl rfl (by as_aux_lemma => kernel_rfl) (by decide) hCl (by as_aux_lemma => kernel_rfl) (by as_aux_lemma => kernel_rfl) (by as_aux_lemma => kernel_rfl) (by rfl) ?hy167 (fun _ _ _ => trivial) (fun hCl' => ?_)
      case hy167 => (intro w hSw; refine T.qVal ?_ hSw; (have fF53 := F53.out w hSw; have fF54 := F54.out w hSw; have fF55 := F55.out w hSw; have fF56 := F56.out w hSw; have fF57 := F57.out w hSw; have fF58 := F58.out w hSw; have fF59 := F59.out w hSw; have fF60 := F60.out w hSw); (try dsimp only [List.getElem_toArray, List.getElem_cons_succ, List.getElem_cons_zero]); go_simp; try with_reducible rfl)
      simp only [Act.put, List.setIfInBounds_toArray]; dsimp only [List.set_cons_zero, List.set_cons_succ]
      replace hCl := hCl'; clear hCl'
      refine T.qTake (i := 17) (d := (some 251)) (v := ?v168) rfl rfl (by as_aux_lemma => kernel_rfl) (by decide) hCl (by as_aux_lemma => kernel_rfl) (by as_aux_lemma => kernel_rfl) (by as_aux_lemma => kernel_rfl) (by rfl) ?hy168 (fun _ _ _ => trivial) (fun hCl' => ?_)
      case hy168 => (intro w hSw; refine T.qVal ?_ hSw; (have fF53 := F53.out w hSw; have fF54 := F54.out w hSw; have fF55 := F55.out w hSw; have fF56 := F56.out w hSw; have fF57 := F57.out w hSw; have fF58 := F58.out w hSw; have fF59 := F59.out w hSw; have fF60 := F60.out w hSw); (try dsimp only [List.getElem_toArray, List.getElem_cons_succ, List.getElem_cons_zero]); go_simp; try with_reducible rfl)
      simp only [Act.put, List.setIfInBounds_toArray]; dsimp only [List.set_cons_zero, List.set_cons_succ]
      replace hCl := hCl'; clear hCl'
      refine T.qTake (i := 18) (d := (some 252)) (v := ?v169) rfl rfl (by as_aux_lemma => kernel_rfl) (by decide) hCl (by as_aux_lemma => kernel_rfl) (by as_aux_lemma => kernel_rfl) (by as_aux_lemma => kernel_rfl) (by rfl) ?hy169 (fun _ _ _ => trivial) (fun hCl' => ?_)
      case hy169 => (intro w hSw; refine T.qVal ?_ hSw; (have fF53 := F53.out w hSw; have fF54 := F54.out w hSw; have fF55 := F55.out w hSw; have fF56 := F56.out w hSw; have fF57 := F57.out w hSw; have fF58 := F58.out w hSw; have fF59 := F59.out w hSw; have fF60 := F60.out w hSw); (try dsimp only [List.getElem_toArray, List.getElem_cons_succ, List.getElem_cons_zero]); go_simp; try with_reducible rfl)
      simp only [Act.put, List.setIfInBounds_toArray]; dsimp only [List.set_cons_zero, List.set_cons_succ]
      replace hCl := hCl'; clear hCl'
      refine T.qTake (i := 19) (d := (some 253)) (v := ?v170) rfl rfl (by as_aux_lemma => kernel_rfl) (by decide) hCl (by as_aux_lemma => kernel_rfl) (by as_aux_lemma => kernel_rfl) (by as_aux_lemma => kernel_rfl) (by rfl) ?hy170 (fun _ _ _ => trivial) (fun hCl' => ?_)
      case hy170 => (intro w hSw; refine T.qVal ?_ hSw; (have fF53 := F53.out w hSw; have fF54 := F54.out w hSw; have fF55 := F55.out w hSw; have fF56 := F56.out w hSw; have fF57 := F57.out w hSw; have fF58 := F58.out w hSw; have fF59 := F59.out w hSw; have fF60 := F60.out w hSw); (try dsimp only [List.getElem_toArray, List.getElem_cons_succ, List.getElem_cons_zero]); go_simp; try with_reducible rfl)
      simp only [Act.put, List.setIfInBounds_toArray]; dsimp only [List.set_cons_zero, List.set_cons_succ]
      replace hCl := hCl'; clear hCl'
      refine T.qTake (i := 20) (d := (some 254)) (v := ?v171) rfl rfl (by as_aux_lemma => kernel_rfl) (by decide) hCl (by as_aux_lemma => kernel_rfl) (by as_aux_lemma => kernel_rfl) (by as_aux_lemma => kernel_rfl) (by rfl) ?hy171 (fun _ _ _ => trivial) (fun hCl' => ?_)
      case hy171 => (intro w hSw; refine T.qVal ?_ hSw; (have fF53 := F53.out w hSw; have fF54 := F54.out w hSw; have fF55 := F55.out w hSw; have fF56 := F56.out w hSw; have fF57 := F57.out w hSw; have fF58 := F58.out w hSw; have fF59 := F59.out w hSw; have fF60 := F60.out w hSw); (try dsimp only [List.getElem_toArray, List.getElem_cons_succ, List.getElem_cons_zero]); go_simp; try with_reducible rfl)
      simp only [Act.put, List.setIfInBounds_toArray]; dsimp only [List.set_cons_zero, List.set_cons_succ]
      replace hCl := hCl'; clear hCl'
      refine T.qTake (i := 23) (d := (some 257)) (v := ?v172) rfl rfl (by as_aux_lemma => kernel_rfl) (by decide) hCl (by as_aux_lemma => kernel_rfl) (by as_aux_lemma => kernel_rfl) (by as_aux_lemma => kernel_rfl) (by rfl) ?hy172 (fun _ _ _ => trivial) (fun hCl' => ?_)
      case hy172 => (intro w hSw; refine T.qVal ?_ hSw; (have fF53 := F53.out w hSw; have fF54 := F54.out w hSw; have fF55 := F55.out w hSw; have fF56 := F56.out w hSw; have fF57 := F57.out w hSw; have fF58 := F58.out w hSw; have fF59 := F59.out w hSw; have fF60 := F60.out w hSw); (try dsimp only [List.getElem_toArray, List.getElem_cons_succ, List.getElem_cons_zero]); go_simp; try with_reducible rfl)
      simp only [Act.put, List.setIfInBounds_toArray]; dsimp only [List.set_cons_zero, List.set_cons_succ]
      replace hCl := hCl'; clear hCl'
      refine T.qTake (i := 21) (d := (some 255)) (v := ?v173) rfl rfl (by as_aux_lemma => kernel_rfl) (by decide) hCl (by as_aux_lemma => kernel_rfl) (by as_aux_lemma => kernel_rfl) (by as_aux_lemma => kernel_rfl) (by rfl) ?hy173 (fun _ _ _ => trivial) (fun hCl' => ?_)
      case hy173 => (intro w hSw; refine T.qVal ?_ hSw; (have fF53 := F53.out w hSw; have fF54 := F54.out w hSw; have fF55 := F55.out w hSw; have fF56 := F56.out w hSw; have fF57 := F57.out w hSw; have fF58 := F58.out w hSw; have fF59 := F59.out w hSw; have fF60 := F60.out w hSw); (try dsimp only [List.getElem_toArray, List.getElem_cons_succ, List.getElem_cons_zero]); go_simp; try with_reducible rfl)
      simp only [Act.put, List.setIfInBounds_toArray]; dsimp only [List.set_cons_zero, List.set_cons_succ]
      replace hCl := hCl'; clear hCl'
      refine T.qTake (i := 24) (d := (some 258)) (v := ?v174) rfl rfl (by as_aux_lemma => kernel_rfl) (by decide) hCl (by as_aux_lemma => kernel_rfl) (by as_aux_lemma => kernel_rfl) (by as_aux_lemma => kernel_rfl) (by rfl) ?hy174 (fun _ _ _ => trivial) (fun hCl' => ?_)
      case hy174 => (intro w hSw; refine T.qVal ?_ hSw; (have fF53 := F53.out w hSw; have fF54 := F54.out w hSw; have fF55 := F55.out w hSw; have fF56 := F56.out w hSw; have fF57 := F57.out w hSw; have fF58 := F58.out w hSw; have fF59 := F59.out w hSw; have fF60 := F60.out w hSw); (try dsimp only [List.getElem_toArray, List.getElem_cons_succ, List.getElem_cons_zero]); go_simp; try with_reducible rfl)
      simp only [Act.put, List.setIfInBounds_toArray]; dsimp only [List.set_cons_zero, List.set_cons_succ]
      replace hCl := hCl'; clear hCl'
      refine T.qTake (i := 22) (d := (some 256)) (v := ?v175) rfl rfl (by as_aux_lemma => kernel_rfl) (by decide) hCl (by as_aux_lemma => kernel_rfl) (by as_aux_lemma => kernel_rfl) (by as_aux_lemma => kernel_rfl) (by rfl) ?hy175 (fun _ _ _ => trivial) (fun hCl' => ?_)
      case hy175 => (intro w hSw; refine T.qVal ?_ hSw; (have fF53 := F53.out w hSw; have fF54 := F54.out w hSw; have fF55 := F55.out w hSw; have fF56 := F56.out w hSw; have fF57 := F57.out w hSw; have fF58 := F58.out w hSw; have fF59 := F59.out w hSw; have fF60 := F60.out w hSw); (try dsimp only [List.getElem_toArray, List.getElem_cons_succ, List.getElem_cons_zero]); go_simp; try with_reducible rfl)
      simp only [Act.put, List.setIfInBounds_toArray]; dsimp only [List.set_cons_zero, List.set_cons_succ]
      replace hCl := hCl'; clear hCl'
      refine T.qTake (i := 25) (d := (some 259)) (v := ?v176) rfl rfl (by as_aux_lemma => kernel_rfl) (by decide) hCl (by as_aux_lemma => kernel_rfl) (by as_aux_lemma => kernel_rfl) (by as_aux_lemma => kernel_rfl) (by rfl) ?hy176 (fun _ _ _ => trivial) (fun hCl' => ?_)
      case hy176 => (intro w hSw; refine T.qVal ?_ hSw; (have fF53 := F53.out w hSw; have fF54 := F54.out w hSw; have fF55 := F55.out w hSw; have fF56 := F56.out w hSw; have fF57 := F57.out w hSw; have fF58 := F58.out w hSw; have fF59 := F59.out w hSw; have fF60 := F60.out w hSw); (try dsimp only [List.getElem_toArray, List.getElem_cons_succ, List.getElem_cons_zero]); go_simp; try with_reducible rfl)
      simp only [Act.put, List.setIfInBounds_toArray]; dsimp only [List.set_cons_zero, List.set_cons_succ]
      replace hCl := hCl'; clear hCl'
      refine T.qTake (i := 26) (d := (some 260)) (v := ((SpV (-hp) (-lp)))) rfl rfl (by as_aux_lemma => kernel_rfl) (by decide) hCl (by as_aux_lemma => kernel_rfl) (by as_aux_lemma => kernel_rfl) (by as_aux_lemma => kernel_rfl) (by rfl) ?hy177 (fun _ _ _ => trivial) (fun hCl' => ?_)
      case hy177 => (intro w hSw; (have fF53 := F53.out w hSw; have fF54 := F54.out w hSw; have fF55 := F55.out w hSw; have fF56 := F56.out w hSw; have fF57 := F57.out w hSw; have fF58 := F58.out w hSw; have fF59 := F59.out w hSw; have fF60 := F60.out w hSw); (try dsimp only [List.getElem_toArray, List.getElem_cons_succ, List.getElem_cons_zero]); go_simp; (refine (callsIn_wide.2 (HTo.out _ _ w)).mono ?_; rintro e w3 ⟨rfl, u3⟩; exact ⟨rfl, hSw.trans u3⟩))
      simp only [Act.put, List.setIfInBounds_toArray]; dsimp only [List.set_cons_zero, List.set_cons_succ]
      replace hCl := hCl'; clear hCl'
      refine T.qTake (i := 27) (d := (some 261)) (v := ?v178) rfl rfl (by as_aux_lemma => kernel_rfl) (by decide) hCl (by as_aux_lemma => kernel_rfl) (by as_aux_lemma => kernel_rfl) (by as_aux_lemma => kernel_rfl) (by rfl) ?hy178 (fun _ _ _ => trivial) (fun hCl' => ?_)
      case hy178 => (intro w hSw; refine T.qVal ?_ hSw; (have fF53 := F53.out w hSw; have fF54 := F54.out w hSw; have fF55 := F55.out w hSw; have fF56 := F56.out w hSw; have fF57 := F57.out w hSw; have fF58 := F58.out w hSw; have fF59 := F59.out w hSw; have fF60 := F60.out w hSw); (try dsimp only [List.getElem_toArray, List.getElem_cons_succ, List.getElem_cons_zero]); go_simp; try with_reducible rfl)
      simp only [Act.put, List.setIfInBounds_toArray]; dsimp only [List.set_cons_zero, List.set_cons_succ]
      replace hCl := hCl'; clear hCl'
      refine T.qTake (i := 28) (d := (some 262)) (v := ?v179) rfl rfl (by as_aux_lemma => kernel_rfl) (by decide) hCl (by as_aux_lemma => kernel_rfl) (by as_aux_lemma => kernel_rfl) (by as_aux_lemma => kernel_rfl) (by rfl) ?hy179 (fun _ _ _ => trivial) (fun hCl' => ?_)
      case hy179 => (intro w hSw; refine T.qVal ?_ hSw; (have fF53 := F53.out w hSw; have fF54 := F54.out w hSw; have fF55 := F55.out w hSw; have fF56 := F56.out w hSw; have fF57 := F57.out w hSw; have fF58 := F58.out w hSw; have fF59 := F59.out w hSw; have fF60 := F60.out w hSw); (try dsimp only [List.getElem_toArray, List.getElem_cons_succ, List.getElem_cons_zero]); go_simp; try with_reducible rfl)
      simp only [Act.put, List.setIfInBounds_toArray]; dsimp only [List.set_cons_zero, List.set_cons_succ]
      replace hCl := hCl'; clear hCl'
      refine T.qTake (i := 29) (d := (some 263)) (v := ?v180) rfl rfl (by as_aux_lemma => kernel_rfl) (by decide) hCl (by as_aux_lemma => kernel_rfl) (by as_aux_lemma => kernel_rfl) (by as_aux_lemma => kernel_rfl) (by rfl) ?hy180 (fun _ _ _ => trivial) (fun hCl' => ?_)
      case hy180 => (intro w hSw; refine T.qVal ?_ hSw; (have fF53 := F53.out w hSw; have fF54 := F54.out w hSw; have fF55 := F55.out w hSw; have fF56 := F56.out w hSw; have fF57 := F57.out w hSw; have fF58 := F58.out w hSw; have fF59 := F59.out w hSw; have fF60 := F60.out w hSw); (try dsimp only [List.getElem_toArray, List.getElem_cons_succ, List.getElem_cons_zero]); go_simp; try with_reducible rfl)
      simp only [Act.put, List.setIfInBounds_toArray]; dsimp only [List.set_cons_zero, List.set_cons_succ]
      replace hCl := hCl'; clear hCl'
      refine T.qTake (i := 30) (d := (some 264)) (v := ?v181) rfl rfl (by as_aux_lemma => kernel_rfl) (by decide) hCl (by as_aux_lemma => kernel_rfl) (by as_aux_lemma => kernel_rfl) (by as_aux_lemma => kernel_rfl) (by rfl) ?hy181 (fun _ _ _ => trivial) (fun hCl' => ?_)
      case hy181 => (intro w hSw; refine T.qVal ?_ hSw; (have fF53 := F53.out w hSw; have fF54 := F54.out w hSw; have fF55 := F55.out w hSw; have fF56 := F56.out w hSw; have fF57 := F57.out w hSw; have fF58 := F58.out w hSw; have fF59 := F59.out w hSw; have fF60 := F60.out w hSw); (try dsimp only [List.getElem_toArray, List.getElem_cons_succ, List.getElem_cons_zero]); go_simp; try with_reducible rfl)
      simp only [Act.put, List.setIfInBounds_toArray]; dsimp only [List.set_cons_zero, List.set_cons_succ]
      replace hCl := hCl'; clear hCl'
      refine T.qTake (i := 31) (d := (some 265)) (v := ?v182) rfl rfl (by as_aux_lemma => kernel_rfl) (by decide) hCl (by as_aux_lemma => kernel_rfl) (by as_aux_lemma => kernel_rfl) (by as_aux_lemma => kernel_rfl) (by rfl) ?hy182 (fun _ _ _ => trivial) (fun hCl' => ?_)
      case hy182 => (intro w hSw; refine T.qVal ?_ hSw; (have fF53 := F53.out w hSw; have fF54 := F54.out w hSw; have fF55 := F55.out w hSw; have fF56 := F56.out w hSw; have fF57 := F57.out w hSw; have fF58 := F58.out w hSw; have fF59 := F59.out w hSw; have fF60 := F60.out w hSw); (try dsimp only [List.getElem_toArray, List.getElem_cons_succ, List.getElem_cons_zero]); go_simp; try with_reducible rfl)
      simp only [Act.put, List.setIfInBounds_toArray]; dsimp only [List.set_cons_zero, List.set_cons_succ]
      replace hCl := hCl'; clear hCl'
      refine T.qTake (i := 33) (d := (some 267)) (v := ?v183) rfl rfl (by as_aux_lemma => kernel_rfl) (by decide) hCl (by as_aux_lemma => kernel_rfl) (by as_aux_lemma => kernel_rfl) (by as_aux_lemma => kernel_rfl) (by rfl) ?hy183 (fun _ _ _ => trivial) (fun hCl' => ?_)
      case hy183 => (intro w hSw; refine T.qVal ?_ hSw; (have fF53 := F53.out w hSw; have fF54 := F54.out w hSw; have fF55 := F55.out w hSw; have fF56 := F56.out w hSw; have fF57 := F57.out w hSw; have fF58 := F58.out w hSw; have fF59 := F59.out w hSw; have fF60 := F60.out w hSw); (try dsimp only [List.getElem_toArray, List.getElem_cons_succ, List.getElem_cons_zero]); go_simp; try with_reducible rfl)
      simp only [Act.put, List.setIfInBounds_toArray]; dsimp only [List.set_cons_zero, List.set_cons_succ]
      replace hCl := hCl'; clear hCl'
      refine T.qTake (i := 36) (d := (some 270)) (v := ?v184) rfl rfl (by as_aux_lemma => kernel_rfl) (by decide) hCl (by as_aux_lemma => kernel_rfl) (by as_aux_lemma => kernel_rfl) (by as_aux_lemma => kernel_rfl) (by rfl) ?hy184 (fun _ _ _ => trivial) (fun hCl' => ?_)
      case hy184 => (intro w hSw; refine T.qVal ?_ hSw; (have fF53 := F53.out w hSw; have fF54 := F54.out w hSw; have fF55 := F55.out w hSw; have fF56 := F56.out w hSw; have fF57 := F57.out w hSw; have fF58 := F58.out w hSw; have fF59 := F59.out w hSw; have fF60 := F60.out w hSw); (try dsimp only [List.getElem_toArray, List.getElem_cons_succ, List.getElem_cons_zero]); go_simp; try with_reducible rfl)
      simp only [Act.put, List.setIfInBounds_toArray]; dsimp only [List.set_cons_zero, List.set_cons_succ]
      replace hCl := hCl'; clear hCl'
      refine T.qTake (i := 38) (d := (some 272)) (v := ?v185) rfl rfl (by as_aux_lemma => kernel_rfl) (by decide) hCl (by as_aux_lemma => kernel_rfl) (by as_aux_lemma => kernel_rfl) (by as_aux_lemma => kernel_rfl) (by rfl) ?hy185 (fun _ _ _ => trivial) (fun hCl' => ?_)
      case hy185 => (intro w hSw; refine T.qVal ?_ hSw; (have fF53 := F53.out w hSw; have fF54 := F54.out w hSw; have fF55 := F55.out w hSw; have fF56 := F56.out w hSw; have fF57 := F57.out w hSw; have fF58 := F58.out w hSw; have fF59 := F59.out w hSw; have fF60 := F60.out w hSw); (try dsimp only [List.getElem_toArray, List.getElem_cons_succ, List.getElem_cons_zero]); go_simp; try with_reducible rfl)
      simp only [Act.put, List.setIfInBounds_toArray]; dsimp only [List.set_cons_zero, List.set_cons_succ]
      replace hCl := hCl'; clear hCl'
      refine T.qTake (i := 32) (d := (some 266)) (v := ?v186) rfl rfl (by as_aux_lemma => kernel_rfl) (by decide) hCl (by as_aux_lemma => kernel_rfl) (by as_aux_lemma => kernel_rfl) (by as_aux_lemma => kernel_rfl) (by rfl) ?hy186 (fun _ _ _ => trivial) (fun hCl' => ?_)
      case hy186 => (intro w hSw; refine T.qVal ?_ hSw; (have fF53 := F53.out w hSw; have fF54 := F54.out w hSw; have fF55 := F55.out w hSw; have fF56 := F56.out w hSw; have fF57 := F57.out w hSw; have fF58 := F58.out w hSw; have fF59 := F59.out w hSw; have fF60 := F60.out w hSw); (try dsimp only [List.getElem_toArray, List.getElem_cons_succ, List.getElem_cons_zero]); go_simp; try with_reducible rfl)
      simp only [Act.put, List.setIfInBounds_toArray]; dsimp only [List.set_cons_zero, List.set_cons_succ]
      replace hCl := hCl'; clear hCl'
      refine T.qTake (i := 34) (d := (some 268)) (v := ?v187) rfl rfl (by as_aux_lemma => kernel_rfl) (by decide) hCl (by as_aux_lemma => kernel_rfl) (by as_aux_lemma => kernel_rfl) (by as_aux_lemma => kernel_rfl) (by rfl) ?hy187 (fun _ _ _ => trivial) (fun hCl' => ?_)
      case hy187 => (intro w hSw; refine T.qVal ?_ hSw; (have fF53 := F53.out w hSw; have fF54 := F54.out w hSw; have fF55 := F55.out w hSw; have fF56 := F56.out w hSw; have fF57 := F57.out w hSw; have fF58 := F58.out w hSw; have fF59 := F59.out w hSw; have fF60 := F60.out w hSw); (try dsimp only [List.getElem_toArray, List.getElem_cons_succ, List.getElem_cons_zero]); go_simp; try with_reducible rfl)
      simp only [Act.put, List.setIfInBounds_toArray]; dsimp only [List.set_cons_zero, List.set_cons_succ]
      replace hCl := hCl'; clear hCl'
      refine T.qTake (i := 37) (d := (some 271)) (v := ?v188) rfl rfl (by as_aux_lemma => kernel_rfl) (by decide) hCl (by as_aux_lemma => kernel_rfl) (by as_aux_lemma => kernel_rfl) (by as_aux_lemma => kernel_rfl) (by rfl) ?hy188 (fun _ _ _ => trivial) (fun hCl' => ?_)
      case hy188 => (intro w hSw; refine T.qVal ?_ hSw; (have fF53 := F53.out w hSw; have fF54 := F54.out w hSw; have fF55 := F55.out w hSw; have fF56 := F56.out w hSw; have fF57 := F57.out w hSw; have fF58 := F58.out w hSw; have fF59 := F59.out w hSw; have fF60 := F60.out w hSw); (try dsimp only [List.getElem_toArray, List.getElem_cons_succ, List.getElem_cons_zero]); go_simp; try with_reducible rfl)
      simp only [Act.put, List.setIfInBounds_toArray]; dsimp only [List.set_cons_zero, List.set_cons_succ]
      replace hCl := hCl'; clear hCl'
      refine T.qTake (i := 39) (d := (some 273)) (v := ?v189) rfl rfl (by as_aux_lemma => kernel_rfl) (by decide) hCl (by as_aux_lemma => kernel_rfl) (by as_aux_lemma => kernel_rfl) (by as_aux_lemma => kernel_rfl) (by rfl) ?hy189 (fun _ _ _ => trivial) (fun hCl' => ?_)
      case hy189 => (intro w hSw; refine T.qVal ?_ hSw; (have fF53 := F53.out w hSw; have fF54 := F54.out w hSw; have fF55 := F55.out w hSw; have fF56 := F56.out w hSw; have fF57 := F57.out w hSw; have fF58 := F58.out w hSw; have fF59 := F59.out w hSw; have fF60 := F60.out w hSw); (try dsimp only [List.getElem_toArray, List.getElem_cons_succ, List.getElem_cons_zero]); go_simp; try with_reducible rfl)
      simp only [Act.put, List.setIfInBounds_toArray]; dsimp only [List.set_cons_zero, List.set_cons_succ]
      replace hCl := hCl'; clear hCl'
      refine T.qTake (i := 35) (d := (some 269)) (v := ?v190) rfl rfl (by as_aux_lemma => kernel_rfl) (by decide) hCl (by as_aux_lemma => kernel_rfl) (by as_aux_lemma => kernel_rfl) (by as_aux_lemma => kernel_rfl) (by rfl) ?hy190 (fun _ _ _ => trivial) (fun hCl' => ?_)
      case hy190 => (intro w hSw; refine T.qVal ?_ hSw; (have fF53 := F53.out w hSw; have fF54 := F54.out w hSw; have fF55 := F55.out w hSw; have fF56 := F56.out w hSw; have fF57 := F57.out w hSw; have fF58 := F58.out w hSw; have fF59 := F59.out w hSw; have fF60 := F60.out w hSw); (try dsimp only [List.getElem_toArray, List.getElem_cons_succ, List.getElem_cons_zero]); go_simp; try with_reducible rfl)
      simp only [Act.put, List.setIfInBounds_toArray]; dsimp only [List.set_cons_zero, List.set_cons_succ]
      replace hCl := hCl'; clear hCl'
      refine T.qTake (i := 40) (d := (some 274)) (v := ?v191) rfl rfl (by as_aux_lemma => kernel_rfl) (by decide) hCl (by as_aux_lemma => kernel_rfl) (by as_aux_lemma => kernel_rfl) (by as_aux_lemma => kernel_rfl) (by rfl) ?hy191 (fun _ _ _ => trivial) (fun hCl' => ?_)
      case hy191 => (intro w hSw; refine T.qVal ?_ hSw; (have fF53 := F53.out w hSw; have fF54 := F54.out w hSw; have fF55 := F55.out w hSw; have fF56 := F56.out w hSw; have fF57 := F57.out w hSw; have fF58 := F58.out w hSw; have fF59 := F59.out w hSw; have fF60 := F60.out w hSw); (try dsimp only [List.getElem_toArray, List.getElem_cons_succ, List.getElem_cons_zero]); go_simp; try with_reducible rfl)
      simp only [Act.put, List.setIfInBounds_toArray]; dsimp only [List.set_cons_zero, List.set_cons_succ]
      replace hCl := hCl'; clear hCl'
      refine T.qTake (i := 41) (d := (some 275)) (v := ((SpV (lu - hs) (hu - ls)))) rfl rfl (by as_aux_lemma => kernel_rfl) (by decide) hCl (by as_aux_lemma => kernel_rfl) (by as_aux_lemma => kernel_rfl) (by as_aux_lemma => kernel_rfl) (by rfl) ?hy192 (fun _ _ _ => trivial) (fun hCl' => ?_)
      case hy192 => (intro w hSw; (have fF53 := F53.out w hSw; have fF54 := F54.out w hSw; have fF55 := F55.out w hSw; have fF56 := F56.out w hSw; have fF57 := F57.out w hSw; have fF58 := F58.out w hSw; have fF59 := F59.out w hSw; have fF60 := F60.out w hSw); (try dsimp only [List.getElem_toArray, List.getElem_cons_succ, List.getElem_cons_zero]); go_simp; (refine (callsIn_wide.2 (HTo.out _ _ w)).mono ?_; rintro e w3 ⟨rfl, u3⟩; exact ⟨rfl, hSw.trans u3⟩))
      simp only [Act.put, List.setIfInBounds_toArray]; dsimp only [List.set_cons_zero, List.set_cons_succ]
      replace hCl := hCl'; clear hCl'
      refine T.qTake (i := 42) (d := (some 276)) (v := ((.bool true))) rfl rfl (by as_aux_lemma => kernel_rfl) (by decide) hCl (by as_aux_lemma => kernel_rfl) (by as_aux_lemma => kernel_rfl) (by as_aux_lemma => kernel_rfl) (by rfl) ?hy193 (fun _ _ _ => trivial) (fun hCl' => ?_)
      case hy193 => (intro w hSw; (have fF53 := F53.out w hSw; have fF54 := F54.out w hSw; have fF55 := F55.out w hSw; have fF56 := F56.out w hSw; have fF57 := F57.out w hSw; have fF58 := F58.out w hSw; have fF59 := F59.out w hSw; have fF60 := F60.out w hSw); (try dsimp only [List.getElem_toArray, List.getElem_cons_succ, List.getElem_cons_zero]); go_simp; (refine (callsIn_wide.2 (HWi.out _ _ _ _ w HF.out.2.2.1)).mono ?_; rintro e w3 ⟨rfl, u3⟩; exact ⟨rfl, hSw.trans u3⟩))
      simp only [Act.put, List.setIfInBounds_toArray]; dsimp only [List.set_cons_zero, List.set_cons_succ]
      replace hCl := hCl'; clear hCl'
      refine T.qTake (i := 43) (d := (some 277)) (v := ?v194) rfl rfl (by as_aux_lemma => kernel_rfl) (by decide) hCl (by as_aux_lemma => kernel_rfl) (by as_aux_lemma => kernel_rfl) (by as_aux_lemma => kernel_rfl) (by rfl) ?hy194 (fun _ _ _ => trivial) (fun hCl' => ?_)
      case hy194 => (intro w hSw; refine T.qVal ?_ hSw; (have fF53 := F53.out w hSw; have fF54 := F54.out w hSw; have fF55 := F55.out w hSw; have fF56 := F56.out w hSw; have fF57 := F57.out w hSw; have fF58 := F58.out w hSw; have fF59 := F59.out w hSw; have fF60 := F60.out w hSw); (try dsimp only [List.getElem_toArray, List.getElem_cons_succ, List.getElem_cons_zero]); go_simp; try with_reducible rfl)
      simp only [Act.put, List.setIfInBounds_toArray]; dsimp only [List.set_cons_zero, List.set_cons_succ]
      replace hCl := hCl'; clear hCl'
      refine T.qTake (i := 44) (d := (some 278)) (v := ?v195) rfl rfl (by as_aux_lemma => kernel_rfl) (by decide) hCl (by as_aux_lemma => kernel_rfl) (by as_aux_lemma => kernel_rfl) (by as_aux_lemma => kernel_rfl) (by rfl) ?hy195 (fun _ _ _ => trivial) (fun hCl' => ?_)
      case hy195 => (intro w hSw; refine T.qVal ?_ hSw; (have fF53 := F53.out w hSw; have fF54 := F54.out w hSw; have fF55 := F55.out w hSw; have fF56 := F56.out w hSw; have fF57 := F57.out w hSw; have fF58 := F58.out w hSw; have fF59 := F59.out w hSw; have fF60 := F60.out w hSw); (try dsimp only [List.getElem_toArray, List.getElem_cons_succ, List.getElem_cons_zero]); go_simp; try with_reducible rfl)
      simp only [Act.put, List.setIfInBounds_toArray]; dsimp only [List.set_cons_zero, List.set_cons_succ]
      replace hCl := hCl'; clear hCl'
      refine T.qTake (i := 45) (d := (some 279)) (v := ?v196) rfl rfl (by as_aux_lemma => kernel_rfl) (by decide) hCl (by as_aux_lemma => kernel_rfl) (by as_aux_lemma => kernel_rfl) (by as_aux_lemma => kernel_rfl) (by rfl) ?hy196 (fun _ _ _ => trivial) (fun hCl' => ?_)
      case hy196 => (intro w hSw; refine T.qVal ?_ hSw; (have fF53 := F53.out w hSw; have fF54 := F54.out w hSw; have fF55 := F55.out w hSw; have fF56 := F56.out w hSw; have fF57 := F57.out w hSw; have fF58 := F58.out w hSw; have fF59 := F59.out w hSw; have fF60 := F60.out w hSw); (try dsimp only [List.getElem_toArray, List.getElem_cons_succ, List.getElem_cons_zero]); go_simp; try with_reducible rfl)
      simp only [Act.put, List.setIfInBounds_toArray]; dsimp only [List.set_cons_zero, List.set_cons_succ]
      replace hCl := hCl'; clear hCl'
      refine T.qTake (i := 46) (d := (some 280)) (v := ?v197) rfl rfl (by as_aux_lemma => kernel_rfl) (by decide) hCl (by as_aux_lemma => kernel_rfl) (by as_aux_lemma => kernel_rfl) (by as_aux_lemma => kernel_rfl) (by rfl) ?hy197 (fun _ _ _ => trivial) (fun hCl' => ?_)
      case hy197 => (intro w hSw; refine T.qVal ?_ hSw; (have fF53 := F53.out w hSw; have fF54 := F54.out w hSw; have fF55 := F55.out w hSw; have fF56 := F56.out w hSw; have fF57 := F57.out w hSw; have fF58 := F58.out w hSw; have fF59 := F59.out w hSw; have fF60 := F60.out w hSw); (try dsimp only [List.getElem_toArray, List.getElem_cons_succ, List.getElem_cons_zero]); go_simp; try with_reducible rfl)
      simp only [Act.put, List.setIfInBounds_toArray]; dsimp only [List.set_cons_zero, List.set_cons_succ]
      replace hCl := hCl'; clear hCl'
      refine T.qTake (i := 48) (d := (some 282)) (v := ?v198) rfl rfl (by as_aux_lemma => kernel_rfl) (by decide) hCl (by as_aux_lemma => kernel_rfl) (by as_aux_lemma => kernel_rfl) (by as_aux_lemma => kernel_rfl) (by rfl) ?hy198 (fun _ _ _ => trivial) (fun hCl' => ?_)
      case hy198 => (intro w hSw; refine T.qVal ?_ hSw; (have fF53 := F53.out w hSw; have fF54 := F54.out w hSw; have fF55 := F55.out w hSw; have fF56 := F56.out w hSw; have fF57 := F57.out w hSw; have fF58 := F58.out w hSw; have fF59 := F59.out w hSw; have fF60 := F60.out w hSw); (try dsimp only [List.getElem_toArray, List.getElem_cons_succ, List.getElem_cons_zero]); go_simp; try with_reducible rfl)
      simp only [Act.put, List.setIfInBounds_toArray]; dsimp only [List.set_cons_zero, List.set_cons_succ]
      replace hCl := hCl'; clear hCl'
      refine T.qTake (i := 51) (d := (some 285)) (v := ?v199) rfl rfl (by as_aux_lemma => kernel_rfl) (by decide) hCl (by as_aux_lemma => kernel_rfl) (by as_aux_lemma => kernel_rfl) (by as_aux_lemma => kernel_rfl) (by rfl) ?hy199 (fun _ _ _ => trivial) (fun hCl' => ?_)
      case hy199 => (intro w hSw; refine T.qVal ?_ hSw; (have fF53 := F53.out w hSw; have fF54 := F54.out w hSw; have fF55 := F55.out w hSw; have fF56 := F56.out w hSw; have fF57 := F57.out w hSw; have fF58 := F58.out w hSw; have fF59 := F59.out w hSw; have fF60 := F60.out w hSw); (try dsimp only [List.getElem_toArray, List.getElem_cons_succ, List.getElem_cons_zero]); go_simp; try with_reducible rfl)
      simp only [Act.put, List.setIfInBounds_toArray]; dsimp only [List.set_cons_zero, List.set_cons_succ]
      replace hCl := hCl'; clear hCl'
      refine T.qTake (i := 53) (d := (some 287)) (v := ?v200) rfl rfl (by as_aux_lemma => kernel_rfl) (by decide) hCl (by as_aux_lemma => kernel_rfl) (by as_aux_lemma => kernel_rfl) (by as_aux_lemma => kernel_rfl) (by rfl) ?hy200 (fun _ _ _ => trivial) (fun hCl' => ?_)
      case hy200 => (intro w hSw; refine T.qVal ?_ hSw; (have fF53 := F53.out w hSw; have fF54 := F54.out w hSw; have fF55 := F55.out w hSw; have fF56 := F56.out w hSw; have fF57 := F57.out w hSw; have fF58 := F58.out w hSw; have fF59 := F59.out w hSw; have fF60 := F60.out w hSw); (try dsimp only [List.getElem_toArray, List.getElem_cons_succ, List.getElem_cons_zero]); go_simp; try with_reducible rfl)
      simp only [Act.put, List.setIfInBounds_toArray]; dsimp only [List.set_cons_zero, List.set_cons_succ]
      replace hCl := hCl'; clear hCl'
      refine T.qTake (i := 47) (d := (some 281)) (v := ?v201) rfl rfl (by as_aux_lemma => kernel_rfl) (by decide) hCl (by as_aux_lemma => kernel_rfl) (by as_aux_lemma => kernel_rfl) (by as_aux_lemma => kernel_rfl) (by rfl) ?hy201 (fun _ _ _ => trivial) (fun hCl' => ?_)
      case hy201 => (intro w hSw; refine T.qVal ?_ hSw; (have fF53 := F53.out w hSw; have fF54 := F54.out w hSw; have fF55 := F55.out w hSw; have fF56 := F56.out w hSw; have fF57 := F57.out w hSw; have fF58 := F58.out w hSw; have fF59 := F59.out w hSw; have fF60 := F60.out w hSw); (try dsimp only [List.getElem_toArray, List.getElem_cons_succ, List.getElem_cons_zero]); go_simp; try with_reducible rfl)
      simp only [Act.put, List.setIfInBounds_toArray]; dsimp only [List.set_cons_zero, List.set_cons_succ]
      replace hCl := hCl'; clear hCl'
      refine T.qTake (i := 49) (d := (some 283)) (v := ?v202) rfl rfl (by as_aux_lemma => kernel_rfl) (by decide) hCl (by as_aux_lemma => kernel_rfl) (by as_aux_lemma => kernel_rfl) (by as_aux_lemma => kernel_rfl) (by rfl) ?hy202 (fun _ _ _ => trivial) (fun hCl' => ?_)
      case hy202 => (intro w hSw; refine T.qVal ?_ hSw; (have fF53 := F53.out w hSw; have fF54 := F54.out w hSw; have fF55 := F55.out w hSw; have fF56 := F56.out w hSw; have fF57 := F57.out w hSw; have fF58 := F58.out w hSw; have fF59 := F59.out w hSw; have fF60 := F60.out w hSw); (try dsimp only [List.getElem_toArray, List.getElem_cons_succ, List.getElem_cons_zero]); go_simp; try with_reducible rfl)
      simp only [Act.put, List.setIfInBounds_toArray]; dsimp only [List.set_cons_zero, List.set_cons_succ]
      replace hCl := hCl'; clear hCl'
      refine T.qTake (i := 52) (d := (some 286)) (v := ?v203) rfl rfl (by as_aux_lemma => kernel_rfl) (by decide) hCl (by as_aux_lemma => kernel_rfl) (by as_aux_lemma => kernel_rfl) (by as_aux_lemma => kernel_rfl) (by rfl) ?hy203 (fun _ _ _ => trivial) (fun hCl' => ?_)
      case hy203 => (intro w hSw; refine T.qVal ?_ hSw; (have fF53 := F53.out w hSw; have fF54 := F54.out w hSw; have fF55 := F55.out w hSw; have fF56 := F56.out w hSw; have fF57 := F57.out w hSw; have fF58 := F58.out w hSw; have fF59 := F59.out w hSw; have fF60 := F60.out w hSw); (try dsimp only [List.getElem_toArray, List.getElem_cons_succ, List.getElem_cons_zero]); go_simp; try with_reducible rfl)
      simp only [Act.put, List.setIfInBounds_toArray]; dsimp only [List.set_cons_zero, List.set_cons_succ]
      replace hCl := hCl'; clear hCl'
      refine T.qTake (i := 54) (d := (some 288)) (v := ?v204) rfl rfl (by as_aux_lemma => kernel_rfl) (by decide) hCl (by as_aux_lemma => kernel_rfl) (by as_aux_lemma => kernel_rfl) (by as_aux_lemma => kernel_rfl) (by rfl) ?hy204 (fun _ _ _ => trivial) (fun hCl' => ?_)
      case hy204 => (intro w hSw; refine T.qVal ?_ hSw; (have fF53 := F53.out w hSw; have fF54 := F54.out w hSw; have fF55 := F55.out w hSw; have fF56 := F56.out w hSw; have fF57 := F57.out w hSw; have fF58 := F58.out w hSw; have fF59 := F59.out w hSw; have fF60 := F60.out w hSw); (try dsimp only [List.getElem_toArray, List.getElem_cons_succ, List.getElem_cons_zero]); go_simp; try with_reducible rfl)
      simp only [Act.put, List.setIfInBounds_toArray]; dsimp only [List.set_cons_zero, List.set_cons_succ]
      replace hCl := hCl'; clear hCl'
      refine T.qTake (i := 50) (d := (some 284)) (v := ?v205) rfl rfl (by as_aux_lemma => kernel_rfl) (by decide) hCl (by as_aux_lemma => kernel_rfl) (by as_aux_lemma => kernel_rfl) (by as_aux_lemma => kernel_rfl) (by rfl) ?hy205 (fun _ _ _ => trivial) (fun hCl' => ?_)
      case hy205 => (intro w hSw; refine T.qVal ?_ hSw; (have fF53 := F53.out w hSw; have fF54 := F54.out w hSw; have fF55 := F55.out w hSw; have fF56 := F56.out w hSw; have fF57 := F57.out w hSw; have fF58 := F58.out w hSw; have fF59 := F59.out w hSw; have fF60 := F60.out w hSw); (try dsimp only [List.getElem_toArray, List.getElem_cons_succ, List.getElem_cons_zero]); go_simp; try with_reducible rfl)
      simp only [Act.put, List.setIfInBounds_toArray]; dsimp only [List.set_cons_zero, List.set_cons_succ]
      replace hCl := hCl'; clear hCl'
      refine T.qTake (i := 55) (d := (some 289)) (v := ?v206) rfl rfl (by as_aux_lemma => kernel_rfl) (by decide) hCl (by as_aux_lemma => kernel_rfl) (by as_aux_lemma => kernel_rfl) (by as_aux_lemma => kernel_rfl) (by rfl) ?hy206 (fun _ _ _ => trivial) (fun hCl' => ?_)
      case hy206 => (intro w hSw; refine T.qVal ?_ hSw; (have fF53 := F53.out w hSw; have fF54 := F54.out w hSw; have fF55 := F55.out w hSw; have fF56 := F56.out w hSw; have fF57 := F57.out w hSw; have fF58 := F58.out w hSw; have fF59 := F59.out w hSw; have fF60 := F60.out w hSw); (try dsimp only [List.getElem_toArray, List.getElem_cons_succ, List.getElem_cons_zero]); go_simp; try with_reducible rfl)
      simp only [Act.put, List.setIfInBounds_toArray]; dsimp only [List.set_cons_zero, List.set_cons_succ]
      replace hCl := hCl'; clear hCl'
      refine T.qTake (i := 56) (d := (some 290)) (v := ((SpV (lr + lo) (hr + ho)))) rfl rfl (by as_aux_lemma => kernel_rfl) (by decide) hCl (by as_aux_lemma => kernel_rfl) (by as_aux_lemma => kernel_rfl) (by as_aux_lemma => kernel_rfl) (by rfl) ?hy207 (fun _ _ _ => trivial) (fun hCl' => ?_)
      case hy207 => (intro w hSw; (have fF53 := F53.out w hSw; have fF54 := F54.out w hSw; have fF55 := F55.out w hSw; have fF56 := F56.out w hSw; have fF57 := F57.out w hSw; have fF58 := F58.out w hSw; have fF59 := F59.out w hSw; have fF60 := F60.out w hSw); (try dsimp only [List.getElem_toArray, List.getElem_cons_succ, List.getElem_cons_zero]); go_simp; (refine (callsIn_wide.2 (HTo.out _ _ w)).mono ?_; rintro e w3 ⟨rfl, u3⟩; exact ⟨rfl, hSw.trans u3⟩))
      simp only [Act.put, List.setIfInBounds_toArray]; dsimp only [List.set_cons_zero, List.set_cons_succ]
      replace hCl := hCl'; clear hCl'
      refine T.qTake (i := 57) (d := (some 291)) (v := ((.bool true))) rfl rfl (by as_aux_lemma => kernel_rfl) (by decide) hCl (by as_aux_lemma => kernel_rfl) (by as_aux_lemma => kernel_rfl) (by as_aux_lemma => kernel_rfl) (by rfl) ?hy208 (fun _ _ _ => trivial) (fun hCl' => ?_)
      case hy208 => (intro w hSw; (have fF53 := F53.out w hSw; have fF54 := F54.out w hSw; have fF55 := F55.out w hSw; have fF56 := F56.out w hSw; have fF57 := F57.out w hSw; have fF58 := F58.out w hSw; have fF59 := F59.out w hSw; have fF60 := F60.out w hSw); (try dsimp only [List.getElem_toArray, List.getElem_cons_succ, List.getElem_cons_zero]); go_simp; (refine (callsIn_wide.2 (HWi.out _ _ _ _ w HF.out.2.2.2)).mono ?_; rintro e w3 ⟨rfl, u3⟩; exact ⟨rfl, hSw.trans u3⟩))
      simp only [Act.put, List.setIfInBounds_toArray]; dsimp only [List.set_cons_zero, List.set_cons_succ]
      replace hCl := hCl'; clear hCl'
      refine T.qTake (i := 58) (d := (some 292)) (v := ?v209) rfl rfl (by as_aux_lemma => kernel_rfl) (by decide) hCl (by as_aux_lemma => kernel_rfl) (by as_aux_lemma => kernel_rfl) (by as_aux_lemma => kernel_rfl) (by rfl) ?hy209 (fun _ _ _ => trivial) (fun hCl' => ?_)
      case hy209 => (intro w hSw; refine T.qVal ?_ hSw; (have fF53 := F53.out w hSw; have fF54 := F54.out w hSw; have fF55 := F55.out w hSw; have fF56 := F56.out w hSw; have fF57 := F57.out w hSw; have fF58 := F58.out w hSw; have fF59 := F59.out w hSw; have fF60 := F60.out w hSw); (try dsimp only [List.getElem_toArray, List.getElem_cons_succ, List.getElem_cons_zero]); go_simp; try with_reducible rfl)
      simp only [Act.put, List.setIfInBounds_toArray]; dsimp only [List.set_cons_zero, List.set_cons_succ]
      replace hCl := hCl'; clear hCl'
      refine T.qTake (i := 59) (d := (some 293)) (v := ?v210) rfl rfl (by as_aux_lemma => kernel_rfl) (by decide) hCl (by as_aux_lemma => kernel_rfl) (by as_aux_lemma => kernel_rfl) (by as_aux_lemma => kernel_rfl) (by rfl) ?hy210 (fun _ _ _ => trivial) (fun hCl' => ?_)
      case hy210 => (intro w hSw; refine T.qVal ?_ hSw; (have fF53 := F53.out w hSw; have fF54 := F54.out w hSw; have fF55 := F55.out w hSw; have fF56 := F56.out w hSw; have fF57 := F57.out w hSw; have fF58 := F58.out w hSw; have fF59 := F59.out w hSw; have fF60 := F60.out w hSw); (try dsimp only [List.getElem_toArray, List.getElem_cons_succ, List.getElem_cons_zero]); go_simp; try with_reducible rfl)
      simp only [Act.put, List.setIfInBounds_toArray]; dsimp only [List.set_cons_zero, List.set_cons_succ]
      replace hCl := hCl'; clear hCl'
      refine T.qTake (i := 60) (d := (some 294)) (v := ?v211) rfl rfl (by as_aux_lemma => kernel_rfl) (by decide) hCl (by as_aux_lemma => kernel_rfl) (by as_aux_lemma => kernel_rfl) (by as_aux_lemma => kernel_rfl) (by rfl) ?hy211 (fun _ _ _ => trivial) (fun hCl' => ?_)
      case hy211 => (intro w hSw; refine T.qVal ?_ hSw; (have fF53 := F53.out w hSw; have fF54 := F54.out w hSw; have fF55 := F55.out w hSw; have fF56 := F56.out w hSw; have fF57 := F57.out w hSw; have fF58 := F58.out w hSw; have fF59 := F59.out w hSw; have fF60 := F60.out w hSw); (try dsimp only [List.getElem_toArray, List.getElem_cons_succ, List.getElem_cons_zero]); go_simp; try with_reducible rfl)
      simp only [Act.put, List.setIfInBounds_toArray]; dsimp only [List.set_cons_zero, List.set_cons_succ]
      replace hCl := hCl'; clear hCl'
      refine T.qTake (i := 61) (d := (some 295)) (v := ?v212) rfl rfl (by as_aux_lemma => kernel_rfl) (by decide) hCl (by as_aux_lemma => kernel_rfl) (by as_aux_lemma => kernel_rfl) (by as_aux_lemma => kernel_rfl) (by rfl) ?hy212 (fun _ _ _ => trivial) (fun hCl' => ?_)
      case hy212 => (intro w hSw; refine T.qVal ?_ hSw; (have fF53 := F53.out w hSw; have fF54 := F54.out w hSw; have fF55 := F55.out w hSw; have fF56 := F56.out w hSw; have fF57 := F57.out w hSw; have fF58 := F58.out w hSw; have fF59 := F59.out w hSw; have fF60 := F60.out w hSw); (try dsimp only [List.getElem_toArray, List.getElem_cons_succ, List.getElem_cons_zero]); go_simp; try with_reducible rfl)
      simp only [Act.put, List.setIfInBounds_toArray]; dsimp only [List.set_cons_zero, List.set_cons_succ]
      replace hCl := hCl'; clear hCl'
      refine T.qTake (i := 62) (d := (some 296)) (v := ((.bool (!ehg)))) rfl rfl (by as_aux_lemma => kernel_rfl) (by decide) hCl (by as_aux_lemma => kernel_rfl) (by as_aux_lemma => kernel_rfl) (by as_aux_lemma => kernel_rfl) (by rfl) ?hy213 (fun _ _ _ => trivial) (fun hCl' => ?_)
      case hy213 => (intro w hSw; (have fF53 := F53.out w hSw; have fF54 := F54.out w hSw; have fF55 := F55.out w hSw; have fF56 := F56.out w hSw; have fF57 := F57.out w hSw; have fF58 := F58.out w hSw; have fF59 := F59.out w hSw; have fF60 := F60.out w hSw); (try dsimp only [List.getElem_toArray, List.getElem_cons_succ, List.getElem_cons_zero]); refine T.qVal ?_ hSw; go_simp; simp only [bne, hhg])
      simp only [Act.put, List.setIfInBounds_toArray]; dsimp only [List.set_cons_zero, List.set_cons_succ]
      replace hCl := hCl'; clear hCl'
      refine T.qTake (i := 63) (d := (some 297)) (v := ?v214) rfl rfl (by as_aux_lemma => kernel_rfl) (by decide) hCl (by as_aux_lemma => kernel_rfl) (by as_aux_lemma => kernel_rfl) (by as_aux_lemma => kernel_rfl) (by rfl) ?hy214 (fun _ _ _ => trivial) (fun hCl' => ?_)
      case hy214 => (intro w hSw; refine T.qVal ?_ hSw; (have fF53 := F53.out w hSw; have fF54 := F54.out w hSw; have fF55 := F55.out w hSw; have fF56 := F56.out w hSw; have fF57 := F57.out w hSw; have fF58 := F58.out w hSw; have fF59 := F59.out w hSw; have fF60 := F60.out w hSw); (try dsimp only [List.getElem_toArray, List.getElem_cons_succ, List.getElem_cons_zero]); go_simp; try with_reducible rfl)
      simp only [Act.put, List.setIfInBounds_toArray]; dsimp only [List.set_cons_zero, List.set_cons_succ]
      replace hCl := hCl'; clear hCl'
      refine T.qMay (ehg) (i := 64) (d := (some 298)) (v := ((SpV lp hp))) rfl rfl (by as_aux_lemma => kernel_rfl) (by decide) hCl (by as_aux_lemma => kernel_rfl) (by as_aux_lemma => kernel_rfl) (by as_aux_lemma => kernel_rfl) (by first | rfl | (generalize (ehg) = bb; cases bb <;> rfl)) ?hy215 (fun _ _ _ => trivial) (fun u298 hu298 hCl' => ?_)
      case hy215 => (intro hb w hSw; (have fF53 := F53.out w hSw; have fF54 := F54.out w hSw; have fF55 := F55.out w hSw; have fF56 := F56.out w hSw; have fF57 := F57.out w hSw; have fF58 := F58.out w hSw; have fF59 := F59.out w hSw; have fF60 := F60.out w hSw); (try dsimp only [List.getElem_toArray, List.getElem_cons_succ, List.getElem_cons_zero]); refine T.qVal ?_ hSw; go_simp)
      simp only [Act.put, List.setIfInBounds_toArray]; dsimp only [List.set_cons_zero, List.set_cons_succ]
      replace hCl := hCl'; clear hCl'
      refine T.qMay (ehg) (i := 65) (d := (some 299)) (v := ((SpV 0 0))) rfl rfl (by as_aux_lemma => kernel_rfl) (by decide) hCl (by as_aux_lemma => kernel_rfl) (by as_aux_lemma => kernel_rfl) (by as_aux_lemma => kernel_rfl) (by first | rfl | (generalize (ehg) = bb; cases bb <;> rfl)) ?hy216 (fun _ _ _ => trivial) (fun u299 hu299 hCl' => ?_)
      case hy216 => (intro hb w hSw; (have fF53 := F53.out w hSw; have fF54 := F54.out w hSw; have fF55 := F55.out w hSw; have fF56 := F56.out w hSw; have fF57 := F57.out w hSw; have fF58 := F58.out w hSw; have fF59 := F59.out w hSw; have fF60 := F60.out w hSw); (try dsimp only [List.getElem_toArray, List.getElem_cons_succ, List.getElem_cons_zero]); go_simp; refine (callsIn_wide.2 (HTo.out 0 0 w)).mono ?_; rintro e w3 ⟨rfl, u3⟩; exact ⟨rfl, hSw.trans u3⟩)
      simp only [Act.put, List.setIfInBounds_toArray]; dsimp only [List.set_cons_zero, List.set_cons_succ]
      replace hCl := hCl'; clear hCl'
      refine T.qMay (ehg) (i := 66) (d := (some 300)) (v := ((.bool true))) rfl rfl (by as_aux_lemma => kernel_rfl) (by decide) hCl (by as_aux_lemma => kernel_rfl) (by as_aux_lemma => kernel_rfl) (by as_aux_lemma => kernel_rfl) (by first | rfl | (generalize (ehg) = bb; cases bb <;> rfl)) ?hy217 (fun _ _ _ => trivial) (fun u300 hu300 hCl' => ?_)
      case hy217 => (intro hb w hSw; (have fF53 := F53.out w hSw; have fF54 := F54.out w hSw; have fF55 := F55.out w hSw; have fF56 := F56.out w hSw; have fF57 := F57.out w hSw; have fF58 := F58.out w hSw; have fF59 := F59.out w hSw; have fF60 := F60.out w hSw); (try dsimp only [List.getElem_toArray, List.getElem_cons_succ, List.getElem_cons_zero]); refine T.qVal ?_ hSw; obtain ⟨rfl, rfl⟩ := hbg hb; rw [hu298 hb, hu299 hb]; go_simp)
      simp only [Act.put, List.setIfInBounds_toArray]; dsimp only [List.set_cons_zero, List.set_cons_succ]
      replace hCl := hCl'; clear hCl'
      refine T.qTake (i := 67) (d := (some 301)) (v := ((.bool true))) rfl rfl (by as_aux_lemma => kernel_rfl) (by decide) hCl (by as_aux_lemma => kernel_rfl) (by as_aux_lemma => kernel_rfl) (by as_aux_lemma => kernel_rfl) (by rfl) ?hy218 (fun _ _ _ => trivial) (fun hCl' => ?_)
      case hy218 => (intro w hSw; (have fF53 := F53.out w hSw; have fF54 := F54.out w hSw; have fF55 := F55.out w hSw; have fF56 := F56.out w hSw; have fF57 := F57.out w hSw; have fF58 := F58.out w hSw; have fF59 := F59.out w hSw; have fF60 := F60.out w hSw); (try dsimp only [List.getElem_toArray, List.getElem_cons_succ, List.getElem_cons_zero]); refine T.qVal ?_ hSw; by_cases hb : ehg = true; (rw [hu300 hb, hb]; go_simp); (rw [Bool.not_eq_true] at hb; rw [hb]; go_simp))
      simp only [Act.put, List.setIfInBounds_toArray]; dsimp only [List.set_cons_zero, List.set_cons_succ]
      replace hCl := hCl'; clear hCl'
      refine T.qTake (i := 68) (d := (some 302)) (v := ?v219) rfl rfl (by as_aux_lemma => kernel_rfl) (by decide) hCl (by as_aux_lemma => kernel_rfl) (by as_aux_lemma => kernel_rfl) (by as_aux_lemma => kernel_rfl) (by rfl) ?hy219 (fun _ _ _ => trivial) (fun hCl' => ?_)
      case hy219 => (intro w hSw; refine T.qVal ?_ hSw; (have fF53 := F53.out w hSw; have fF54 := F54.out w hSw; have fF55 := F55.out w hSw; have fF56 := F56.out w hSw; have fF57 := F57.out w hSw; have fF58 := F58.out w hSw; have fF59 := F59.out w hSw; have fF60 := F60.out w hSw); (try dsimp only [List.getElem_toArray, List.getElem_cons_succ, List.getElem_cons_zero]); go_simp; try with_reducible rfl)
      simp only [Act.put, List.setIfInBounds_toArray]; dsimp only [List.set_cons_zero, List.set_cons_succ]
      replace hCl := hCl'; clear hCl'
      refine T.qTake (i := 69) (d := (some 303)) (v := ?v220) rfl rfl (by as_aux_lemma => kernel_rfl) (by decide) hCl (by as_aux_lemma => kernel_rfl) (by as_aux_lemma => kernel_rfl) (by as_aux_lemma => kernel_rfl) (by rfl) ?hy220 (fun _ _ _ => trivial) (fun hCl' => ?_)
      case hy220 => (intro w hSw; refine T.qVal ?_ hSw; (have fF53 := F53.out w hSw; have fF54 := F54.out w hSw; have fF55 := F55.out w hSw; have fF56 := F56.out w hSw; have fF57 := F57.out w hSw; have fF58 := F58.out w hSw; have fF59 := F59.out w hSw; have fF60 := F60.out w hSw); (try dsimp only [List.getElem_toArray, List.getElem_cons_succ, List.getElem_cons_zero]); go_simp; try with_reducible rfl)
      simp only [Act.put, List.setIfInBounds_toArray]; dsimp only [List.set_cons_zero, List.set_cons_succ]
      replace hCl := hCl'; clear hCl'
      refine T.qTake (i := 70) (d := (some 304)) (v := ((.bool true))) rfl rfl (by as_aux_lemma => kernel_rfl) (by decide) hCl (by as_aux_lemma => kernel_rfl) (by as_aux_lemma => kernel_rfl) (by as_aux_lemma => kernel_rfl) (by rfl) ?hy221 (fun _ _ _ => trivial) (fun hCl' => ?_)
      case hy221 => (intro w hSw; (have fF53 := F53.out w hSw; have fF54 := F54.out w hSw; have fF55 := F55.out w hSw; have fF56 := F56.out w hSw; have fF57 := F57.out w hSw; have fF58 := F58.out w hSw; have fF59 := F59.out w hSw; have fF60 := F60.out w hSw); (try dsimp only [List.getElem_toArray, List.getElem_cons_succ, List.getElem_cons_zero]); go_simp; (refine (callsIn_wide.2 (HW.out w)).mono ?_; rintro e w3 ⟨rfl, u3⟩; exact ⟨rfl, hSw.trans u3⟩))
      simp only [Act.put, List.setIfInBounds_toArray]; dsimp only [List.set_cons_zero, List.set_cons_succ]
      replace hCl := hCl'; clear hCl'
      refine T.qTake (i := 71) (d := (some 305)) (v := ?v222) rfl rfl (by as_aux_lemma => kernel_rfl) (by decide) hCl (by as_aux_lemma => kernel_rfl) (by as_aux_lemma => kernel_rfl) (by as_aux_lemma => kernel_rfl) (by rfl) ?hy222 (fun _ _ _ => trivial) (fun hCl' => ?_)
      case hy222 => (intro w hSw; refine T.qVal ?_ hSw; (have fF53 := F53.out w hSw; have fF54 := F54.out w hSw; have fF55 := F55.out w hSw; have fF56 := F56.out w hSw; have fF57 := F57.out w hSw; have fF58 := F58.out w hSw; have fF59 := F59.out w hSw; have fF60 := F60.out w hSw); (try dsimp only [List.getElem_toArray, List.getElem_cons_succ, List.getElem_cons_zero]); go_simp; try with_reducible rfl)
      simp only [Act.put, List.setIfInBounds_toArray]; dsimp only [List.set_cons_zero, List.set_cons_succ]
      replace hCl := hCl'; clear hCl'
      refine T.tail_intro (by as_aux_lemma => kernel_rfl) (fun Y52 hY52 => ?_)
      replace U := U.trans hY52
      replace kC := hY52.blk kC
      replace ks := hY52.blk ks
      replace kt := hY52.blk kt
      replace ka := hY52.blk ka
      replace kb := hY52.blk kb
      replace kc := hY52.blk kc
      replace kd := hY52.blk kd
      replace ku := hY52.blk ku
      clear F53 F54 F55 F56 F57 F58 F59 F60 hY52
      refine lastG (i := 72) (by as_aux_lemma => kernel_rfl) rfl (by rfl) (by decide) (fun K hK => ?_)
      go_simp
      refine hK.out _ _ ?_
      clear hK K
      refine doneG (by as_aux_lemma => kernel_rfl) ?_ _
      refine S.nrm_intro ?_
      clear hbg hhg hu298 hu299 hu300
      go_wp2
      go_ret
      exact ⟨rfl, U⟩
end

end Go.Proofs.Ytoipfakcmnjenaa
