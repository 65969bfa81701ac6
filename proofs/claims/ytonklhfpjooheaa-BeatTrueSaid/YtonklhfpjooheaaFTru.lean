import Derived.Test.YtonklhfpjooheaaWnt
import Derived.Test.YtonklhfpjooheaaFwS
import Derived.Test.YtonklhfpjooheaaWro
import Derived.Test.YtonklhfpjooheaaTeR
import Derived.Test.YtonklhfpjooheaaLsL
import Derived.Test.YtonklhfpjooheaaHeQ
/- The law BeatTrue. -/
namespace Go.Proofs.Ytonklhfpjooheaa
open Go.RowKit Go.Shelf
attribute [local go_sem] Oper.semAt_some

section
variable {aR aO aP : Option Addr} {nR cR nO cO nP cP : Nat} {rs : T.LR} {os : T.LO} {ps : T.LP}
/-- no clock of a cellar that can be true must be wrong -/
theorem Wrong_none {H : Nat} {w : World} (G : T.Good H rs os ps) (hy : ∃ y, T.Tr H rs os ps y) (I : Sps w (.slice aR nR cR) rs) (IO : Ops w (.slice aO nO cO) os) (IP : Prs w (.slice aP nP cP) ps) :
    Calls Try.prog 27 #[ClV H (.slice aR nR cR) (.slice aO nO cO) (.slice aP nP cP)] w fun e w' => (∃ a c, e = .returned (.tuple #[.slice a 0 c, .int .i64 0])) ∧ Up w w' := by
  have hn := I.len
  subst hn
  refine (Wrong_ok I IO IP (fun s => T.web_ok G) (T.valid_good.2 G)).mono ?_
  rintro e w' ⟨⟨v, n, rfl, hc⟩, u⟩
  rcases hc with ⟨s, hs, IW, rfl⟩ | ⟨hs, _, _⟩
  · obtain ⟨p0, _, p2, _⟩ := T.left_some G hs (t := fun _ => false) (fun _ _ => rfl)
    rw [p0] at IW
    obtain ⟨a, c, rfl, _⟩ := IW.is
    rw [p2.2 hy]
    exact ⟨⟨a, c, rfl⟩, u⟩
  · obtain ⟨y, hy⟩ := hy
    exact absurd hy ((T.left_none G hs).1 y)
set_option maxRecDepth 100000 in
set_option maxHeartbeats 8000000 in
set_option linter.unusedSimpArgs false in
theorem beatTrue_any {Hi n0 n1 m2 m3 : Int} {w : World} {vb : Value} {bits : List Int} (I : Sps w (.slice aR nR cR) rs) (IO : Ops w (.slice aO nO cO) os) (IP : Prs w (.slice aP nP cP) ps) (IB : Ints w vb bits) :
    Calls Try.prog 7 #[ClV Hi (.slice aR nR cR) (.slice aO nO cO) (.slice aP nP cP), vb, .agg #[.int .i64 n0, .int .i64 n1, .int .i64 m2, .int .i64 m3]] w fun e w' => e = .returned (.bool true) ∧ Up w w' := by
  have U := ((Up.refl w).alloc (.cells #[.int .i64 Hi, .slice aR nR cR, .slice aO nO cO, .slice aP nP cP] 26)).alloc (.cells #[.int .i64 n0, .int .i64 n1, .int .i64 m2, .int .i64 m3] 52)
  have HW := Lib.hid (fun w => l_works_any w)
  cases hv : T.valid Hi rs os ps with
  | false =>
    have HS := Lib.hid (fun w' (u : Up w w') => l_sound_no (I.up u) (IO.up u) (IP.up u) hv)
    clear hv I IO IP
    go_enter Try.func7, Try.ntmps7
    go_wp2_with fail
    refine (HS.out _ U).mono ?_
    rintro e w1 ⟨rfl, u1⟩
    go_wp2_with fail
    refine (HW.out _).mono ?_
    rintro e w2 ⟨rfl, u2⟩
    go_wp2
    go_ret
    exact ⟨rfl, (U.trans u1).trans u2⟩
  | true =>
    obtain ⟨H, rfl⟩ := T.valid_nat hv
    have G := T.valid_good.1 hv
    have hn := I.len
    subst hn
    have q1 := G.h1
    have q2 := G.h2
    have q3 := G.r1
    have q4 := G.r2
    have HS := Lib.hid (fun w' (u : Up w w') => l_sound_yes (I.up u) (IO.up u) (IP.up u) hv)
    have HN := Lib.hid (fun w' (u : Up w w') => l_went_any G (I.up u) (IO.up u) (IP.up u) (IB.up u))
    have HI := Lib.hid (fun w' (u : Up w w') => I.up u)
    clear hv G I IO IP IB
    have wH : IntKind.i64.wrap ((H : Int) + 1) = (H : Int) + 1 := IntWalk.i64_in _ (by omega)
    have hmx : Try.prog.follows .mixedOrders = true := by kernel_rfl
    have HRk := Lib.hid (fun w => B_Rest_any n0 (rs.length : Int) w (by omega) (by omega))
    have ak := Int.emod_nonneg n0 (b := (rs.length : Int)) (by omega)
    have bk := Int.emod_lt_of_pos n0 (b := (rs.length : Int)) (by omega)
    generalize n0 % (rs.length : Int) = k at *
    obtain ⟨k, rfl⟩ := Int.eq_ofNat_of_zero_le ak
    have HRi := Lib.hid (fun w => B_Rest_any n1 (rs.length : Int) w (by omega) (by omega))
    have ai := Int.emod_nonneg n1 (b := (rs.length : Int)) (by omega)
    have bi := Int.emod_lt_of_pos n1 (b := (rs.length : Int)) (by omega)
    generalize n1 % (rs.length : Int) = i at *
    obtain ⟨i, rfl⟩ := Int.eq_ofNat_of_zero_le ai
    have HRh := Lib.hid (fun w => B_Rest_any m2 ((H : Int) + 1) w (by omega) (by omega))
    have ah := Int.emod_nonneg m2 (b := ((H : Int) + 1)) (by omega)
    have bh := Int.emod_lt_of_pos m2 (b := ((H : Int) + 1)) (by omega)
    generalize m2 % ((H : Int) + 1) = h at *
    obtain ⟨h, rfl⟩ := Int.eq_ofNat_of_zero_le ah
    have HRg := Lib.hid (fun w => B_Rest_any m3 ((H : Int) + 1) w (by omega) (by omega))
    have ag := Int.emod_nonneg m3 (b := ((H : Int) + 1)) (by omega)
    have bg := Int.emod_lt_of_pos m3 (b := ((H : Int) + 1)) (by omega)
    generalize m3 % ((H : Int) + 1) = g at *
    obtain ⟨g, rfl⟩ := Int.eq_ofNat_of_zero_le ag
    go_enter Try.func7, Try.ntmps7
    obtain ⟨q0, e0⟩ : ∃ x, w.heap.size = x := ⟨_, rfl⟩
    have kC := blk_keep (.cells #[.int .i64 n0, .int .i64 n1, .int .i64 m2, .int .i64 m3] 52) (blk_new w (.cells #[.int .i64 H, .slice aR rs.length cR, .slice aO nO cO, .slice aP nP cP] 26) q0 e0.symm)
    have kN := blk_new (w.alloc (.cells #[.int .i64 H, .slice aR rs.length cR, .slice aO nO cO, .slice aP nP cP] 26)) (.cells #[.int .i64 n0, .int .i64 n1, .int .i64 m2, .int .i64 m3] 52) (q0 + 1) (by simp [e0])
    go_wp2_with fail
    refine (HS.out _ U).mono ?_
    rintro e x1 ⟨rfl, u2⟩
    replace U := U.trans u2
    replace kC := u2.blk kC
    replace kN := u2.blk kN
    clear u2 HS
    go_wp2_with fail
    refine (HN.out _ U).mono ?_
    rintro e W1 ⟨⟨aV, a2, a3, nV, cV, n2, c2, n3, c3, rows, d, os', ps', rfl, hR, hO, hP, G', hT, hd⟩, u⟩
    replace U := U.trans u
    replace kC := u.blk kC
    replace kN := u.blk kN
    clear u HN
    have bk' : k < rs.length := by omega
    have bi' : i < rs.length := by omega
    have hI := HI.out _ U
    have ky : ∃ y, T.Tr H rs os' ps' y := ⟨d, hd⟩
    have mk := T.mom_in (n := rs.length) (H := H) (k := (k : Int)) (h := (h : Int)) ⟨ak, bk⟩ ⟨ah, by omega⟩
    have mi := T.mom_in (n := rs.length) (H := H) (k := (i : Int)) (h := (h : Int)) ⟨ai, bi⟩ ⟨ah, by omega⟩
    have mg := T.mom_in (n := rs.length) (H := H) (k := (k : Int)) (h := (g : Int)) ⟨ak, bk⟩ ⟨ag, by omega⟩
    obtain ⟨ls, hs, es, ts⟩ := T.Tells.ex (m1 := ((k : Int), (h : Int))) (m2 := (-1, 0)) G' mk T.mom_0
    obtain ⟨lt, ht, et, tt⟩ := T.Tells.ex (m1 := ((k : Int), (h : Int))) (m2 := ((i : Int), (h : Int))) G' mk mi
    obtain ⟨lu, hu, eu, tu⟩ := T.Tells.ex (m1 := ((k : Int), (g : Int))) (m2 := ((k : Int), (h : Int))) G' mg mk
    obtain rfl := ts.same tt
    obtain rfl := ts.same tu
    obtain rfl : es = 0 := by
      rcases ts.can with ⟨a, _⟩ | ⟨_, _, _, hn⟩
      · exact a
      · exact absurd hd (hn d)
    have CI := Lib.hid (fun w' (u : Up W1 w') => IsTruth_table G' hT hd (hR.up u) (hI.up u) (hO.up u) (hP.up u))
    have Cs := Lib.hid (fun w' (u : Up W1 w') => Offset_tells G' ⟨ak, bk⟩ ⟨ah, (show (h : Int) ≤ H by omega)⟩ ts (hI.up u) (hO.up u) (hP.up u))
    have Ct := Lib.hid (fun w' (u : Up W1 w') => Apart_tells G' ⟨ak, bk⟩ ⟨ai, bi⟩ ⟨ah, (show (h : Int) ≤ H by omega)⟩ tt (hI.up u) (hO.up u) (hP.up u))
    have Cu := Lib.hid (fun w' (u : Up W1 w') => Drift_tells G' ⟨ak, bk⟩ ⟨ah, (show (h : Int) ≤ H by omega)⟩ ⟨ag, (show (g : Int) ≤ H by omega)⟩ tu (hI.up u) (hO.up u) (hP.up u))
    have Cw := Lib.hid (fun w' (u : Up W1 w') => Wrong_none G' ky (hI.up u) (hO.up u) (hP.up u))
    have p1 := ts.yes.1 d hd
    have p2 := tt.yes.1 d hd
    have p3 := tu.yes.1 d hd
    rw [hT.zero] at p1
    have b1 := hd.bd hT.zero mk
    have b2 := hd.bd hT.zero mi
    have b3 := hd.bd hT.zero mg
    have his := hR.is
    rw [hT.len] at his
    obtain ⟨av, cv, eV, c1, c2', hm⟩ := his
    obtain ⟨g1, o1, rfl, gl, hx⟩ := hm (by omega)
    injection eV with e1 e2' e3'
    subst e1 e2' e3'
    obtain ⟨rk, ck, Ik⟩ := hx k (by omega)
    obtain ⟨ri, ci, Ii⟩ := hx i (by omega)
    have hisk := Ik.is
    have hisi := Ii.is
    rw [hT.rowk bk'] at hisk
    rw [hT.rowk bi'] at hisi
    obtain ⟨ak1, ck1, rfl, _, _, hmk⟩ := hisk
    obtain ⟨ai1, ci1, rfl, _, _, hmi⟩ := hisi
    obtain ⟨gk, ok, rfl, gkl, hk1⟩ := hmk (by omega)
    obtain ⟨gi, oi, rfl, gil, hi1⟩ := hmi (by omega)
    have ek := hk1 h (by omega)
    have eg := hk1 g (by omega)
    have ei := hi1 h (by omega)
    rw [hT.val k h bk' (by omega)] at ek
    rw [hT.val k g bk' (by omega)] at eg
    rw [hT.val i h bi' (by omega)] at ei
    obtain ⟨dk, hdk⟩ : ∃ z, d ((k : Int), (h : Int)) = z := ⟨_, rfl⟩
    obtain ⟨di, hdi⟩ : ∃ z, d ((i : Int), (h : Int)) = z := ⟨_, rfl⟩
    obtain ⟨dg, hdg⟩ : ∃ z, d ((k : Int), (g : Int)) = z := ⟨_, rfl⟩
    rw [hdk] at ek p1 p2 p3 b1
    rw [hdi] at ei p2 b2
    rw [hdg] at eg p3 b3
    have HX := Lib.hid (fun w (u : Up W1 w) => And.intro ((u.facts.1 g1 _ gl).trans ck) (And.intro ((u.facts.1 g1 _ gl).trans ci) (And.intro ((u.facts.1 gk _ gkl).trans ek) (And.intro ((u.facts.1 gk _ gkl).trans eg) ((u.facts.1 gi _ gil).trans ei)))))
    have HHs := Lib.hid (fun w => show Calls Try.prog 35 #[SpV ls hs, .int .i64 dk] w fun e w' => e = .returned (.bool true) ∧ Up w w' by rw [← inB_yes (show ls ≤ dk by omega) (show dk ≤ hs by omega)]; exact B_Has_any _ _ _ w)
    have HHt := Lib.hid (fun w => show Calls Try.prog 35 #[SpV lt ht, .int .i64 (dk - di)] w fun e w' => e = .returned (.bool true) ∧ Up w w' by rw [← inB_yes p2.1 p2.2]; exact B_Has_any _ _ _ w)
    have HHu := Lib.hid (fun w => show Calls Try.prog 35 #[SpV lu hu, .int .i64 (dg - dk)] w fun e w' => e = .returned (.bool true) ∧ Up w w' by rw [← inB_yes p3.1 p3.2]; exact B_Has_any _ _ _ w)
    have v1 : IntKind.i64.wrap (dk - di) = dk - di := IntWalk.i64_in _ (by omega)
    have v2 : IntKind.i64.wrap (dg - dk) = dg - dk := IntWalk.i64_in _ (by omega)
    have ik : (k : Int) < (rs.length : Int) := by omega
    have ii : (i : Int) < (rs.length : Int) := by omega
    have ih : (h : Int) < (H : Int) + 1 := by omega
    have ig : (g : Int) < (H : Int) + 1 := by omega
    have Uz := Up.refl W1
    clear ts tt tu hx hmk hmi hk1 hi1 hm ck ci ek eg ei Ik Ii hR hO hP hT hd hI ky mk mi mg hdk hdi hdg p1 p2 p3 G' c1 c2' HI
    have dkCkx := blk_lt kC
    have dkNkx := blk_lt kN
    have gkx := U.size
    have kx := blk_new W1 (.cells #[.int .i64 H, .slice aR rs.length cR, .slice a2 n2 c2, .slice a3 n3 c3] 26) _ rfl
    replace kC := blk_keep (.cells #[.int .i64 H, .slice aR rs.length cR, .slice a2 n2 c2, .slice a3 n3 c3] 26) kC
    replace kN := blk_keep (.cells #[.int .i64 H, .slice aR rs.length cR, .slice a2 n2 c2, .slice a3 n3 c3] 26) kN
    replace U := U.alloc (.cells #[.int .i64 H, .slice aR rs.length cR, .slice a2 n2 c2, .slice a3 n3 c3] 26)
    replace Uz := Uz.alloc (.cells #[.int .i64 H, .slice aR rs.length cR, .slice a2 n2 c2, .slice a3 n3 c3] 26)
    obtain ⟨pkx, hpkx⟩ : ∃ z, W1.heap.size = z := ⟨_, rfl⟩
    obtain ⟨W3, hW3⟩ : ∃ z, W1.alloc (.cells #[.int .i64 H, .slice aR rs.length cR, .slice a2 n2 c2, .slice a3 n3 c3] 26) = z := ⟨_, rfl⟩
    rw [hpkx] at kx dkCkx dkNkx gkx
    rw [hW3] at kx U kC kN Uz
    skip
    go_wp2_with fail
    try rw [hW3]
    try rw [hpkx]
    clear hW3 hpkx
    have F5 := Lib.hid (fun w (u : Up W3 w) => cellB (u.blk kC))
    have F6 := Lib.hid (fun w (u : Up W3 w) => cellB (u.blk kN))
    have F7 := Lib.hid (fun w (u : Up W3 w) => cellB (u.blk kx))
    refine (wpIn_wide (n := 5)).1 ?_
    refine wpIn_nrm ?_
    refine T.regionQ (fun w' => Up W3 w') 13 1 hmx (by kernel_rfl) (by kernel_rfl) ((Up.refl W3).drew) (fun hCl => ?_)
    refine T.qTake (i := 0) (d := (some 33)) (v := ?v1) rfl rfl (by kernel_rfl) (by decide) hCl (by kernel_rfl) (by kernel_rfl) (by kernel_rfl) (by rfl) ?hy1 (fun _ _ _ => trivial) (fun hCl' => ?_)
    case hy1 => (intro w hSw; refine T.qVal ?_ hSw; (have fF5 := F5.out w hSw; have fF6 := F6.out w hSw; have fF7 := F7.out w hSw); (try dsimp only [List.getElem_toArray, List.getElem_cons_succ, List.getElem_cons_zero]); go_simp; try with_reducible rfl)
    simp only [Act.put, List.setIfInBounds_toArray, List.set_cons_zero, List.set_cons_succ]
    replace hCl := hCl'; clear hCl'
    refine T.qTake (i := 2) (d := (some 35)) (v := ?v2) rfl rfl (by kernel_rfl) (by decide) hCl (by kernel_rfl) (by kernel_rfl) (by kernel_rfl) (by rfl) ?hy2 (fun _ _ _ => trivial) (fun hCl' => ?_)
    case hy2 => (intro w hSw; refine T.qVal ?_ hSw; (have fF5 := F5.out w hSw; have fF6 := F6.out w hSw; have fF7 := F7.out w hSw); (try dsimp only [List.getElem_toArray, List.getElem_cons_succ, List.getElem_cons_zero]); go_simp; try with_reducible rfl)
    simp only [Act.put, List.setIfInBounds_toArray, List.set_cons_zero, List.set_cons_succ]
    replace hCl := hCl'; clear hCl'
    refine T.qTake (i := 6) (d := (some 39)) (v := ?v3) rfl rfl (by kernel_rfl) (by decide) hCl (by kernel_rfl) (by kernel_rfl) (by kernel_rfl) (by rfl) ?hy3 (fun _ _ _ => trivial) (fun hCl' => ?_)
    case hy3 => (intro w hSw; refine T.qVal ?_ hSw; (have fF5 := F5.out w hSw; have fF6 := F6.out w hSw; have fF7 := F7.out w hSw); (try dsimp only [List.getElem_toArray, List.getElem_cons_succ, List.getElem_cons_zero]); go_simp; try with_reducible rfl)
    simp only [Act.put, List.setIfInBounds_toArray, List.set_cons_zero, List.set_cons_succ]
    replace hCl := hCl'; clear hCl'
    refine T.qTake (i := 8) (d := (some 41)) (v := ?v4) rfl rfl (by kernel_rfl) (by decide) hCl (by kernel_rfl) (by kernel_rfl) (by kernel_rfl) (by rfl) ?hy4 (fun _ _ _ => trivial) (fun hCl' => ?_)
    case hy4 => (intro w hSw; refine T.qVal ?_ hSw; (have fF5 := F5.out w hSw; have fF6 := F6.out w hSw; have fF7 := F7.out w hSw); (try dsimp only [List.getElem_toArray, List.getElem_cons_succ, List.getElem_cons_zero]); go_simp; try with_reducible rfl)
    simp only [Act.put, List.setIfInBounds_toArray, List.set_cons_zero, List.set_cons_succ]
    replace hCl := hCl'; clear hCl'
    refine T.qTake (i := 1) (d := (some 34)) (v := ?v5) rfl rfl (by kernel_rfl) (by decide) hCl (by kernel_rfl) (by kernel_rfl) (by kernel_rfl) (by rfl) ?hy5 (fun _ _ _ => trivial) (fun hCl' => ?_)
    case hy5 => (intro w hSw; refine T.qVal ?_ hSw; (have fF5 := F5.out w hSw; have fF6 := F6.out w hSw; have fF7 := F7.out w hSw); (try dsimp only [List.getElem_toArray, List.getElem_cons_succ, List.getElem_cons_zero]); go_simp; try with_reducible rfl)
    simp only [Act.put, List.setIfInBounds_toArray, List.set_cons_zero, List.set_cons_succ]
    replace hCl := hCl'; clear hCl'
    refine T.qTake (i := 3) (d := (some 36)) (v := ?v6) rfl rfl (by kernel_rfl) (by decide) hCl (by kernel_rfl) (by kernel_rfl) (by kernel_rfl) (by rfl) ?hy6 (fun _ _ _ => trivial) (fun hCl' => ?_)
    case hy6 => (intro w hSw; refine T.qVal ?_ hSw; (have fF5 := F5.out w hSw; have fF6 := F6.out w hSw; have fF7 := F7.out w hSw); (try dsimp only [List.getElem_toArray, List.getElem_cons_succ, List.getElem_cons_zero]); go_simp; try with_reducible rfl)
    simp only [Act.put, List.setIfInBounds_toArray, List.set_cons_zero, List.set_cons_succ]
    replace hCl := hCl'; clear hCl'
    refine T.qTake (i := 7) (d := (some 40)) (v := ?v7) rfl rfl (by kernel_rfl) (by decide) hCl (by kernel_rfl) (by kernel_rfl) (by kernel_rfl) (by rfl) ?hy7 (fun _ _ _ => trivial) (fun hCl' => ?_)
    case hy7 => (intro w hSw; refine T.qVal ?_ hSw; (have fF5 := F5.out w hSw; have fF6 := F6.out w hSw; have fF7 := F7.out w hSw); (try dsimp only [List.getElem_toArray, List.getElem_cons_succ, List.getElem_cons_zero]); go_simp; try with_reducible rfl)
    simp only [Act.put, List.setIfInBounds_toArray, List.set_cons_zero, List.set_cons_succ]
    replace hCl := hCl'; clear hCl'
    refine T.qTake (i := 9) (d := (some 42)) (v := ?v8) rfl rfl (by kernel_rfl) (by decide) hCl (by kernel_rfl) (by kernel_rfl) (by kernel_rfl) (by rfl) ?hy8 (fun _ _ _ => trivial) (fun hCl' => ?_)
    case hy8 => (intro w hSw; refine T.qVal ?_ hSw; (have fF5 := F5.out w hSw; have fF6 := F6.out w hSw; have fF7 := F7.out w hSw); (try dsimp only [List.getElem_toArray, List.getElem_cons_succ, List.getElem_cons_zero]); go_simp; try with_reducible rfl)
    simp only [Act.put, List.setIfInBounds_toArray, List.set_cons_zero, List.set_cons_succ]
    replace hCl := hCl'; clear hCl'
    refine T.qTake (i := 4) (d := (some 37)) (v := ?v9) rfl rfl (by kernel_rfl) (by decide) hCl (by kernel_rfl) (by kernel_rfl) (by kernel_rfl) (by rfl) ?hy9 (fun _ _ _ => trivial) (fun hCl' => ?_)
    case hy9 => (intro w hSw; refine T.qVal ?_ hSw; (have fF5 := F5.out w hSw; have fF6 := F6.out w hSw; have fF7 := F7.out w hSw); (try dsimp only [List.getElem_toArray, List.getElem_cons_succ, List.getElem_cons_zero]); go_simp; try with_reducible rfl)
    simp only [Act.put, List.setIfInBounds_toArray, List.set_cons_zero, List.set_cons_succ]
    replace hCl := hCl'; clear hCl'
    refine T.qTake (i := 10) (d := (some 43)) (v := ?v10) rfl rfl (by kernel_rfl) (by decide) hCl (by kernel_rfl) (by kernel_rfl) (by kernel_rfl) (by rfl) ?hy10 (fun _ _ _ => trivial) (fun hCl' => ?_)
    case hy10 => (intro w hSw; refine T.qVal ?_ hSw; (have fF5 := F5.out w hSw; have fF6 := F6.out w hSw; have fF7 := F7.out w hSw); (try dsimp only [List.getElem_toArray, List.getElem_cons_succ, List.getElem_cons_zero]); go_simp; try with_reducible rfl)
    simp only [Act.put, List.setIfInBounds_toArray, List.set_cons_zero, List.set_cons_succ]
    replace hCl := hCl'; clear hCl'
    refine T.qTake (i := 5) (d := (some 38)) (v := ((.int .i64 (k : Int)))) rfl rfl (by kernel_rfl) (by decide) hCl (by kernel_rfl) (by kernel_rfl) (by kernel_rfl) (by rfl) ?hy11 (fun _ _ _ => trivial) (fun hCl' => ?_)
    case hy11 => (intro w hSw; (have fF5 := F5.out w hSw; have fF6 := F6.out w hSw; have fF7 := F7.out w hSw); (try dsimp only [List.getElem_toArray, List.getElem_cons_succ, List.getElem_cons_zero]); go_simp; (refine (callsIn_wide.2 (HRk.out w)).mono ?_; rintro e w3 ⟨rfl, rfl⟩; exact ⟨rfl, hSw⟩))
    simp only [Act.put, List.setIfInBounds_toArray, List.set_cons_zero, List.set_cons_succ]
    replace hCl := hCl'; clear hCl'
    refine T.qTake (i := 11) (d := (some 44)) (v := ((.int .i64 (i : Int)))) rfl rfl (by kernel_rfl) (by decide) hCl (by kernel_rfl) (by kernel_rfl) (by kernel_rfl) (by rfl) ?hy12 (fun _ _ _ => trivial) (fun hCl' => ?_)
    case hy12 => (intro w hSw; (have fF5 := F5.out w hSw; have fF6 := F6.out w hSw; have fF7 := F7.out w hSw); (try dsimp only [List.getElem_toArray, List.getElem_cons_succ, List.getElem_cons_zero]); go_simp; (refine (callsIn_wide.2 (HRi.out w)).mono ?_; rintro e w3 ⟨rfl, rfl⟩; exact ⟨rfl, hSw⟩))
    simp only [Act.put, List.setIfInBounds_toArray, List.set_cons_zero, List.set_cons_succ]
    replace hCl := hCl'; clear hCl'
    refine T.qTake (i := 12) (d := (some 9)) (v := ?v13) rfl rfl (by kernel_rfl) (by decide) hCl (by kernel_rfl) (by kernel_rfl) (by kernel_rfl) (by rfl) ?hy13 (fun _ _ _ => trivial) (fun hCl' => ?_)
    case hy13 => (intro w hSw; refine T.qVal ?_ hSw; (have fF5 := F5.out w hSw; have fF6 := F6.out w hSw; have fF7 := F7.out w hSw); (try dsimp only [List.getElem_toArray, List.getElem_cons_succ, List.getElem_cons_zero]); go_simp; try with_reducible rfl)
    simp only [Act.put, List.setIfInBounds_toArray, List.set_cons_zero, List.set_cons_succ]
    replace hCl := hCl'; clear hCl'
    refine T.tail_intro (by kernel_rfl) (fun Y4 hY4 => ?_)
    replace U := U.trans hY4
    replace kC := hY4.blk kC
    replace kN := hY4.blk kN
    replace kx := hY4.blk kx
    replace Uz := Uz.trans hY4
    clear F5 F6 F7 hY4
    refine lastG (i := 13) (by kernel_rfl) rfl (by rfl) (by decide) (fun K hK => ?_)
    go_simp
    refine hK.out _ _ ?_
    clear hK K
    refine doneG (by kernel_rfl) ?_ _
    refine S.nrm_intro ?_
    go_wp2_with fail
    have F9 := Lib.hid (fun w (u : Up Y4 w) => cellB (u.blk kC))
    have F10 := Lib.hid (fun w (u : Up Y4 w) => cellB (u.blk kN))
    have F11 := Lib.hid (fun w (u : Up Y4 w) => cellB (u.blk kx))
    refine (wpIn_wide (n := 5)).1 ?_
    refine wpIn_nrm ?_
    refine T.regionQ (fun w' => Up Y4 w') 13 1 hmx (by kernel_rfl) (by kernel_rfl) ((Up.refl Y4).drew) (fun hCl => ?_)
    refine T.qTake (i := 0) (d := (some 45)) (v := ?v14) rfl rfl (by kernel_rfl) (by decide) hCl (by kernel_rfl) (by kernel_rfl) (by kernel_rfl) (by rfl) ?hy14 (fun _ _ _ => trivial) (fun hCl' => ?_)
    case hy14 => (intro w hSw; refine T.qVal ?_ hSw; (have fF9 := F9.out w hSw; have fF10 := F10.out w hSw; have fF11 := F11.out w hSw); (try dsimp only [List.getElem_toArray, List.getElem_cons_succ, List.getElem_cons_zero]); go_simp; try with_reducible rfl)
    simp only [Act.put, List.setIfInBounds_toArray, List.set_cons_zero, List.set_cons_succ]
    replace hCl := hCl'; clear hCl'
    refine T.qTake (i := 2) (d := (some 47)) (v := ?v15) rfl rfl (by kernel_rfl) (by decide) hCl (by kernel_rfl) (by kernel_rfl) (by kernel_rfl) (by rfl) ?hy15 (fun _ _ _ => trivial) (fun hCl' => ?_)
    case hy15 => (intro w hSw; refine T.qVal ?_ hSw; (have fF9 := F9.out w hSw; have fF10 := F10.out w hSw; have fF11 := F11.out w hSw); (try dsimp only [List.getElem_toArray, List.getElem_cons_succ, List.getElem_cons_zero]); go_simp; try with_reducible rfl)
    simp only [Act.put, List.setIfInBounds_toArray, List.set_cons_zero, List.set_cons_succ]
    replace hCl := hCl'; clear hCl'
    refine T.qTake (i := 6) (d := (some 51)) (v := ?v16) rfl rfl (by kernel_rfl) (by decide) hCl (by kernel_rfl) (by kernel_rfl) (by kernel_rfl) (by rfl) ?hy16 (fun _ _ _ => trivial) (fun hCl' => ?_)
    case hy16 => (intro w hSw; refine T.qVal ?_ hSw; (have fF9 := F9.out w hSw; have fF10 := F10.out w hSw; have fF11 := F11.out w hSw); (try dsimp only [List.getElem_toArray, List.getElem_cons_succ, List.getElem_cons_zero]); go_simp; try with_reducible rfl)
    simp only [Act.put, List.setIfInBounds_toArray, List.set_cons_zero, List.set_cons_succ]
    replace hCl := hCl'; clear hCl'
    refine T.qTake (i := 8) (d := (some 53)) (v := ?v17) rfl rfl (by kernel_rfl) (by decide) hCl (by kernel_rfl) (by kernel_rfl) (by kernel_rfl) (by rfl) ?hy17 (fun _ _ _ => trivial) (fun hCl' => ?_)
    case hy17 => (intro w hSw; refine T.qVal ?_ hSw; (have fF9 := F9.out w hSw; have fF10 := F10.out w hSw; have fF11 := F11.out w hSw); (try dsimp only [List.getElem_toArray, List.getElem_cons_succ, List.getElem_cons_zero]); go_simp; try with_reducible rfl)
    simp only [Act.put, List.setIfInBounds_toArray, List.set_cons_zero, List.set_cons_succ]
    replace hCl := hCl'; clear hCl'
    refine T.qTake (i := 1) (d := (some 46)) (v := ?v18) rfl rfl (by kernel_rfl) (by decide) hCl (by kernel_rfl) (by kernel_rfl) (by kernel_rfl) (by rfl) ?hy18 (fun _ _ _ => trivial) (fun hCl' => ?_)
    case hy18 => (intro w hSw; refine T.qVal ?_ hSw; (have fF9 := F9.out w hSw; have fF10 := F10.out w hSw; have fF11 := F11.out w hSw); (try dsimp only [List.getElem_toArray, List.getElem_cons_succ, List.getElem_cons_zero]); go_simp; try with_reducible rfl)
    simp only [Act.put, List.setIfInBounds_toArray, List.set_cons_zero, List.set_cons_succ]
    replace hCl := hCl'; clear hCl'
    refine T.qTake (i := 3) (d := (some 48)) (v := ?v19) rfl rfl (by kernel_rfl) (by decide) hCl (by kernel_rfl) (by kernel_rfl) (by kernel_rfl) (by rfl) ?hy19 (fun _ _ _ => trivial) (fun hCl' => ?_)
    case hy19 => (intro w hSw; refine T.qVal ?_ hSw; (have fF9 := F9.out w hSw; have fF10 := F10.out w hSw; have fF11 := F11.out w hSw); (try dsimp only [List.getElem_toArray, List.getElem_cons_succ, List.getElem_cons_zero]); go_simp; try with_reducible rfl)
    simp only [Act.put, List.setIfInBounds_toArray, List.set_cons_zero, List.set_cons_succ]
    replace hCl := hCl'; clear hCl'
    refine T.qTake (i := 7) (d := (some 52)) (v := ?v20) rfl rfl (by kernel_rfl) (by decide) hCl (by kernel_rfl) (by kernel_rfl) (by kernel_rfl) (by rfl) ?hy20 (fun _ _ _ => trivial) (fun hCl' => ?_)
    case hy20 => (intro w hSw; refine T.qVal ?_ hSw; (have fF9 := F9.out w hSw; have fF10 := F10.out w hSw; have fF11 := F11.out w hSw); (try dsimp only [List.getElem_toArray, List.getElem_cons_succ, List.getElem_cons_zero]); go_simp; try with_reducible rfl)
    simp only [Act.put, List.setIfInBounds_toArray, List.set_cons_zero, List.set_cons_succ]
    replace hCl := hCl'; clear hCl'
    refine T.qTake (i := 9) (d := (some 54)) (v := ?v21) rfl rfl (by kernel_rfl) (by decide) hCl (by kernel_rfl) (by kernel_rfl) (by kernel_rfl) (by rfl) ?hy21 (fun _ _ _ => trivial) (fun hCl' => ?_)
    case hy21 => (intro w hSw; refine T.qVal ?_ hSw; (have fF9 := F9.out w hSw; have fF10 := F10.out w hSw; have fF11 := F11.out w hSw); (try dsimp only [List.getElem_toArray, List.getElem_cons_succ, List.getElem_cons_zero]); go_simp; try with_reducible rfl)
    simp only [Act.put, List.setIfInBounds_toArray, List.set_cons_zero, List.set_cons_succ]
    replace hCl := hCl'; clear hCl'
    refine T.qTake (i := 4) (d := (some 49)) (v := ?v22) rfl rfl (by kernel_rfl) (by decide) hCl (by kernel_rfl) (by kernel_rfl) (by kernel_rfl) (by rfl) ?hy22 (fun _ _ _ => trivial) (fun hCl' => ?_)
    case hy22 => (intro w hSw; refine T.qVal ?_ hSw; (have fF9 := F9.out w hSw; have fF10 := F10.out w hSw; have fF11 := F11.out w hSw); (try dsimp only [List.getElem_toArray, List.getElem_cons_succ, List.getElem_cons_zero]); go_simp; try with_reducible rfl)
    simp only [Act.put, List.setIfInBounds_toArray, List.set_cons_zero, List.set_cons_succ]
    replace hCl := hCl'; clear hCl'
    refine T.qTake (i := 10) (d := (some 55)) (v := ?v23) rfl rfl (by kernel_rfl) (by decide) hCl (by kernel_rfl) (by kernel_rfl) (by kernel_rfl) (by rfl) ?hy23 (fun _ _ _ => trivial) (fun hCl' => ?_)
    case hy23 => (intro w hSw; refine T.qVal ?_ hSw; (have fF9 := F9.out w hSw; have fF10 := F10.out w hSw; have fF11 := F11.out w hSw); (try dsimp only [List.getElem_toArray, List.getElem_cons_succ, List.getElem_cons_zero]); go_simp; try with_reducible rfl)
    simp only [Act.put, List.setIfInBounds_toArray, List.set_cons_zero, List.set_cons_succ]
    replace hCl := hCl'; clear hCl'
    refine T.qTake (i := 5) (d := (some 50)) (v := ((.int .i64 (h : Int)))) rfl rfl (by kernel_rfl) (by decide) hCl (by kernel_rfl) (by kernel_rfl) (by kernel_rfl) (by rfl) ?hy24 (fun _ _ _ => trivial) (fun hCl' => ?_)
    case hy24 => (intro w hSw; (have fF9 := F9.out w hSw; have fF10 := F10.out w hSw; have fF11 := F11.out w hSw); (try dsimp only [List.getElem_toArray, List.getElem_cons_succ, List.getElem_cons_zero]); go_simp; (refine (callsIn_wide.2 (HRh.out w)).mono ?_; rintro e w3 ⟨rfl, rfl⟩; exact ⟨rfl, hSw⟩))
    simp only [Act.put, List.setIfInBounds_toArray, List.set_cons_zero, List.set_cons_succ]
    replace hCl := hCl'; clear hCl'
    refine T.qTake (i := 11) (d := (some 56)) (v := ((.int .i64 (g : Int)))) rfl rfl (by kernel_rfl) (by decide) hCl (by kernel_rfl) (by kernel_rfl) (by kernel_rfl) (by rfl) ?hy25 (fun _ _ _ => trivial) (fun hCl' => ?_)
    case hy25 => (intro w hSw; (have fF9 := F9.out w hSw; have fF10 := F10.out w hSw; have fF11 := F11.out w hSw); (try dsimp only [List.getElem_toArray, List.getElem_cons_succ, List.getElem_cons_zero]); go_simp; (refine (callsIn_wide.2 (HRg.out w)).mono ?_; rintro e w3 ⟨rfl, rfl⟩; exact ⟨rfl, hSw⟩))
    simp only [Act.put, List.setIfInBounds_toArray, List.set_cons_zero, List.set_cons_succ]
    replace hCl := hCl'; clear hCl'
    refine T.qTake (i := 12) (d := (some 11)) (v := ?v26) rfl rfl (by kernel_rfl) (by decide) hCl (by kernel_rfl) (by kernel_rfl) (by kernel_rfl) (by rfl) ?hy26 (fun _ _ _ => trivial) (fun hCl' => ?_)
    case hy26 => (intro w hSw; refine T.qVal ?_ hSw; (have fF9 := F9.out w hSw; have fF10 := F10.out w hSw; have fF11 := F11.out w hSw); (try dsimp only [List.getElem_toArray, List.getElem_cons_succ, List.getElem_cons_zero]); go_simp; try with_reducible rfl)
    simp only [Act.put, List.setIfInBounds_toArray, List.set_cons_zero, List.set_cons_succ]
    replace hCl := hCl'; clear hCl'
    refine T.tail_intro (by kernel_rfl) (fun Y8 hY8 => ?_)
    replace U := U.trans hY8
    replace kC := hY8.blk kC
    replace kN := hY8.blk kN
    replace kx := hY8.blk kx
    replace Uz := Uz.trans hY8
    clear F9 F10 F11 hY8
    refine lastG (i := 13) (by kernel_rfl) rfl (by rfl) (by decide) (fun K hK => ?_)
    go_simp
    refine hK.out _ _ ?_
    clear hK K
    refine doneG (by kernel_rfl) ?_ _
    refine S.nrm_intro ?_
    clear HRi HRk HRh HRg wH
    clear kN kC
    go_wp2_with fail
    refine (CI.out _ Uz).mono ?_
    rintro e x12 ⟨rfl, u13⟩
    replace U := U.trans u13
    replace kx := u13.blk kx
    replace Uz := Uz.trans u13
    clear u13 
    go_wp2_with fail
    refine (Cs.out _ Uz).mono ?_
    rintro e x14 ⟨rfl, u15⟩
    replace U := U.trans u15
    replace kx := u15.blk kx
    replace Uz := Uz.trans u15
    clear u15 
    have dkxks := blk_lt kx
    have gks := U.size
    have ks := blk_new x14 (.cells #[.int .i64 ls, .int .i64 hs] 34) _ rfl
    replace kx := blk_keep (.cells #[.int .i64 ls, .int .i64 hs] 34) kx
    replace U := U.alloc (.cells #[.int .i64 ls, .int .i64 hs] 34)
    replace Uz := Uz.alloc (.cells #[.int .i64 ls, .int .i64 hs] 34)
    obtain ⟨pks, hpks⟩ : ∃ z, x14.heap.size = z := ⟨_, rfl⟩
    obtain ⟨W16, hW16⟩ : ∃ z, x14.alloc (.cells #[.int .i64 ls, .int .i64 hs] 34) = z := ⟨_, rfl⟩
    rw [hpks] at ks dkxks gks
    rw [hW16] at ks U kx Uz
    go_wp2_with fail
    clear hpks hW16
    refine (Ct.out _ Uz).mono ?_
    rintro e x17 ⟨rfl, u18⟩
    replace U := U.trans u18
    replace kx := u18.blk kx
    replace ks := u18.blk ks
    replace Uz := Uz.trans u18
    clear u18 
    have dkxkt := blk_lt kx
    have dkskt := blk_lt ks
    have gkt := U.size
    have kt := blk_new x17 (.cells #[.int .i64 lt, .int .i64 ht] 34) _ rfl
    replace kx := blk_keep (.cells #[.int .i64 lt, .int .i64 ht] 34) kx
    replace ks := blk_keep (.cells #[.int .i64 lt, .int .i64 ht] 34) ks
    replace U := U.alloc (.cells #[.int .i64 lt, .int .i64 ht] 34)
    replace Uz := Uz.alloc (.cells #[.int .i64 lt, .int .i64 ht] 34)
    obtain ⟨pkt, hpkt⟩ : ∃ z, x17.heap.size = z := ⟨_, rfl⟩
    obtain ⟨W19, hW19⟩ : ∃ z, x17.alloc (.cells #[.int .i64 lt, .int .i64 ht] 34) = z := ⟨_, rfl⟩
    rw [hpkt] at kt dkxkt dkskt gkt
    rw [hW19] at kt U kx ks Uz
    go_wp2_with fail
    clear hpkt hW19
    refine (Cu.out _ Uz).mono ?_
    rintro e x20 ⟨rfl, u21⟩
    replace U := U.trans u21
    replace kx := u21.blk kx
    replace ks := u21.blk ks
    replace kt := u21.blk kt
    replace Uz := Uz.trans u21
    clear u21 
    have dkxku := blk_lt kx
    have dksku := blk_lt ks
    have dktku := blk_lt kt
    have gku := U.size
    have ku := blk_new x20 (.cells #[.int .i64 lu, .int .i64 hu] 34) _ rfl
    replace kx := blk_keep (.cells #[.int .i64 lu, .int .i64 hu] 34) kx
    replace ks := blk_keep (.cells #[.int .i64 lu, .int .i64 hu] 34) ks
    replace kt := blk_keep (.cells #[.int .i64 lu, .int .i64 hu] 34) kt
    replace U := U.alloc (.cells #[.int .i64 lu, .int .i64 hu] 34)
    replace Uz := Uz.alloc (.cells #[.int .i64 lu, .int .i64 hu] 34)
    obtain ⟨pku, hpku⟩ : ∃ z, x20.heap.size = z := ⟨_, rfl⟩
    obtain ⟨W22, hW22⟩ : ∃ z, x20.alloc (.cells #[.int .i64 lu, .int .i64 hu] 34) = z := ⟨_, rfl⟩
    rw [hpku] at ku dkxku dksku dktku gku
    rw [hW22] at ku U kx ks kt Uz
    go_wp2_with fail
    clear hpku hW22
    refine (Cw.out _ Uz).mono ?_
    rintro e xw ⟨⟨aw, cw, rfl⟩, u⟩
    replace U := U.trans u
    replace kx := u.blk kx
    replace ks := u.blk ks
    replace kt := u.blk kt
    replace ku := u.blk ku
    replace Uz := Uz.trans u
    clear u Cw Cu Ct Cs CI
    go_wp2_with fail
    have F24 := Lib.hid (fun w (u : Up xw w) => cellB (u.blk kx))
    have F25 := Lib.hid (fun w (u : Up xw w) => cellB (u.blk ks))
    have F26 := Lib.hid (fun w (u : Up xw w) => cellB (u.blk kt))
    have F27 := Lib.hid (fun w (u : Up xw w) => cellB (u.blk ku))
    refine (wpIn_wide (n := 5)).1 ?_
    refine wpIn_nrm ?_
    refine T.regionQ (fun w' => Up xw w') 78 1 hmx (by kernel_rfl) (by kernel_rfl) ((Up.refl xw).drew) (fun hCl => ?_)
    refine T.qTake (i := 0) (d := (some 91)) (v := ?v27) rfl rfl (by kernel_rfl) (by decide) hCl (by kernel_rfl) (by kernel_rfl) (by kernel_rfl) (by rfl) ?hy27 (fun _ _ _ => trivial) (fun hCl' => ?_)
    case hy27 => (intro w hSw; refine T.qVal ?_ hSw; (have fF24 := F24.out w hSw; have fF25 := F25.out w hSw; have fF26 := F26.out w hSw; have fF27 := F27.out w hSw; obtain ⟨z1, z2, z3, z4, z5⟩ := HX.out w (Uz.trans hSw)); (try dsimp only [List.getElem_toArray, List.getElem_cons_succ, List.getElem_cons_zero]); go_simp; try with_reducible rfl)
    simp only [Act.put, List.setIfInBounds_toArray, List.set_cons_zero, List.set_cons_succ]
    replace hCl := hCl'; clear hCl'
    refine T.qTake (i := 1) (d := (some 92)) (v := ?v28) rfl rfl (by kernel_rfl) (by decide) hCl (by kernel_rfl) (by kernel_rfl) (by kernel_rfl) (by rfl) ?hy28 (fun _ _ _ => trivial) (fun hCl' => ?_)
    case hy28 => (intro w hSw; refine T.qVal ?_ hSw; (have fF24 := F24.out w hSw; have fF25 := F25.out w hSw; have fF26 := F26.out w hSw; have fF27 := F27.out w hSw; obtain ⟨z1, z2, z3, z4, z5⟩ := HX.out w (Uz.trans hSw)); (try dsimp only [List.getElem_toArray, List.getElem_cons_succ, List.getElem_cons_zero]); go_simp; try with_reducible rfl)
    simp only [Act.put, List.setIfInBounds_toArray, List.set_cons_zero, List.set_cons_succ]
    replace hCl := hCl'; clear hCl'
    refine T.qTake (i := 2) (d := (some 93)) (v := ?v29) rfl rfl (by kernel_rfl) (by decide) hCl (by kernel_rfl) (by kernel_rfl) (by kernel_rfl) (by rfl) ?hy29 (fun _ _ _ => trivial) (fun hCl' => ?_)
    case hy29 => (intro w hSw; refine T.qVal ?_ hSw; (have fF24 := F24.out w hSw; have fF25 := F25.out w hSw; have fF26 := F26.out w hSw; have fF27 := F27.out w hSw; obtain ⟨z1, z2, z3, z4, z5⟩ := HX.out w (Uz.trans hSw)); (try dsimp only [List.getElem_toArray, List.getElem_cons_succ, List.getElem_cons_zero]); go_simp; try with_reducible rfl)
    simp only [Act.put, List.setIfInBounds_toArray, List.set_cons_zero, List.set_cons_succ]
    replace hCl := hCl'; clear hCl'
    refine T.qTake (i := 3) (d := (some 94)) (v := ?v30) rfl rfl (by kernel_rfl) (by decide) hCl (by kernel_rfl) (by kernel_rfl) (by kernel_rfl) (by rfl) ?hy30 (fun _ _ _ => trivial) (fun hCl' => ?_)
    case hy30 => (intro w hSw; refine T.qVal ?_ hSw; (have fF24 := F24.out w hSw; have fF25 := F25.out w hSw; have fF26 := F26.out w hSw; have fF27 := F27.out w hSw; obtain ⟨z1, z2, z3, z4, z5⟩ := HX.out w (Uz.trans hSw)); (try dsimp only [List.getElem_toArray, List.getElem_cons_succ, List.getElem_cons_zero]); go_simp; try with_reducible rfl)
    simp only [Act.put, List.setIfInBounds_toArray, List.set_cons_zero, List.set_cons_succ]
    replace hCl := hCl'; clear hCl'
    refine T.qTake (i := 4) (d := (some 95)) (v := ?v31) rfl rfl (by kernel_rfl) (by decide) hCl (by kernel_rfl) (by kernel_rfl) (by kernel_rfl) (by rfl) ?hy31 (fun _ _ _ => trivial) (fun hCl' => ?_)
    case hy31 => (intro w hSw; refine T.qVal ?_ hSw; (have fF24 := F24.out w hSw; have fF25 := F25.out w hSw; have fF26 := F26.out w hSw; have fF27 := F27.out w hSw; obtain ⟨z1, z2, z3, z4, z5⟩ := HX.out w (Uz.trans hSw)); (try dsimp only [List.getElem_toArray, List.getElem_cons_succ, List.getElem_cons_zero]); go_simp; try with_reducible rfl)
    simp only [Act.put, List.setIfInBounds_toArray, List.set_cons_zero, List.set_cons_succ]
    replace hCl := hCl'; clear hCl'
    refine T.qTake (i := 5) (d := (some 96)) (v := ?v32) rfl rfl (by kernel_rfl) (by decide) hCl (by kernel_rfl) (by kernel_rfl) (by kernel_rfl) (by rfl) ?hy32 (fun _ _ _ => trivial) (fun hCl' => ?_)
    case hy32 => (intro w hSw; refine T.qVal ?_ hSw; (have fF24 := F24.out w hSw; have fF25 := F25.out w hSw; have fF26 := F26.out w hSw; have fF27 := F27.out w hSw; obtain ⟨z1, z2, z3, z4, z5⟩ := HX.out w (Uz.trans hSw)); (try dsimp only [List.getElem_toArray, List.getElem_cons_succ, List.getElem_cons_zero]); go_simp; try with_reducible rfl)
    simp only [Act.put, List.setIfInBounds_toArray, List.set_cons_zero, List.set_cons_succ]
    replace hCl := hCl'; clear hCl'
    refine T.qTake (i := 6) (d := (some 97)) (v := ?v33) rfl rfl (by kernel_rfl) (by decide) hCl (by kernel_rfl) (by kernel_rfl) (by kernel_rfl) (by rfl) ?hy33 (fun _ _ _ => trivial) (fun hCl' => ?_)
    case hy33 => (intro w hSw; refine T.qVal ?_ hSw; (have fF24 := F24.out w hSw; have fF25 := F25.out w hSw; have fF26 := F26.out w hSw; have fF27 := F27.out w hSw; obtain ⟨z1, z2, z3, z4, z5⟩ := HX.out w (Uz.trans hSw)); (try dsimp only [List.getElem_toArray, List.getElem_cons_succ, List.getElem_cons_zero]); go_simp; try with_reducible rfl)
    simp only [Act.put, List.setIfInBounds_toArray, List.set_cons_zero, List.set_cons_succ]
    replace hCl := hCl'; clear hCl'
    refine T.qTake (i := 7) (d := (some 98)) (v := ?v34) rfl rfl (by kernel_rfl) (by decide) hCl (by kernel_rfl) (by kernel_rfl) (by kernel_rfl) (by rfl) ?hy34 (fun _ _ _ => trivial) (fun hCl' => ?_)
    case hy34 => (intro w hSw; refine T.qVal ?_ hSw; (have fF24 := F24.out w hSw; have fF25 := F25.out w hSw; have fF26 := F26.out w hSw; have fF27 := F27.out w hSw; obtain ⟨z1, z2, z3, z4, z5⟩ := HX.out w (Uz.trans hSw)); (try dsimp only [List.getElem_toArray, List.getElem_cons_succ, List.getElem_cons_zero]); go_simp; try with_reducible rfl)
    simp only [Act.put, List.setIfInBounds_toArray, List.set_cons_zero, List.set_cons_succ]
    replace hCl := hCl'; clear hCl'
    refine T.qTake (i := 8) (d := (some 99)) (v := ?v35) rfl rfl (by kernel_rfl) (by decide) hCl (by kernel_rfl) (by kernel_rfl) (by kernel_rfl) (by rfl) ?hy35 (fun _ _ _ => trivial) (fun hCl' => ?_)
    case hy35 => (intro w hSw; refine T.qVal ?_ hSw; (have fF24 := F24.out w hSw; have fF25 := F25.out w hSw; have fF26 := F26.out w hSw; have fF27 := F27.out w hSw; obtain ⟨z1, z2, z3, z4, z5⟩ := HX.out w (Uz.trans hSw)); (try dsimp only [List.getElem_toArray, List.getElem_cons_succ, List.getElem_cons_zero]); go_simp; try with_reducible rfl)
    simp only [Act.put, List.setIfInBounds_toArray, List.set_cons_zero, List.set_cons_succ]
    replace hCl := hCl'; clear hCl'
    refine T.qTake (i := 9) (d := (some 100)) (v := ?v36) rfl rfl (by kernel_rfl) (by decide) hCl (by kernel_rfl) (by kernel_rfl) (by kernel_rfl) (by rfl) ?hy36 (fun _ _ _ => trivial) (fun hCl' => ?_)
    case hy36 => (intro w hSw; refine T.qVal ?_ hSw; (have fF24 := F24.out w hSw; have fF25 := F25.out w hSw; have fF26 := F26.out w hSw; have fF27 := F27.out w hSw; obtain ⟨z1, z2, z3, z4, z5⟩ := HX.out w (Uz.trans hSw)); (try dsimp only [List.getElem_toArray, List.getElem_cons_succ, List.getElem_cons_zero]); go_simp; try with_reducible rfl)
    simp only [Act.put, List.setIfInBounds_toArray, List.set_cons_zero, List.set_cons_succ]
    replace hCl := hCl'; clear hCl'
    refine T.qTake (i := 10) (d := (some 101)) (v := ?v37) rfl rfl (by kernel_rfl) (by decide) hCl (by kernel_rfl) (by kernel_rfl) (by kernel_rfl) (by rfl) ?hy37 (fun _ _ _ => trivial) (fun hCl' => ?_)
    case hy37 => (intro w hSw; refine T.qVal ?_ hSw; (have fF24 := F24.out w hSw; have fF25 := F25.out w hSw; have fF26 := F26.out w hSw; have fF27 := F27.out w hSw; obtain ⟨z1, z2, z3, z4, z5⟩ := HX.out w (Uz.trans hSw)); (try dsimp only [List.getElem_toArray, List.getElem_cons_succ, List.getElem_cons_zero]); go_simp; try with_reducible rfl)
    simp only [Act.put, List.setIfInBounds_toArray, List.set_cons_zero, List.set_cons_succ]
    replace hCl := hCl'; clear hCl'
    refine T.qTake (i := 11) (d := (some 102)) (v := ?v38) rfl rfl (by kernel_rfl) (by decide) hCl (by kernel_rfl) (by kernel_rfl) (by kernel_rfl) (by rfl) ?hy38 (fun _ _ _ => trivial) (fun hCl' => ?_)
    case hy38 => (intro w hSw; refine T.qVal ?_ hSw; (have fF24 := F24.out w hSw; have fF25 := F25.out w hSw; have fF26 := F26.out w hSw; have fF27 := F27.out w hSw; obtain ⟨z1, z2, z3, z4, z5⟩ := HX.out w (Uz.trans hSw)); (try dsimp only [List.getElem_toArray, List.getElem_cons_succ, List.getElem_cons_zero]); go_simp; try with_reducible rfl)
    simp only [Act.put, List.setIfInBounds_toArray, List.set_cons_zero, List.set_cons_succ]
    replace hCl := hCl'; clear hCl'
    refine T.qTake (i := 12) (d := (some 103)) (v := ?v39) rfl rfl (by kernel_rfl) (by decide) hCl (by kernel_rfl) (by kernel_rfl) (by kernel_rfl) (by rfl) ?hy39 (fun _ _ _ => trivial) (fun hCl' => ?_)
    case hy39 => (intro w hSw; refine T.qVal ?_ hSw; (have fF24 := F24.out w hSw; have fF25 := F25.out w hSw; have fF26 := F26.out w hSw; have fF27 := F27.out w hSw; obtain ⟨z1, z2, z3, z4, z5⟩ := HX.out w (Uz.trans hSw)); (try dsimp only [List.getElem_toArray, List.getElem_cons_succ, List.getElem_cons_zero]); go_simp; try with_reducible rfl)
    simp only [Act.put, List.setIfInBounds_toArray, List.set_cons_zero, List.set_cons_succ]
    replace hCl := hCl'; clear hCl'
    refine T.qTake (i := 13) (d := (some 104)) (v := ?v40) rfl rfl (by kernel_rfl) (by decide) hCl (by kernel_rfl) (by kernel_rfl) (by kernel_rfl) (by rfl) ?hy40 (fun _ _ _ => trivial) (fun hCl' => ?_)
    case hy40 => (intro w hSw; refine T.qVal ?_ hSw; (have fF24 := F24.out w hSw; have fF25 := F25.out w hSw; have fF26 := F26.out w hSw; have fF27 := F27.out w hSw; obtain ⟨z1, z2, z3, z4, z5⟩ := HX.out w (Uz.trans hSw)); (try dsimp only [List.getElem_toArray, List.getElem_cons_succ, List.getElem_cons_zero]); go_simp; try with_reducible rfl)
    simp only [Act.put, List.setIfInBounds_toArray, List.set_cons_zero, List.set_cons_succ]
    replace hCl := hCl'; clear hCl'
    refine T.qTake (i := 14) (d := (some 105)) (v := ?v41) rfl rfl (by kernel_rfl) (by decide) hCl (by kernel_rfl) (by kernel_rfl) (by kernel_rfl) (by rfl) ?hy41 (fun _ _ _ => trivial) (fun hCl' => ?_)
    case hy41 => (intro w hSw; refine T.qVal ?_ hSw; (have fF24 := F24.out w hSw; have fF25 := F25.out w hSw; have fF26 := F26.out w hSw; have fF27 := F27.out w hSw; obtain ⟨z1, z2, z3, z4, z5⟩ := HX.out w (Uz.trans hSw)); (try dsimp only [List.getElem_toArray, List.getElem_cons_succ, List.getElem_cons_zero]); go_simp; try with_reducible rfl)
    simp only [Act.put, List.setIfInBounds_toArray, List.set_cons_zero, List.set_cons_succ]
    replace hCl := hCl'; clear hCl'
    refine T.qTake (i := 15) (d := (some 106)) (v := ?v42) rfl rfl (by kernel_rfl) (by decide) hCl (by kernel_rfl) (by kernel_rfl) (by kernel_rfl) (by rfl) ?hy42 (fun _ _ _ => trivial) (fun hCl' => ?_)
    case hy42 => (intro w hSw; refine T.qVal ?_ hSw; (have fF24 := F24.out w hSw; have fF25 := F25.out w hSw; have fF26 := F26.out w hSw; have fF27 := F27.out w hSw; obtain ⟨z1, z2, z3, z4, z5⟩ := HX.out w (Uz.trans hSw)); (try dsimp only [List.getElem_toArray, List.getElem_cons_succ, List.getElem_cons_zero]); go_simp; try with_reducible rfl)
    simp only [Act.put, List.setIfInBounds_toArray, List.set_cons_zero, List.set_cons_succ]
    replace hCl := hCl'; clear hCl'
    refine T.qTake (i := 16) (d := (some 107)) (v := ?v43) rfl rfl (by kernel_rfl) (by decide) hCl (by kernel_rfl) (by kernel_rfl) (by kernel_rfl) (by rfl) ?hy43 (fun _ _ _ => trivial) (fun hCl' => ?_)
    case hy43 => (intro w hSw; refine T.qVal ?_ hSw; (have fF24 := F24.out w hSw; have fF25 := F25.out w hSw; have fF26 := F26.out w hSw; have fF27 := F27.out w hSw; obtain ⟨z1, z2, z3, z4, z5⟩ := HX.out w (Uz.trans hSw)); (try dsimp only [List.getElem_toArray, List.getElem_cons_succ, List.getElem_cons_zero]); go_simp; try with_reducible rfl)
    simp only [Act.put, List.setIfInBounds_toArray, List.set_cons_zero, List.set_cons_succ]
    replace hCl := hCl'; clear hCl'
    refine T.qTake (i := 17) (d := (some 108)) (v := ?v44) rfl rfl (by kernel_rfl) (by decide) hCl (by kernel_rfl) (by kernel_rfl) (by kernel_rfl) (by rfl) ?hy44 (fun _ _ _ => trivial) (fun hCl' => ?_)
    case hy44 => (intro w hSw; refine T.qVal ?_ hSw; (have fF24 := F24.out w hSw; have fF25 := F25.out w hSw; have fF26 := F26.out w hSw; have fF27 := F27.out w hSw; obtain ⟨z1, z2, z3, z4, z5⟩ := HX.out w (Uz.trans hSw)); (try dsimp only [List.getElem_toArray, List.getElem_cons_succ, List.getElem_cons_zero]); go_simp; try with_reducible rfl)
    simp only [Act.put, List.setIfInBounds_toArray, List.set_cons_zero, List.set_cons_succ]
    replace hCl := hCl'; clear hCl'
    refine T.qTake (i := 18) (d := (some 109)) (v := ?v45) rfl rfl (by kernel_rfl) (by decide) hCl (by kernel_rfl) (by kernel_rfl) (by kernel_rfl) (by rfl) ?hy45 (fun _ _ _ => trivial) (fun hCl' => ?_)
    case hy45 => (intro w hSw; refine T.qVal ?_ hSw; (have fF24 := F24.out w hSw; have fF25 := F25.out w hSw; have fF26 := F26.out w hSw; have fF27 := F27.out w hSw; obtain ⟨z1, z2, z3, z4, z5⟩ := HX.out w (Uz.trans hSw)); (try dsimp only [List.getElem_toArray, List.getElem_cons_succ, List.getElem_cons_zero]); go_simp; try with_reducible rfl)
    simp only [Act.put, List.setIfInBounds_toArray, List.set_cons_zero, List.set_cons_succ]
    replace hCl := hCl'; clear hCl'
    refine T.qTake (i := 19) (d := (some 110)) (v := ?v46) rfl rfl (by kernel_rfl) (by decide) hCl (by kernel_rfl) (by kernel_rfl) (by kernel_rfl) (by rfl) ?hy46 (fun _ _ _ => trivial) (fun hCl' => ?_)
    case hy46 => (intro w hSw; refine T.qVal ?_ hSw; (have fF24 := F24.out w hSw; have fF25 := F25.out w hSw; have fF26 := F26.out w hSw; have fF27 := F27.out w hSw; obtain ⟨z1, z2, z3, z4, z5⟩ := HX.out w (Uz.trans hSw)); (try dsimp only [List.getElem_toArray, List.getElem_cons_succ, List.getElem_cons_zero]); go_simp; try with_reducible rfl)
    simp only [Act.put, List.setIfInBounds_toArray, List.set_cons_zero, List.set_cons_succ]
    replace hCl := hCl'; clear hCl'
    refine T.qTake (i := 20) (d := (some 111)) (v := ?v47) rfl rfl (by kernel_rfl) (by decide) hCl (by kernel_rfl) (by kernel_rfl) (by kernel_rfl) (by rfl) ?hy47 (fun _ _ _ => trivial) (fun hCl' => ?_)
    case hy47 => (intro w hSw; refine T.qVal ?_ hSw; (have fF24 := F24.out w hSw; have fF25 := F25.out w hSw; have fF26 := F26.out w hSw; have fF27 := F27.out w hSw; obtain ⟨z1, z2, z3, z4, z5⟩ := HX.out w (Uz.trans hSw)); (try dsimp only [List.getElem_toArray, List.getElem_cons_succ, List.getElem_cons_zero]); go_simp; try with_reducible rfl)
    simp only [Act.put, List.setIfInBounds_toArray, List.set_cons_zero, List.set_cons_succ]
    replace hCl := hCl'; clear hCl'
    refine T.qTake (i := 21) (d := (some 112)) (v := ?v48) rfl rfl (by kernel_rfl) (by decide) hCl (by kernel_rfl) (by kernel_rfl) (by kernel_rfl) (by rfl) ?hy48 (fun _ _ _ => trivial) (fun hCl' => ?_)
    case hy48 => (intro w hSw; refine T.qVal ?_ hSw; (have fF24 := F24.out w hSw; have fF25 := F25.out w hSw; have fF26 := F26.out w hSw; have fF27 := F27.out w hSw; obtain ⟨z1, z2, z3, z4, z5⟩ := HX.out w (Uz.trans hSw)); (try dsimp only [List.getElem_toArray, List.getElem_cons_succ, List.getElem_cons_zero]); go_simp; try with_reducible rfl)
    simp only [Act.put, List.setIfInBounds_toArray, List.set_cons_zero, List.set_cons_succ]
    replace hCl := hCl'; clear hCl'
    refine T.qTake (i := 22) (d := (some 113)) (v := ?v49) rfl rfl (by kernel_rfl) (by decide) hCl (by kernel_rfl) (by kernel_rfl) (by kernel_rfl) (by rfl) ?hy49 (fun _ _ _ => trivial) (fun hCl' => ?_)
    case hy49 => (intro w hSw; refine T.qVal ?_ hSw; (have fF24 := F24.out w hSw; have fF25 := F25.out w hSw; have fF26 := F26.out w hSw; have fF27 := F27.out w hSw; obtain ⟨z1, z2, z3, z4, z5⟩ := HX.out w (Uz.trans hSw)); (try dsimp only [List.getElem_toArray, List.getElem_cons_succ, List.getElem_cons_zero]); go_simp; try with_reducible rfl)
    simp only [Act.put, List.setIfInBounds_toArray, List.set_cons_zero, List.set_cons_succ]
    replace hCl := hCl'; clear hCl'
    refine T.qTake (i := 23) (d := (some 114)) (v := ?v50) rfl rfl (by kernel_rfl) (by decide) hCl (by kernel_rfl) (by kernel_rfl) (by kernel_rfl) (by rfl) ?hy50 (fun _ _ _ => trivial) (fun hCl' => ?_)
    case hy50 => (intro w hSw; refine T.qVal ?_ hSw; (have fF24 := F24.out w hSw; have fF25 := F25.out w hSw; have fF26 := F26.out w hSw; have fF27 := F27.out w hSw; obtain ⟨z1, z2, z3, z4, z5⟩ := HX.out w (Uz.trans hSw)); (try dsimp only [List.getElem_toArray, List.getElem_cons_succ, List.getElem_cons_zero]); go_simp; try with_reducible rfl)
    simp only [Act.put, List.setIfInBounds_toArray, List.set_cons_zero, List.set_cons_succ]
    replace hCl := hCl'; clear hCl'
    refine T.qTake (i := 24) (d := (some 115)) (v := ?v51) rfl rfl (by kernel_rfl) (by decide) hCl (by kernel_rfl) (by kernel_rfl) (by kernel_rfl) (by rfl) ?hy51 (fun _ _ _ => trivial) (fun hCl' => ?_)
    case hy51 => (intro w hSw; refine T.qVal ?_ hSw; (have fF24 := F24.out w hSw; have fF25 := F25.out w hSw; have fF26 := F26.out w hSw; have fF27 := F27.out w hSw; obtain ⟨z1, z2, z3, z4, z5⟩ := HX.out w (Uz.trans hSw)); (try dsimp only [List.getElem_toArray, List.getElem_cons_succ, List.getElem_cons_zero]); go_simp; try with_reducible rfl)
    simp only [Act.put, List.setIfInBounds_toArray, List.set_cons_zero, List.set_cons_succ]
    replace hCl := hCl'; clear hCl'
    refine T.qTake (i := 27) (d := (some 118)) (v := ?v52) rfl rfl (by kernel_rfl) (by decide) hCl (by kernel_rfl) (by kernel_rfl) (by kernel_rfl) (by rfl) ?hy52 (fun _ _ _ => trivial) (fun hCl' => ?_)
    case hy52 => (intro w hSw; refine T.qVal ?_ hSw; (have fF24 := F24.out w hSw; have fF25 := F25.out w hSw; have fF26 := F26.out w hSw; have fF27 := F27.out w hSw; obtain ⟨z1, z2, z3, z4, z5⟩ := HX.out w (Uz.trans hSw)); (try dsimp only [List.getElem_toArray, List.getElem_cons_succ, List.getElem_cons_zero]); go_simp; try with_reducible rfl)
    simp only [Act.put, List.setIfInBounds_toArray, List.set_cons_zero, List.set_cons_succ]
    replace hCl := hCl'; clear hCl'
    refine T.qTake (i := 25) (d := (some 116)) (v := ?v53) rfl rfl (by kernel_rfl) (by decide) hCl (by kernel_rfl) (by kernel_rfl) (by kernel_rfl) (by rfl) ?hy53 (fun _ _ _ => trivial) (fun hCl' => ?_)
    case hy53 => (intro w hSw; refine T.qVal ?_ hSw; (have fF24 := F24.out w hSw; have fF25 := F25.out w hSw; have fF26 := F26.out w hSw; have fF27 := F27.out w hSw; obtain ⟨z1, z2, z3, z4, z5⟩ := HX.out w (Uz.trans hSw)); (try dsimp only [List.getElem_toArray, List.getElem_cons_succ, List.getElem_cons_zero]); go_simp; try with_reducible rfl)
    simp only [Act.put, List.setIfInBounds_toArray, List.set_cons_zero, List.set_cons_succ]
    replace hCl := hCl'; clear hCl'
    refine T.qTake (i := 26) (d := (some 117)) (v := ?v54) rfl rfl (by kernel_rfl) (by decide) hCl (by kernel_rfl) (by kernel_rfl) (by kernel_rfl) (by rfl) ?hy54 (fun _ _ _ => trivial) (fun hCl' => ?_)
    case hy54 => (intro w hSw; refine T.qVal ?_ hSw; (have fF24 := F24.out w hSw; have fF25 := F25.out w hSw; have fF26 := F26.out w hSw; have fF27 := F27.out w hSw; obtain ⟨z1, z2, z3, z4, z5⟩ := HX.out w (Uz.trans hSw)); (try dsimp only [List.getElem_toArray, List.getElem_cons_succ, List.getElem_cons_zero]); go_simp; try with_reducible rfl)
    simp only [Act.put, List.setIfInBounds_toArray, List.set_cons_zero, List.set_cons_succ]
    replace hCl := hCl'; clear hCl'
    refine T.qTake (i := 28) (d := (some 119)) (v := ?v55) rfl rfl (by kernel_rfl) (by decide) hCl (by kernel_rfl) (by kernel_rfl) (by kernel_rfl) (by rfl) ?hy55 (fun _ _ _ => trivial) (fun hCl' => ?_)
    case hy55 => (intro w hSw; refine T.qVal ?_ hSw; (have fF24 := F24.out w hSw; have fF25 := F25.out w hSw; have fF26 := F26.out w hSw; have fF27 := F27.out w hSw; obtain ⟨z1, z2, z3, z4, z5⟩ := HX.out w (Uz.trans hSw)); (try dsimp only [List.getElem_toArray, List.getElem_cons_succ, List.getElem_cons_zero]); go_simp; try with_reducible rfl)
    simp only [Act.put, List.setIfInBounds_toArray, List.set_cons_zero, List.set_cons_succ]
    replace hCl := hCl'; clear hCl'
    refine T.qTake (i := 29) (d := (some 120)) (v := ?v56) rfl rfl (by kernel_rfl) (by decide) hCl (by kernel_rfl) (by kernel_rfl) (by kernel_rfl) (by rfl) ?hy56 (fun _ _ _ => trivial) (fun hCl' => ?_)
    case hy56 => (intro w hSw; refine T.qVal ?_ hSw; (have fF24 := F24.out w hSw; have fF25 := F25.out w hSw; have fF26 := F26.out w hSw; have fF27 := F27.out w hSw; obtain ⟨z1, z2, z3, z4, z5⟩ := HX.out w (Uz.trans hSw)); (try dsimp only [List.getElem_toArray, List.getElem_cons_succ, List.getElem_cons_zero]); go_simp; try with_reducible rfl)
    simp only [Act.put, List.setIfInBounds_toArray, List.set_cons_zero, List.set_cons_succ]
    replace hCl := hCl'; clear hCl'
    refine T.qTake (i := 30) (d := (some 121)) (v := ((.bool true))) rfl rfl (by kernel_rfl) (by decide) hCl (by kernel_rfl) (by kernel_rfl) (by kernel_rfl) (by rfl) ?hy57 (fun _ _ _ => trivial) (fun hCl' => ?_)
    case hy57 => (intro w hSw; (have fF24 := F24.out w hSw; have fF25 := F25.out w hSw; have fF26 := F26.out w hSw; have fF27 := F27.out w hSw; obtain ⟨z1, z2, z3, z4, z5⟩ := HX.out w (Uz.trans hSw)); (try dsimp only [List.getElem_toArray, List.getElem_cons_succ, List.getElem_cons_zero]); go_simp; (refine (callsIn_wide.2 (HHs.out w)).mono ?_; rintro e w3 ⟨rfl, u3⟩; exact ⟨rfl, hSw.trans u3⟩))
    simp only [Act.put, List.setIfInBounds_toArray, List.set_cons_zero, List.set_cons_succ]
    replace hCl := hCl'; clear hCl'
    refine T.qTake (i := 31) (d := (some 122)) (v := ?v58) rfl rfl (by kernel_rfl) (by decide) hCl (by kernel_rfl) (by kernel_rfl) (by kernel_rfl) (by rfl) ?hy58 (fun _ _ _ => trivial) (fun hCl' => ?_)
    case hy58 => (intro w hSw; refine T.qVal ?_ hSw; (have fF24 := F24.out w hSw; have fF25 := F25.out w hSw; have fF26 := F26.out w hSw; have fF27 := F27.out w hSw; obtain ⟨z1, z2, z3, z4, z5⟩ := HX.out w (Uz.trans hSw)); (try dsimp only [List.getElem_toArray, List.getElem_cons_succ, List.getElem_cons_zero]); go_simp; try with_reducible rfl)
    simp only [Act.put, List.setIfInBounds_toArray, List.set_cons_zero, List.set_cons_succ]
    replace hCl := hCl'; clear hCl'
    refine T.qTake (i := 32) (d := (some 123)) (v := ?v59) rfl rfl (by kernel_rfl) (by decide) hCl (by kernel_rfl) (by kernel_rfl) (by kernel_rfl) (by rfl) ?hy59 (fun _ _ _ => trivial) (fun hCl' => ?_)
    case hy59 => (intro w hSw; refine T.qVal ?_ hSw; (have fF24 := F24.out w hSw; have fF25 := F25.out w hSw; have fF26 := F26.out w hSw; have fF27 := F27.out w hSw; obtain ⟨z1, z2, z3, z4, z5⟩ := HX.out w (Uz.trans hSw)); (try dsimp only [List.getElem_toArray, List.getElem_cons_succ, List.getElem_cons_zero]); go_simp; try with_reducible rfl)
    simp only [Act.put, List.setIfInBounds_toArray, List.set_cons_zero, List.set_cons_succ]
    replace hCl := hCl'; clear hCl'
    refine T.qTake (i := 33) (d := (some 124)) (v := ?v60) rfl rfl (by kernel_rfl) (by decide) hCl (by kernel_rfl) (by kernel_rfl) (by kernel_rfl) (by rfl) ?hy60 (fun _ _ _ => trivial) (fun hCl' => ?_)
    case hy60 => (intro w hSw; refine T.qVal ?_ hSw; (have fF24 := F24.out w hSw; have fF25 := F25.out w hSw; have fF26 := F26.out w hSw; have fF27 := F27.out w hSw; obtain ⟨z1, z2, z3, z4, z5⟩ := HX.out w (Uz.trans hSw)); (try dsimp only [List.getElem_toArray, List.getElem_cons_succ, List.getElem_cons_zero]); go_simp; try with_reducible rfl)
    simp only [Act.put, List.setIfInBounds_toArray, List.set_cons_zero, List.set_cons_succ]
    replace hCl := hCl'; clear hCl'
    refine T.qTake (i := 34) (d := (some 125)) (v := ?v61) rfl rfl (by kernel_rfl) (by decide) hCl (by kernel_rfl) (by kernel_rfl) (by kernel_rfl) (by rfl) ?hy61 (fun _ _ _ => trivial) (fun hCl' => ?_)
    case hy61 => (intro w hSw; refine T.qVal ?_ hSw; (have fF24 := F24.out w hSw; have fF25 := F25.out w hSw; have fF26 := F26.out w hSw; have fF27 := F27.out w hSw; obtain ⟨z1, z2, z3, z4, z5⟩ := HX.out w (Uz.trans hSw)); (try dsimp only [List.getElem_toArray, List.getElem_cons_succ, List.getElem_cons_zero]); go_simp; try with_reducible rfl)
    simp only [Act.put, List.setIfInBounds_toArray, List.set_cons_zero, List.set_cons_succ]
    replace hCl := hCl'; clear hCl'
    refine T.qTake (i := 35) (d := (some 126)) (v := ?v62) rfl rfl (by kernel_rfl) (by decide) hCl (by kernel_rfl) (by kernel_rfl) (by kernel_rfl) (by rfl) ?hy62 (fun _ _ _ => trivial) (fun hCl' => ?_)
    case hy62 => (intro w hSw; refine T.qVal ?_ hSw; (have fF24 := F24.out w hSw; have fF25 := F25.out w hSw; have fF26 := F26.out w hSw; have fF27 := F27.out w hSw; obtain ⟨z1, z2, z3, z4, z5⟩ := HX.out w (Uz.trans hSw)); (try dsimp only [List.getElem_toArray, List.getElem_cons_succ, List.getElem_cons_zero]); go_simp; try with_reducible rfl)
    simp only [Act.put, List.setIfInBounds_toArray, List.set_cons_zero, List.set_cons_succ]
    replace hCl := hCl'; clear hCl'
    refine T.qTake (i := 38) (d := (some 129)) (v := ?v63) rfl rfl (by kernel_rfl) (by decide) hCl (by kernel_rfl) (by kernel_rfl) (by kernel_rfl) (by rfl) ?hy63 (fun _ _ _ => trivial) (fun hCl' => ?_)
    case hy63 => (intro w hSw; refine T.qVal ?_ hSw; (have fF24 := F24.out w hSw; have fF25 := F25.out w hSw; have fF26 := F26.out w hSw; have fF27 := F27.out w hSw; obtain ⟨z1, z2, z3, z4, z5⟩ := HX.out w (Uz.trans hSw)); (try dsimp only [List.getElem_toArray, List.getElem_cons_succ, List.getElem_cons_zero]); go_simp; try with_reducible rfl)
    simp only [Act.put, List.setIfInBounds_toArray, List.set_cons_zero, List.set_cons_succ]
    replace hCl := hCl'; clear hCl'
    refine T.qTake (i := 41) (d := (some 132)) (v := ?v64) rfl rfl (by kernel_rfl) (by decide) hCl (by kernel_rfl) (by kernel_rfl) (by kernel_rfl) (by rfl) ?hy64 (fun _ _ _ => trivial) (fun hCl' => ?_)
    case hy64 => (intro w hSw; refine T.qVal ?_ hSw; (have fF24 := F24.out w hSw; have fF25 := F25.out w hSw; have fF26 := F26.out w hSw; have fF27 := F27.out w hSw; obtain ⟨z1, z2, z3, z4, z5⟩ := HX.out w (Uz.trans hSw)); (try dsimp only [List.getElem_toArray, List.getElem_cons_succ, List.getElem_cons_zero]); go_simp; try with_reducible rfl)
    simp only [Act.put, List.setIfInBounds_toArray, List.set_cons_zero, List.set_cons_succ]
    replace hCl := hCl'; clear hCl'
    refine T.qTake (i := 42) (d := (some 133)) (v := ?v65) rfl rfl (by kernel_rfl) (by decide) hCl (by kernel_rfl) (by kernel_rfl) (by kernel_rfl) (by rfl) ?hy65 (fun _ _ _ => trivial) (fun hCl' => ?_)
    case hy65 => (intro w hSw; refine T.qVal ?_ hSw; (have fF24 := F24.out w hSw; have fF25 := F25.out w hSw; have fF26 := F26.out w hSw; have fF27 := F27.out w hSw; obtain ⟨z1, z2, z3, z4, z5⟩ := HX.out w (Uz.trans hSw)); (try dsimp only [List.getElem_toArray, List.getElem_cons_succ, List.getElem_cons_zero]); go_simp; try with_reducible rfl)
    simp only [Act.put, List.setIfInBounds_toArray, List.set_cons_zero, List.set_cons_succ]
    replace hCl := hCl'; clear hCl'
    refine T.qTake (i := 45) (d := (some 136)) (v := ?v66) rfl rfl (by kernel_rfl) (by decide) hCl (by kernel_rfl) (by kernel_rfl) (by kernel_rfl) (by rfl) ?hy66 (fun _ _ _ => trivial) (fun hCl' => ?_)
    case hy66 => (intro w hSw; refine T.qVal ?_ hSw; (have fF24 := F24.out w hSw; have fF25 := F25.out w hSw; have fF26 := F26.out w hSw; have fF27 := F27.out w hSw; obtain ⟨z1, z2, z3, z4, z5⟩ := HX.out w (Uz.trans hSw)); (try dsimp only [List.getElem_toArray, List.getElem_cons_succ, List.getElem_cons_zero]); go_simp; try with_reducible rfl)
    simp only [Act.put, List.setIfInBounds_toArray, List.set_cons_zero, List.set_cons_succ]
    replace hCl := hCl'; clear hCl'
    refine T.qTake (i := 36) (d := (some 127)) (v := ?v67) rfl rfl (by kernel_rfl) (by decide) hCl (by kernel_rfl) (by kernel_rfl) (by kernel_rfl) (by rfl) ?hy67 (fun _ _ _ => trivial) (fun hCl' => ?_)
    case hy67 => (intro w hSw; refine T.qVal ?_ hSw; (have fF24 := F24.out w hSw; have fF25 := F25.out w hSw; have fF26 := F26.out w hSw; have fF27 := F27.out w hSw; obtain ⟨z1, z2, z3, z4, z5⟩ := HX.out w (Uz.trans hSw)); (try dsimp only [List.getElem_toArray, List.getElem_cons_succ, List.getElem_cons_zero]); go_simp; try with_reducible rfl)
    simp only [Act.put, List.setIfInBounds_toArray, List.set_cons_zero, List.set_cons_succ]
    replace hCl := hCl'; clear hCl'
    refine T.qTake (i := 43) (d := (some 134)) (v := ?v68) rfl rfl (by kernel_rfl) (by decide) hCl (by kernel_rfl) (by kernel_rfl) (by kernel_rfl) (by rfl) ?hy68 (fun _ _ _ => trivial) (fun hCl' => ?_)
    case hy68 => (intro w hSw; refine T.qVal ?_ hSw; (have fF24 := F24.out w hSw; have fF25 := F25.out w hSw; have fF26 := F26.out w hSw; have fF27 := F27.out w hSw; obtain ⟨z1, z2, z3, z4, z5⟩ := HX.out w (Uz.trans hSw)); (try dsimp only [List.getElem_toArray, List.getElem_cons_succ, List.getElem_cons_zero]); go_simp; try with_reducible rfl)
    simp only [Act.put, List.setIfInBounds_toArray, List.set_cons_zero, List.set_cons_succ]
    replace hCl := hCl'; clear hCl'
    refine T.qTake (i := 37) (d := (some 128)) (v := ?v69) rfl rfl (by kernel_rfl) (by decide) hCl (by kernel_rfl) (by kernel_rfl) (by kernel_rfl) (by rfl) ?hy69 (fun _ _ _ => trivial) (fun hCl' => ?_)
    case hy69 => (intro w hSw; refine T.qVal ?_ hSw; (have fF24 := F24.out w hSw; have fF25 := F25.out w hSw; have fF26 := F26.out w hSw; have fF27 := F27.out w hSw; obtain ⟨z1, z2, z3, z4, z5⟩ := HX.out w (Uz.trans hSw)); (try dsimp only [List.getElem_toArray, List.getElem_cons_succ, List.getElem_cons_zero]); go_simp; try with_reducible rfl)
    simp only [Act.put, List.setIfInBounds_toArray, List.set_cons_zero, List.set_cons_succ]
    replace hCl := hCl'; clear hCl'
    refine T.qTake (i := 44) (d := (some 135)) (v := ?v70) rfl rfl (by kernel_rfl) (by decide) hCl (by kernel_rfl) (by kernel_rfl) (by kernel_rfl) (by rfl) ?hy70 (fun _ _ _ => trivial) (fun hCl' => ?_)
    case hy70 => (intro w hSw; refine T.qVal ?_ hSw; (have fF24 := F24.out w hSw; have fF25 := F25.out w hSw; have fF26 := F26.out w hSw; have fF27 := F27.out w hSw; obtain ⟨z1, z2, z3, z4, z5⟩ := HX.out w (Uz.trans hSw)); (try dsimp only [List.getElem_toArray, List.getElem_cons_succ, List.getElem_cons_zero]); go_simp; try with_reducible rfl)
    simp only [Act.put, List.setIfInBounds_toArray, List.set_cons_zero, List.set_cons_succ]
    replace hCl := hCl'; clear hCl'
    refine T.qTake (i := 39) (d := (some 130)) (v := ?v71) rfl rfl (by kernel_rfl) (by decide) hCl (by kernel_rfl) (by kernel_rfl) (by kernel_rfl) (by rfl) ?hy71 (fun _ _ _ => trivial) (fun hCl' => ?_)
    case hy71 => (intro w hSw; refine T.qVal ?_ hSw; (have fF24 := F24.out w hSw; have fF25 := F25.out w hSw; have fF26 := F26.out w hSw; have fF27 := F27.out w hSw; obtain ⟨z1, z2, z3, z4, z5⟩ := HX.out w (Uz.trans hSw)); (try dsimp only [List.getElem_toArray, List.getElem_cons_succ, List.getElem_cons_zero]); go_simp; try with_reducible rfl)
    simp only [Act.put, List.setIfInBounds_toArray, List.set_cons_zero, List.set_cons_succ]
    replace hCl := hCl'; clear hCl'
    refine T.qTake (i := 46) (d := (some 137)) (v := ?v72) rfl rfl (by kernel_rfl) (by decide) hCl (by kernel_rfl) (by kernel_rfl) (by kernel_rfl) (by rfl) ?hy72 (fun _ _ _ => trivial) (fun hCl' => ?_)
    case hy72 => (intro w hSw; refine T.qVal ?_ hSw; (have fF24 := F24.out w hSw; have fF25 := F25.out w hSw; have fF26 := F26.out w hSw; have fF27 := F27.out w hSw; obtain ⟨z1, z2, z3, z4, z5⟩ := HX.out w (Uz.trans hSw)); (try dsimp only [List.getElem_toArray, List.getElem_cons_succ, List.getElem_cons_zero]); go_simp; try with_reducible rfl)
    simp only [Act.put, List.setIfInBounds_toArray, List.set_cons_zero, List.set_cons_succ]
    replace hCl := hCl'; clear hCl'
    refine T.qTake (i := 40) (d := (some 131)) (v := ?v73) rfl rfl (by kernel_rfl) (by decide) hCl (by kernel_rfl) (by kernel_rfl) (by kernel_rfl) (by rfl) ?hy73 (fun _ _ _ => trivial) (fun hCl' => ?_)
    case hy73 => (intro w hSw; refine T.qVal ?_ hSw; (have fF24 := F24.out w hSw; have fF25 := F25.out w hSw; have fF26 := F26.out w hSw; have fF27 := F27.out w hSw; obtain ⟨z1, z2, z3, z4, z5⟩ := HX.out w (Uz.trans hSw)); (try dsimp only [List.getElem_toArray, List.getElem_cons_succ, List.getElem_cons_zero]); go_simp; try with_reducible rfl)
    simp only [Act.put, List.setIfInBounds_toArray, List.set_cons_zero, List.set_cons_succ]
    replace hCl := hCl'; clear hCl'
    refine T.qTake (i := 47) (d := (some 138)) (v := ?v74) rfl rfl (by kernel_rfl) (by decide) hCl (by kernel_rfl) (by kernel_rfl) (by kernel_rfl) (by rfl) ?hy74 (fun _ _ _ => trivial) (fun hCl' => ?_)
    case hy74 => (intro w hSw; refine T.qVal ?_ hSw; (have fF24 := F24.out w hSw; have fF25 := F25.out w hSw; have fF26 := F26.out w hSw; have fF27 := F27.out w hSw; obtain ⟨z1, z2, z3, z4, z5⟩ := HX.out w (Uz.trans hSw)); (try dsimp only [List.getElem_toArray, List.getElem_cons_succ, List.getElem_cons_zero]); go_simp; try with_reducible rfl)
    simp only [Act.put, List.setIfInBounds_toArray, List.set_cons_zero, List.set_cons_succ]
    replace hCl := hCl'; clear hCl'
    refine T.qTake (i := 48) (d := (some 139)) (v := ?v75) rfl rfl (by kernel_rfl) (by decide) hCl (by kernel_rfl) (by kernel_rfl) (by kernel_rfl) (by rfl) ?hy75 (fun _ _ _ => trivial) (fun hCl' => ?_)
    case hy75 => (intro w hSw; refine T.qVal ?_ hSw; (have fF24 := F24.out w hSw; have fF25 := F25.out w hSw; have fF26 := F26.out w hSw; have fF27 := F27.out w hSw; obtain ⟨z1, z2, z3, z4, z5⟩ := HX.out w (Uz.trans hSw)); (try dsimp only [List.getElem_toArray, List.getElem_cons_succ, List.getElem_cons_zero]); go_simp; try with_reducible rfl)
    simp only [Act.put, List.setIfInBounds_toArray, List.set_cons_zero, List.set_cons_succ]
    replace hCl := hCl'; clear hCl'
    refine T.qTake (i := 49) (d := (some 140)) (v := ((.bool true))) rfl rfl (by kernel_rfl) (by decide) hCl (by kernel_rfl) (by kernel_rfl) (by kernel_rfl) (by rfl) ?hy76 (fun _ _ _ => trivial) (fun hCl' => ?_)
    case hy76 => (intro w hSw; (have fF24 := F24.out w hSw; have fF25 := F25.out w hSw; have fF26 := F26.out w hSw; have fF27 := F27.out w hSw; obtain ⟨z1, z2, z3, z4, z5⟩ := HX.out w (Uz.trans hSw)); (try dsimp only [List.getElem_toArray, List.getElem_cons_succ, List.getElem_cons_zero]); go_simp; (refine (callsIn_wide.2 (HHt.out w)).mono ?_; rintro e w3 ⟨rfl, u3⟩; exact ⟨rfl, hSw.trans u3⟩))
    simp only [Act.put, List.setIfInBounds_toArray, List.set_cons_zero, List.set_cons_succ]
    replace hCl := hCl'; clear hCl'
    refine T.qTake (i := 50) (d := (some 141)) (v := ?v77) rfl rfl (by kernel_rfl) (by decide) hCl (by kernel_rfl) (by kernel_rfl) (by kernel_rfl) (by rfl) ?hy77 (fun _ _ _ => trivial) (fun hCl' => ?_)
    case hy77 => (intro w hSw; refine T.qVal ?_ hSw; (have fF24 := F24.out w hSw; have fF25 := F25.out w hSw; have fF26 := F26.out w hSw; have fF27 := F27.out w hSw; obtain ⟨z1, z2, z3, z4, z5⟩ := HX.out w (Uz.trans hSw)); (try dsimp only [List.getElem_toArray, List.getElem_cons_succ, List.getElem_cons_zero]); go_simp; try with_reducible rfl)
    simp only [Act.put, List.setIfInBounds_toArray, List.set_cons_zero, List.set_cons_succ]
    replace hCl := hCl'; clear hCl'
    refine T.qTake (i := 51) (d := (some 142)) (v := ?v78) rfl rfl (by kernel_rfl) (by decide) hCl (by kernel_rfl) (by kernel_rfl) (by kernel_rfl) (by rfl) ?hy78 (fun _ _ _ => trivial) (fun hCl' => ?_)
    case hy78 => (intro w hSw; refine T.qVal ?_ hSw; (have fF24 := F24.out w hSw; have fF25 := F25.out w hSw; have fF26 := F26.out w hSw; have fF27 := F27.out w hSw; obtain ⟨z1, z2, z3, z4, z5⟩ := HX.out w (Uz.trans hSw)); (try dsimp only [List.getElem_toArray, List.getElem_cons_succ, List.getElem_cons_zero]); go_simp; try with_reducible rfl)
    simp only [Act.put, List.setIfInBounds_toArray, List.set_cons_zero, List.set_cons_succ]
    replace hCl := hCl'; clear hCl'
    refine T.qTake (i := 52) (d := (some 143)) (v := ?v79) rfl rfl (by kernel_rfl) (by decide) hCl (by kernel_rfl) (by kernel_rfl) (by kernel_rfl) (by rfl) ?hy79 (fun _ _ _ => trivial) (fun hCl' => ?_)
    case hy79 => (intro w hSw; refine T.qVal ?_ hSw; (have fF24 := F24.out w hSw; have fF25 := F25.out w hSw; have fF26 := F26.out w hSw; have fF27 := F27.out w hSw; obtain ⟨z1, z2, z3, z4, z5⟩ := HX.out w (Uz.trans hSw)); (try dsimp only [List.getElem_toArray, List.getElem_cons_succ, List.getElem_cons_zero]); go_simp; try with_reducible rfl)
    simp only [Act.put, List.setIfInBounds_toArray, List.set_cons_zero, List.set_cons_succ]
    replace hCl := hCl'; clear hCl'
    refine T.qTake (i := 53) (d := (some 144)) (v := ?v80) rfl rfl (by kernel_rfl) (by decide) hCl (by kernel_rfl) (by kernel_rfl) (by kernel_rfl) (by rfl) ?hy80 (fun _ _ _ => trivial) (fun hCl' => ?_)
    case hy80 => (intro w hSw; refine T.qVal ?_ hSw; (have fF24 := F24.out w hSw; have fF25 := F25.out w hSw; have fF26 := F26.out w hSw; have fF27 := F27.out w hSw; obtain ⟨z1, z2, z3, z4, z5⟩ := HX.out w (Uz.trans hSw)); (try dsimp only [List.getElem_toArray, List.getElem_cons_succ, List.getElem_cons_zero]); go_simp; try with_reducible rfl)
    simp only [Act.put, List.setIfInBounds_toArray, List.set_cons_zero, List.set_cons_succ]
    replace hCl := hCl'; clear hCl'
    refine T.qTake (i := 54) (d := (some 145)) (v := ?v81) rfl rfl (by kernel_rfl) (by decide) hCl (by kernel_rfl) (by kernel_rfl) (by kernel_rfl) (by rfl) ?hy81 (fun _ _ _ => trivial) (fun hCl' => ?_)
    case hy81 => (intro w hSw; refine T.qVal ?_ hSw; (have fF24 := F24.out w hSw; have fF25 := F25.out w hSw; have fF26 := F26.out w hSw; have fF27 := F27.out w hSw; obtain ⟨z1, z2, z3, z4, z5⟩ := HX.out w (Uz.trans hSw)); (try dsimp only [List.getElem_toArray, List.getElem_cons_succ, List.getElem_cons_zero]); go_simp; try with_reducible rfl)
    simp only [Act.put, List.setIfInBounds_toArray, List.set_cons_zero, List.set_cons_succ]
    replace hCl := hCl'; clear hCl'
    refine T.qTake (i := 57) (d := (some 148)) (v := ?v82) rfl rfl (by kernel_rfl) (by decide) hCl (by kernel_rfl) (by kernel_rfl) (by kernel_rfl) (by rfl) ?hy82 (fun _ _ _ => trivial) (fun hCl' => ?_)
    case hy82 => (intro w hSw; refine T.qVal ?_ hSw; (have fF24 := F24.out w hSw; have fF25 := F25.out w hSw; have fF26 := F26.out w hSw; have fF27 := F27.out w hSw; obtain ⟨z1, z2, z3, z4, z5⟩ := HX.out w (Uz.trans hSw)); (try dsimp only [List.getElem_toArray, List.getElem_cons_succ, List.getElem_cons_zero]); go_simp; try with_reducible rfl)
    simp only [Act.put, List.setIfInBounds_toArray, List.set_cons_zero, List.set_cons_succ]
    replace hCl := hCl'; clear hCl'
    refine T.qTake (i := 60) (d := (some 151)) (v := ?v83) rfl rfl (by kernel_rfl) (by decide) hCl (by kernel_rfl) (by kernel_rfl) (by kernel_rfl) (by rfl) ?hy83 (fun _ _ _ => trivial) (fun hCl' => ?_)
    case hy83 => (intro w hSw; refine T.qVal ?_ hSw; (have fF24 := F24.out w hSw; have fF25 := F25.out w hSw; have fF26 := F26.out w hSw; have fF27 := F27.out w hSw; obtain ⟨z1, z2, z3, z4, z5⟩ := HX.out w (Uz.trans hSw)); (try dsimp only [List.getElem_toArray, List.getElem_cons_succ, List.getElem_cons_zero]); go_simp; try with_reducible rfl)
    simp only [Act.put, List.setIfInBounds_toArray, List.set_cons_zero, List.set_cons_succ]
    replace hCl := hCl'; clear hCl'
    refine T.qTake (i := 61) (d := (some 152)) (v := ?v84) rfl rfl (by kernel_rfl) (by decide) hCl (by kernel_rfl) (by kernel_rfl) (by kernel_rfl) (by rfl) ?hy84 (fun _ _ _ => trivial) (fun hCl' => ?_)
    case hy84 => (intro w hSw; refine T.qVal ?_ hSw; (have fF24 := F24.out w hSw; have fF25 := F25.out w hSw; have fF26 := F26.out w hSw; have fF27 := F27.out w hSw; obtain ⟨z1, z2, z3, z4, z5⟩ := HX.out w (Uz.trans hSw)); (try dsimp only [List.getElem_toArray, List.getElem_cons_succ, List.getElem_cons_zero]); go_simp; try with_reducible rfl)
    simp only [Act.put, List.setIfInBounds_toArray, List.set_cons_zero, List.set_cons_succ]
    replace hCl := hCl'; clear hCl'
    refine T.qTake (i := 64) (d := (some 155)) (v := ?v85) rfl rfl (by kernel_rfl) (by decide) hCl (by kernel_rfl) (by kernel_rfl) (by kernel_rfl) (by rfl) ?hy85 (fun _ _ _ => trivial) (fun hCl' => ?_)
    case hy85 => (intro w hSw; refine T.qVal ?_ hSw; (have fF24 := F24.out w hSw; have fF25 := F25.out w hSw; have fF26 := F26.out w hSw; have fF27 := F27.out w hSw; obtain ⟨z1, z2, z3, z4, z5⟩ := HX.out w (Uz.trans hSw)); (try dsimp only [List.getElem_toArray, List.getElem_cons_succ, List.getElem_cons_zero]); go_simp; try with_reducible rfl)
    simp only [Act.put, List.setIfInBounds_toArray, List.set_cons_zero, List.set_cons_succ]
    replace hCl := hCl'; clear hCl'
    refine T.qTake (i := 55) (d := (some 146)) (v := ?v86) rfl rfl (by kernel_rfl) (by decide) hCl (by kernel_rfl) (by kernel_rfl) (by kernel_rfl) (by rfl) ?hy86 (fun _ _ _ => trivial) (fun hCl' => ?_)
    case hy86 => (intro w hSw; refine T.qVal ?_ hSw; (have fF24 := F24.out w hSw; have fF25 := F25.out w hSw; have fF26 := F26.out w hSw; have fF27 := F27.out w hSw; obtain ⟨z1, z2, z3, z4, z5⟩ := HX.out w (Uz.trans hSw)); (try dsimp only [List.getElem_toArray, List.getElem_cons_succ, List.getElem_cons_zero]); go_simp; try with_reducible rfl)
    simp only [Act.put, List.setIfInBounds_toArray, List.set_cons_zero, List.set_cons_succ]
    replace hCl := hCl'; clear hCl'
    refine T.qTake (i := 62) (d := (some 153)) (v := ?v87) rfl rfl (by kernel_rfl) (by decide) hCl (by kernel_rfl) (by kernel_rfl) (by kernel_rfl) (by rfl) ?hy87 (fun _ _ _ => trivial) (fun hCl' => ?_)
    case hy87 => (intro w hSw; refine T.qVal ?_ hSw; (have fF24 := F24.out w hSw; have fF25 := F25.out w hSw; have fF26 := F26.out w hSw; have fF27 := F27.out w hSw; obtain ⟨z1, z2, z3, z4, z5⟩ := HX.out w (Uz.trans hSw)); (try dsimp only [List.getElem_toArray, List.getElem_cons_succ, List.getElem_cons_zero]); go_simp; try with_reducible rfl)
    simp only [Act.put, List.setIfInBounds_toArray, List.set_cons_zero, List.set_cons_succ]
    replace hCl := hCl'; clear hCl'
    refine T.qTake (i := 56) (d := (some 147)) (v := ?v88) rfl rfl (by kernel_rfl) (by decide) hCl (by kernel_rfl) (by kernel_rfl) (by kernel_rfl) (by rfl) ?hy88 (fun _ _ _ => trivial) (fun hCl' => ?_)
    case hy88 => (intro w hSw; refine T.qVal ?_ hSw; (have fF24 := F24.out w hSw; have fF25 := F25.out w hSw; have fF26 := F26.out w hSw; have fF27 := F27.out w hSw; obtain ⟨z1, z2, z3, z4, z5⟩ := HX.out w (Uz.trans hSw)); (try dsimp only [List.getElem_toArray, List.getElem_cons_succ, List.getElem_cons_zero]); go_simp; try with_reducible rfl)
    simp only [Act.put, List.setIfInBounds_toArray, List.set_cons_zero, List.set_cons_succ]
    replace hCl := hCl'; clear hCl'
    refine T.qTake (i := 63) (d := (some 154)) (v := ?v89) rfl rfl (by kernel_rfl) (by decide) hCl (by kernel_rfl) (by kernel_rfl) (by kernel_rfl) (by rfl) ?hy89 (fun _ _ _ => trivial) (fun hCl' => ?_)
    case hy89 => (intro w hSw; refine T.qVal ?_ hSw; (have fF24 := F24.out w hSw; have fF25 := F25.out w hSw; have fF26 := F26.out w hSw; have fF27 := F27.out w hSw; obtain ⟨z1, z2, z3, z4, z5⟩ := HX.out w (Uz.trans hSw)); (try dsimp only [List.getElem_toArray, List.getElem_cons_succ, List.getElem_cons_zero]); go_simp; try with_reducible rfl)
    simp only [Act.put, List.setIfInBounds_toArray, List.set_cons_zero, List.set_cons_succ]
    replace hCl := hCl'; clear hCl'
    refine T.qTake (i := 58) (d := (some 149)) (v := ?v90) rfl rfl (by kernel_rfl) (by decide) hCl (by kernel_rfl) (by kernel_rfl) (by kernel_rfl) (by rfl) ?hy90 (fun _ _ _ => trivial) (fun hCl' => ?_)
    case hy90 => (intro w hSw; refine T.qVal ?_ hSw; (have fF24 := F24.out w hSw; have fF25 := F25.out w hSw; have fF26 := F26.out w hSw; have fF27 := F27.out w hSw; obtain ⟨z1, z2, z3, z4, z5⟩ := HX.out w (Uz.trans hSw)); (try dsimp only [List.getElem_toArray, List.getElem_cons_succ, List.getElem_cons_zero]); go_simp; try with_reducible rfl)
    simp only [Act.put, List.setIfInBounds_toArray, List.set_cons_zero, List.set_cons_succ]
    replace hCl := hCl'; clear hCl'
    refine T.qTake (i := 65) (d := (some 156)) (v := ?v91) rfl rfl (by kernel_rfl) (by decide) hCl (by kernel_rfl) (by kernel_rfl) (by kernel_rfl) (by rfl) ?hy91 (fun _ _ _ => trivial) (fun hCl' => ?_)
    case hy91 => (intro w hSw; refine T.qVal ?_ hSw; (have fF24 := F24.out w hSw; have fF25 := F25.out w hSw; have fF26 := F26.out w hSw; have fF27 := F27.out w hSw; obtain ⟨z1, z2, z3, z4, z5⟩ := HX.out w (Uz.trans hSw)); (try dsimp only [List.getElem_toArray, List.getElem_cons_succ, List.getElem_cons_zero]); go_simp; try with_reducible rfl)
    simp only [Act.put, List.setIfInBounds_toArray, List.set_cons_zero, List.set_cons_succ]
    replace hCl := hCl'; clear hCl'
    refine T.qTake (i := 59) (d := (some 150)) (v := ?v92) rfl rfl (by kernel_rfl) (by decide) hCl (by kernel_rfl) (by kernel_rfl) (by kernel_rfl) (by rfl) ?hy92 (fun _ _ _ => trivial) (fun hCl' => ?_)
    case hy92 => (intro w hSw; refine T.qVal ?_ hSw; (have fF24 := F24.out w hSw; have fF25 := F25.out w hSw; have fF26 := F26.out w hSw; have fF27 := F27.out w hSw; obtain ⟨z1, z2, z3, z4, z5⟩ := HX.out w (Uz.trans hSw)); (try dsimp only [List.getElem_toArray, List.getElem_cons_succ, List.getElem_cons_zero]); go_simp; try with_reducible rfl)
    simp only [Act.put, List.setIfInBounds_toArray, List.set_cons_zero, List.set_cons_succ]
    replace hCl := hCl'; clear hCl'
    refine T.qTake (i := 66) (d := (some 157)) (v := ?v93) rfl rfl (by kernel_rfl) (by decide) hCl (by kernel_rfl) (by kernel_rfl) (by kernel_rfl) (by rfl) ?hy93 (fun _ _ _ => trivial) (fun hCl' => ?_)
    case hy93 => (intro w hSw; refine T.qVal ?_ hSw; (have fF24 := F24.out w hSw; have fF25 := F25.out w hSw; have fF26 := F26.out w hSw; have fF27 := F27.out w hSw; obtain ⟨z1, z2, z3, z4, z5⟩ := HX.out w (Uz.trans hSw)); (try dsimp only [List.getElem_toArray, List.getElem_cons_succ, List.getElem_cons_zero]); go_simp; try with_reducible rfl)
    simp only [Act.put, List.setIfInBounds_toArray, List.set_cons_zero, List.set_cons_succ]
    replace hCl := hCl'; clear hCl'
    refine T.qTake (i := 67) (d := (some 158)) (v := ?v94) rfl rfl (by kernel_rfl) (by decide) hCl (by kernel_rfl) (by kernel_rfl) (by kernel_rfl) (by rfl) ?hy94 (fun _ _ _ => trivial) (fun hCl' => ?_)
    case hy94 => (intro w hSw; refine T.qVal ?_ hSw; (have fF24 := F24.out w hSw; have fF25 := F25.out w hSw; have fF26 := F26.out w hSw; have fF27 := F27.out w hSw; obtain ⟨z1, z2, z3, z4, z5⟩ := HX.out w (Uz.trans hSw)); (try dsimp only [List.getElem_toArray, List.getElem_cons_succ, List.getElem_cons_zero]); go_simp; try with_reducible rfl)
    simp only [Act.put, List.setIfInBounds_toArray, List.set_cons_zero, List.set_cons_succ]
    replace hCl := hCl'; clear hCl'
    refine T.qTake (i := 68) (d := (some 159)) (v := ((.bool true))) rfl rfl (by kernel_rfl) (by decide) hCl (by kernel_rfl) (by kernel_rfl) (by kernel_rfl) (by rfl) ?hy95 (fun _ _ _ => trivial) (fun hCl' => ?_)
    case hy95 => (intro w hSw; (have fF24 := F24.out w hSw; have fF25 := F25.out w hSw; have fF26 := F26.out w hSw; have fF27 := F27.out w hSw; obtain ⟨z1, z2, z3, z4, z5⟩ := HX.out w (Uz.trans hSw)); (try dsimp only [List.getElem_toArray, List.getElem_cons_succ, List.getElem_cons_zero]); go_simp; (refine (callsIn_wide.2 (HHu.out w)).mono ?_; rintro e w3 ⟨rfl, u3⟩; exact ⟨rfl, hSw.trans u3⟩))
    simp only [Act.put, List.setIfInBounds_toArray, List.set_cons_zero, List.set_cons_succ]
    replace hCl := hCl'; clear hCl'
    refine T.qTake (i := 69) (d := (some 160)) (v := ?v96) rfl rfl (by kernel_rfl) (by decide) hCl (by kernel_rfl) (by kernel_rfl) (by kernel_rfl) (by rfl) ?hy96 (fun _ _ _ => trivial) (fun hCl' => ?_)
    case hy96 => (intro w hSw; refine T.qVal ?_ hSw; (have fF24 := F24.out w hSw; have fF25 := F25.out w hSw; have fF26 := F26.out w hSw; have fF27 := F27.out w hSw; obtain ⟨z1, z2, z3, z4, z5⟩ := HX.out w (Uz.trans hSw)); (try dsimp only [List.getElem_toArray, List.getElem_cons_succ, List.getElem_cons_zero]); go_simp; try with_reducible rfl)
    simp only [Act.put, List.setIfInBounds_toArray, List.set_cons_zero, List.set_cons_succ]
    replace hCl := hCl'; clear hCl'
    refine T.qTake (i := 70) (d := (some 161)) (v := ?v97) rfl rfl (by kernel_rfl) (by decide) hCl (by kernel_rfl) (by kernel_rfl) (by kernel_rfl) (by rfl) ?hy97 (fun _ _ _ => trivial) (fun hCl' => ?_)
    case hy97 => (intro w hSw; refine T.qVal ?_ hSw; (have fF24 := F24.out w hSw; have fF25 := F25.out w hSw; have fF26 := F26.out w hSw; have fF27 := F27.out w hSw; obtain ⟨z1, z2, z3, z4, z5⟩ := HX.out w (Uz.trans hSw)); (try dsimp only [List.getElem_toArray, List.getElem_cons_succ, List.getElem_cons_zero]); go_simp; try with_reducible rfl)
    simp only [Act.put, List.setIfInBounds_toArray, List.set_cons_zero, List.set_cons_succ]
    replace hCl := hCl'; clear hCl'
    refine T.qTake (i := 71) (d := (some 162)) (v := ?v98) rfl rfl (by kernel_rfl) (by decide) hCl (by kernel_rfl) (by kernel_rfl) (by kernel_rfl) (by rfl) ?hy98 (fun _ _ _ => trivial) (fun hCl' => ?_)
    case hy98 => (intro w hSw; refine T.qVal ?_ hSw; (have fF24 := F24.out w hSw; have fF25 := F25.out w hSw; have fF26 := F26.out w hSw; have fF27 := F27.out w hSw; obtain ⟨z1, z2, z3, z4, z5⟩ := HX.out w (Uz.trans hSw)); (try dsimp only [List.getElem_toArray, List.getElem_cons_succ, List.getElem_cons_zero]); go_simp; try with_reducible rfl)
    simp only [Act.put, List.setIfInBounds_toArray, List.set_cons_zero, List.set_cons_succ]
    replace hCl := hCl'; clear hCl'
    refine T.qTake (i := 72) (d := (some 163)) (v := ?v99) rfl rfl (by kernel_rfl) (by decide) hCl (by kernel_rfl) (by kernel_rfl) (by kernel_rfl) (by rfl) ?hy99 (fun _ _ _ => trivial) (fun hCl' => ?_)
    case hy99 => (intro w hSw; refine T.qVal ?_ hSw; (have fF24 := F24.out w hSw; have fF25 := F25.out w hSw; have fF26 := F26.out w hSw; have fF27 := F27.out w hSw; obtain ⟨z1, z2, z3, z4, z5⟩ := HX.out w (Uz.trans hSw)); (try dsimp only [List.getElem_toArray, List.getElem_cons_succ, List.getElem_cons_zero]); go_simp; try with_reducible rfl)
    simp only [Act.put, List.setIfInBounds_toArray, List.set_cons_zero, List.set_cons_succ]
    replace hCl := hCl'; clear hCl'
    refine T.qTake (i := 73) (d := (some 164)) (v := ?v100) rfl rfl (by kernel_rfl) (by decide) hCl (by kernel_rfl) (by kernel_rfl) (by kernel_rfl) (by rfl) ?hy100 (fun _ _ _ => trivial) (fun hCl' => ?_)
    case hy100 => (intro w hSw; refine T.qVal ?_ hSw; (have fF24 := F24.out w hSw; have fF25 := F25.out w hSw; have fF26 := F26.out w hSw; have fF27 := F27.out w hSw; obtain ⟨z1, z2, z3, z4, z5⟩ := HX.out w (Uz.trans hSw)); (try dsimp only [List.getElem_toArray, List.getElem_cons_succ, List.getElem_cons_zero]); go_simp; try with_reducible rfl)
    simp only [Act.put, List.setIfInBounds_toArray, List.set_cons_zero, List.set_cons_succ]
    replace hCl := hCl'; clear hCl'
    refine T.qTake (i := 74) (d := (some 165)) (v := ?v101) rfl rfl (by kernel_rfl) (by decide) hCl (by kernel_rfl) (by kernel_rfl) (by kernel_rfl) (by rfl) ?hy101 (fun _ _ _ => trivial) (fun hCl' => ?_)
    case hy101 => (intro w hSw; refine T.qVal ?_ hSw; (have fF24 := F24.out w hSw; have fF25 := F25.out w hSw; have fF26 := F26.out w hSw; have fF27 := F27.out w hSw; obtain ⟨z1, z2, z3, z4, z5⟩ := HX.out w (Uz.trans hSw)); (try dsimp only [List.getElem_toArray, List.getElem_cons_succ, List.getElem_cons_zero]); go_simp; try with_reducible rfl)
    simp only [Act.put, List.setIfInBounds_toArray, List.set_cons_zero, List.set_cons_succ]
    replace hCl := hCl'; clear hCl'
    refine T.qTake (i := 75) (d := (some 166)) (v := ?v102) rfl rfl (by kernel_rfl) (by decide) hCl (by kernel_rfl) (by kernel_rfl) (by kernel_rfl) (by rfl) ?hy102 (fun _ _ _ => trivial) (fun hCl' => ?_)
    case hy102 => (intro w hSw; refine T.qVal ?_ hSw; (have fF24 := F24.out w hSw; have fF25 := F25.out w hSw; have fF26 := F26.out w hSw; have fF27 := F27.out w hSw; obtain ⟨z1, z2, z3, z4, z5⟩ := HX.out w (Uz.trans hSw)); (try dsimp only [List.getElem_toArray, List.getElem_cons_succ, List.getElem_cons_zero]); go_simp; try with_reducible rfl)
    simp only [Act.put, List.setIfInBounds_toArray, List.set_cons_zero, List.set_cons_succ]
    replace hCl := hCl'; clear hCl'
    refine T.qTake (i := 76) (d := (some 167)) (v := ((.bool true))) rfl rfl (by kernel_rfl) (by decide) hCl (by kernel_rfl) (by kernel_rfl) (by kernel_rfl) (by rfl) ?hy103 (fun _ _ _ => trivial) (fun hCl' => ?_)
    case hy103 => (intro w hSw; (have fF24 := F24.out w hSw; have fF25 := F25.out w hSw; have fF26 := F26.out w hSw; have fF27 := F27.out w hSw; obtain ⟨z1, z2, z3, z4, z5⟩ := HX.out w (Uz.trans hSw)); (try dsimp only [List.getElem_toArray, List.getElem_cons_succ, List.getElem_cons_zero]); go_simp; (refine (callsIn_wide.2 (HW.out w)).mono ?_; rintro e w3 ⟨rfl, u3⟩; exact ⟨rfl, hSw.trans u3⟩))
    simp only [Act.put, List.setIfInBounds_toArray, List.set_cons_zero, List.set_cons_succ]
    replace hCl := hCl'; clear hCl'
    refine T.qTake (i := 77) (d := (some 168)) (v := ?v104) rfl rfl (by kernel_rfl) (by decide) hCl (by kernel_rfl) (by kernel_rfl) (by kernel_rfl) (by rfl) ?hy104 (fun _ _ _ => trivial) (fun hCl' => ?_)
    case hy104 => (intro w hSw; refine T.qVal ?_ hSw; (have fF24 := F24.out w hSw; have fF25 := F25.out w hSw; have fF26 := F26.out w hSw; have fF27 := F27.out w hSw; obtain ⟨z1, z2, z3, z4, z5⟩ := HX.out w (Uz.trans hSw)); (try dsimp only [List.getElem_toArray, List.getElem_cons_succ, List.getElem_cons_zero]); go_simp; try with_reducible rfl)
    simp only [Act.put, List.setIfInBounds_toArray, List.set_cons_zero, List.set_cons_succ]
    replace hCl := hCl'; clear hCl'
    refine T.tail_intro (by kernel_rfl) (fun Y23 hY23 => ?_)
    replace U := U.trans hY23
    replace kx := hY23.blk kx
    replace ks := hY23.blk ks
    replace kt := hY23.blk kt
    replace ku := hY23.blk ku
    replace Uz := Uz.trans hY23
    clear F24 F25 F26 F27 hY23
    refine lastG (i := 78) (by kernel_rfl) rfl (by rfl) (by decide) (fun K hK => ?_)
    go_simp
    refine hK.out _ _ ?_
    clear hK K
    refine doneG (by kernel_rfl) ?_ _
    refine S.nrm_intro ?_
    go_wp2
    go_ret
    exact ⟨rfl, U⟩
end

end Go.Proofs.Ytonklhfpjooheaa
