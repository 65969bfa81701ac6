import Derived.Test.YtonklhfpjooheaaFwS
import Derived.Test.YtonklhfpjooheaaWro
import Derived.Test.YtonklhfpjooheaaLsL
import Derived.Test.YtonklhfpjooheaaHeQ
/- The law BeatLeft. -/
namespace Go.Proofs.Ytonklhfpjooheaa
open Go.RowKit Go.Shelf
attribute [local go_sem] Oper.semAt_some

theorem T.shl_run : ∀ n : Nat, n ≤ 5 → IntKind.i64.wrap (2 ^ n) = 2 ^ n := by decide
section
variable {aR aO aP : Option Addr} {nR cR nO cO nP cP : Nat} {rs : T.LR} {os : T.LO} {ps : T.LP}
set_option maxRecDepth 100000 in
set_option maxHeartbeats 8000000 in
theorem beatLeft_any {Hi z0 : Int} {w : World} (I : Sps w (.slice aR nR cR) rs) (IO : Ops w (.slice aO nO cO) os) (IP : Prs w (.slice aP nP cP) ps) :
    Calls Try.prog 12 #[ClV Hi (.slice aR nR cR) (.slice aO nO cO) (.slice aP nP cP), .int .i64 z0] w fun e w' => e = .returned (.bool true) ∧ Up w w' := by
  have U := (Up.refl w).alloc (.cells #[.int .i64 Hi, .slice aR nR cR, .slice aO nO cO, .slice aP nP cP] 26)
  have HW := Lib.hid (fun w => l_works_any w)
  cases hv : T.valid Hi rs os ps with
  | false =>
    have HWr := Lib.hid (fun w' (u : Up w w') => Wrong_bad (I.up u) (IO.up u) (IP.up u) hv)
    have HS := Lib.hid (fun w' (u : Up w w') => l_sound_no (I.up u) (IO.up u) (IP.up u) hv)
    have kC := blk_new w (.cells #[.int .i64 Hi, .slice aR nR cR, .slice aO nO cO, .slice aP nP cP] 26) _ rfl
    clear hv I IO IP
    go_enter Try.func12, Try.ntmps12
    go_wp2_with fail
    refine (HWr.out _ U).mono ?_
    rintro e w1 ⟨rfl, u1⟩
    replace kC := u1.blk kC
    replace U := U.trans u1
    clear u1
    go_wp2_with fail
    refine (HS.out _ U).mono ?_
    rintro e w2 ⟨rfl, u2⟩
    replace U := U.trans u2
    go_wp2_with fail
    refine (HW.out _).mono ?_
    rintro e w3 ⟨rfl, u3⟩
    go_wp2
    go_ret
    exact ⟨rfl, U.trans u3⟩
  | true =>
    obtain ⟨H, rfl⟩ := T.valid_nat hv
    have G := T.valid_good.1 hv
    have hn := I.len
    subst hn
    have q1 := G.h1
    have q2 := G.h2
    have q3 := G.r1
    have q4 := G.r2
    have HS := Lib.hid (fun w' (u : Up w w') => l_sound_yes (I.up u) (IO.up u) (IP.up u) hv)
    have HWr := Lib.hid (fun w' (u : Up w w') => Wrong_ok (I.up u) (IO.up u) (IP.up u) (fun s => T.web_ok G) hv)
    have HI := Lib.hid (fun w' (u : Up w w') => I.up u)
    have HO := Lib.hid (fun w' (u : Up w w') => IO.up u)
    have h14 := G.p14
    have HN := Lib.hid (fun w' (u : Up w w') (vl : Value) (ls : List Int) (IL : Ints w' vl ls) => l_without_any (H := H) (aR := aR) (nR := rs.length) (cR := cR) (aO := aO) (nO := nO) (cO := cO) (IP.up u) IL h14)
    have wz : IntKind.i64.wrap (2 ^ rs.length) = 2 ^ rs.length := T.shl_run _ (by omega)
    have h2n : 0 < 2 ^ rs.length ∧ 2 ^ rs.length ≤ 32 := ⟨Nat.pow_pos (by decide), Nat.le_trans (Nat.pow_le_pow_right (n := 2) (by decide) q4) (by decide)⟩
    obtain ⟨two, htwo⟩ : ∃ x : Nat, 2 ^ rs.length = x := ⟨_, rfl⟩
    have etwo : (2 : Int) ^ rs.length = (two : Int) := by rw [← htwo]; simp
    rw [htwo] at h2n
    have wt : IntKind.i64.wrap (two : Int) = (two : Int) := IntWalk.i64_in _ (by omega)
    have HRz := Lib.hid (fun w => B_Rest_any z0 (two : Int) w (by omega) (by omega))
    have az := Int.emod_nonneg z0 (b := (two : Int)) (by omega)
    have bz := Int.emod_lt_of_pos z0 (b := (two : Int)) (by omega)
    generalize z0 % (two : Int) = zz at *
    obtain ⟨zz, rfl⟩ := Int.eq_ofNat_of_zero_le az
    have hzt := T.bits_high (z := zz) (n := rs.length) (by omega)
    have HL := Lib.hid (fun w => B_List_any zz rs.length (by omega) q4 w)
    obtain ⟨t, ht⟩ : ∃ t : Nat → Bool, (fun k => zz.testBit k) = t := ⟨_, rfl⟩
    rw [ht] at HL hzt
    obtain ⟨LO, hLO⟩ : ∃ l, T.lst t rs.length = l := ⟨_, rfl⟩
    rw [hLO] at HL
    have hmx : Try.prog.follows .mixedOrders = true := by kernel_rfl
    have m00 := T.mom_in (n := rs.length) (H := H) (k := 0) (h := 0) ⟨Int.le_refl _, by omega⟩ ⟨Int.le_refl _, by omega⟩
    have h00 : (0 : Int) ≤ 0 ∧ (0 : Int) < rs.length := ⟨Int.le_refl _, by omega⟩
    have h01 : (0 : Int) ≤ 0 ∧ (0 : Int) ≤ (H : Int) := ⟨Int.le_refl _, by omega⟩
    obtain ⟨lf, hf, ef, tf⟩ := T.Tells.ex (m1 := (0, 0)) (m2 := (-1, 0)) G m00 T.mom_0
    obtain ⟨lg, hg, eg, tg⟩ := T.Tells.ex (m1 := (0, 0)) (m2 := (-1, 0)) (T.good_filter G (T.kept LO)) m00 T.mom_0
    have Cf := Lib.hid (fun w' (u : Up w w') => Offset_tells G h00 h01 tf (I.up u) (IO.up u) (IP.up u))
    have Cg := Lib.hid (fun w' (u : Up w w') (a : Option Addr) (n c : Nat) (J : Prs w' (.slice a n c) (ps.filter (T.kept LO))) => Offset_tells (T.good_filter G (T.kept LO)) h00 h01 tg (HI.out _ u) (HO.out _ u) J)
    have HG := Lib.hid (And.intro G (And.intro tf tg))
    have HT := Lib.hid (And.intro ht (And.intro hLO hzt))
    have HM := Lib.hid (And.intro m00 (And.intro h00 h01))
    clear hv tf tg G ht hLO hzt m00 h00 h01 az htwo
    clear I IO IP
    go_enter Try.func12, Try.ntmps12
    obtain ⟨q0, e0⟩ : ∃ x, w.heap.size = x := ⟨_, rfl⟩
    have kC := blk_new w (.cells #[.int .i64 H, .slice aR rs.length cR, .slice aO nO cO, .slice aP nP cP] 26) q0 e0.symm
    go_wp2_with fail
    refine (HWr.out _ U).mono ?_
    rintro e x0 ⟨⟨v, n, rfl, hcase⟩, u⟩
    replace U := U.trans u
    replace kC := u.blk kC
    clear u HWr
    rcases hcase with ⟨s, hs, IW, rfl⟩ | ⟨hs, rfl, rfl⟩
    · skip
      obtain ⟨G, tf, tg⟩ := HG.out
      obtain ⟨p0, p1, p2, p3, p4⟩ := T.left_some G hs HT.out.2.2
      rw [p0] at IW
      rw [HT.out.2.1] at p4
      obtain ⟨LW, hLW⟩ : ∃ l, T.lst s rs.length = l := ⟨_, rfl⟩
      rw [hLW] at IW p1 p2 p3 p4
      obtain ⟨lh, hh, eh, th⟩ := T.Tells.ex (m1 := (0, 0)) (m2 := (-1, 0)) (T.good_filter G (T.kept LW)) HM.out.1 T.mom_0
      have Ch := Lib.hid (fun w' (u : Up w w') (a : Option Addr) (n c : Nat) (J : Prs w' (.slice a n c) (ps.filter (T.kept LW))) => Offset_tells (T.good_filter G (T.kept LW)) HM.out.2.1 HM.out.2.2 th (HI.out _ u) (HO.out _ u) J)
      obtain rfl : eh = 0 := by
        rcases th.can with ⟨a, _⟩ | ⟨_, _, _, hn⟩
        · exact a
        · obtain ⟨y, hy⟩ := p3
          exact absurd hy (hn y)
      have HD := Lib.hid (show ((LW.length = 0 ∧ ef = 0) ∨ (LW.length ≠ 0 ∧ ef = 22)) ∧ ((eg = 0 ∧ (LW.length < LO.length ∨ LO.length = LW.length ∧ T.ahd LO LW = false)) ∨ eg = 22) from ⟨by
        rcases tf.can with ⟨a, b⟩ | ⟨a, _, _, b⟩
        · exact .inl ⟨p2.2 b, a⟩
        · exact .inr ⟨fun c => by obtain ⟨y, hy⟩ := p2.1 c; exact b y hy, a⟩, by
        rcases tg.can with ⟨a, b⟩ | ⟨a, _⟩
        · exact .inl ⟨a, p4 b⟩
        · exact .inr a⟩)
      have HCl := Lib.hid p1
      obtain ⟨aw, cw, rfl, _, _, _⟩ := id IW.is
      clear p0 p1 p2 p3 p4 tf tg th G hs hLW HG HT HM
      go_wp2_with fail
      refine (HS.out _ U).mono ?_
      rintro e x61 ⟨rfl, u62⟩
      replace U := U.trans u62
      replace kC := u62.blk kC
      replace IW := IW.up u62
      clear u62 HS
      go_wp2_with fail
      refine (Cf.out _ U).mono ?_
      rintro e x63 ⟨rfl, u64⟩
      replace U := U.trans u64
      replace kC := u64.blk kC
      replace IW := IW.up u64
      clear u64 
      have dkCkf := blk_lt kC
      have gkf := U.size
      have kf := blk_new x63 (.cells #[.int .i64 lf, .int .i64 hf] 34) _ rfl
      replace kC := blk_keep (.cells #[.int .i64 lf, .int .i64 hf] 34) kC
      replace U := U.alloc (.cells #[.int .i64 lf, .int .i64 hf] 34)
      replace IW := IW.up ((Up.refl x63).alloc (.cells #[.int .i64 lf, .int .i64 hf] 34))
      obtain ⟨pkf, hpkf⟩ : ∃ z, x63.heap.size = z := ⟨_, rfl⟩
      obtain ⟨W65, hW65⟩ : ∃ z, x63.alloc (.cells #[.int .i64 lf, .int .i64 hf] 34) = z := ⟨_, rfl⟩
      rw [hpkf] at kf dkCkf gkf
      rw [hW65] at kf U kC IW
      skip
      go_wp2_with fail
      clear hpkf hW65
      have F67 := Lib.hid (fun w (u : Up W65 w) => cellB (u.blk kC))
      have F68 := Lib.hid (fun w (u : Up W65 w) => cellB (u.blk kf))
      refine (wpIn_wide (n := 5)).1 ?_
      refine wpIn_nrm ?_
      refine T.regionQ (fun w' => Up W65 w') 9 2 hmx (by kernel_rfl) (by kernel_rfl) ((Up.refl W65).drew) (fun hCl => ?_)
      refine T.qTake (i := 0) (d := (some 37)) (v := ?v1) rfl rfl (by kernel_rfl) (by decide) hCl (by kernel_rfl) (by kernel_rfl) (by kernel_rfl) (by rfl) ?hy1 (fun _ _ _ => trivial) (fun hCl' => ?_)
      case hy1 => (intro w hSw; refine T.qVal ?_ hSw; (have fF67 := F67.out w hSw; have fF68 := F68.out w hSw); (try dsimp only [List.getElem_toArray, List.getElem_cons_succ, List.getElem_cons_zero]); go_simp; try with_reducible rfl)
      simp only [Act.put, List.setIfInBounds_toArray, List.set_cons_zero, List.set_cons_succ]
      replace hCl := hCl'; clear hCl'
      refine T.qTake (i := 1) (d := (some 38)) (v := ?v2) rfl rfl (by kernel_rfl) (by decide) hCl (by kernel_rfl) (by kernel_rfl) (by kernel_rfl) (by rfl) ?hy2 (fun _ _ _ => trivial) (fun hCl' => ?_)
      case hy2 => (intro w hSw; refine T.qVal ?_ hSw; (have fF67 := F67.out w hSw; have fF68 := F68.out w hSw); (try dsimp only [List.getElem_toArray, List.getElem_cons_succ, List.getElem_cons_zero]); go_simp; try with_reducible rfl)
      simp only [Act.put, List.setIfInBounds_toArray, List.set_cons_zero, List.set_cons_succ]
      replace hCl := hCl'; clear hCl'
      refine T.qTake (i := 6) (d := (some 43)) (v := ?v3) rfl rfl (by kernel_rfl) (by decide) hCl (by kernel_rfl) (by kernel_rfl) (by kernel_rfl) (by rfl) ?hy3 (fun _ _ _ => trivial) (fun hCl' => ?_)
      case hy3 => (intro w hSw; refine T.qVal ?_ hSw; (have fF67 := F67.out w hSw; have fF68 := F68.out w hSw); (try dsimp only [List.getElem_toArray, List.getElem_cons_succ, List.getElem_cons_zero]); go_simp; try with_reducible rfl)
      simp only [Act.put, List.setIfInBounds_toArray, List.set_cons_zero, List.set_cons_succ]
      replace hCl := hCl'; clear hCl'
      refine T.qTake (i := 2) (d := (some 39)) (v := ?v4) rfl rfl (by kernel_rfl) (by decide) hCl (by kernel_rfl) (by kernel_rfl) (by kernel_rfl) (by rfl) ?hy4 (fun _ _ _ => trivial) (fun hCl' => ?_)
      case hy4 => (intro w hSw; refine T.qVal ?_ hSw; (have fF67 := F67.out w hSw; have fF68 := F68.out w hSw); (try dsimp only [List.getElem_toArray, List.getElem_cons_succ, List.getElem_cons_zero]); go_simp; try with_reducible rfl)
      simp only [Act.put, List.setIfInBounds_toArray, List.set_cons_zero, List.set_cons_succ]
      replace hCl := hCl'; clear hCl'
      refine T.qTake (i := 7) (d := (some 44)) (v := ?v5) rfl rfl (by kernel_rfl) (by decide) hCl (by kernel_rfl) (by kernel_rfl) (by kernel_rfl) (by rfl) ?hy5 (fun _ _ _ => trivial) (fun hCl' => ?_)
      case hy5 => (intro w hSw; refine T.qVal ?_ hSw; (have fF67 := F67.out w hSw; have fF68 := F68.out w hSw); (try dsimp only [List.getElem_toArray, List.getElem_cons_succ, List.getElem_cons_zero]); go_simp; try with_reducible rfl)
      simp only [Act.put, List.setIfInBounds_toArray, List.set_cons_zero, List.set_cons_succ]
      replace hCl := hCl'; clear hCl'
      refine T.qTake (i := 3) (d := (some 40)) (v := ?v6) rfl rfl (by kernel_rfl) (by decide) hCl (by kernel_rfl) (by kernel_rfl) (by kernel_rfl) (by rfl) ?hy6 (fun _ _ _ => trivial) (fun hCl' => ?_)
      case hy6 => (intro w hSw; refine T.qVal ?_ hSw; (have fF67 := F67.out w hSw; have fF68 := F68.out w hSw); (try dsimp only [List.getElem_toArray, List.getElem_cons_succ, List.getElem_cons_zero]); go_simp; try with_reducible rfl)
      simp only [Act.put, List.setIfInBounds_toArray, List.set_cons_zero, List.set_cons_succ]
      replace hCl := hCl'; clear hCl'
      refine T.qTake (i := 8) (d := (some 45)) (v := ?v7) rfl rfl (by kernel_rfl) (by decide) hCl (by kernel_rfl) (by kernel_rfl) (by kernel_rfl) (by rfl) ?hy7 (fun _ _ _ => trivial) (fun hCl' => ?_)
      case hy7 => (intro w hSw; refine T.qVal ?_ hSw; (have fF67 := F67.out w hSw; have fF68 := F68.out w hSw); (try dsimp only [List.getElem_toArray, List.getElem_cons_succ, List.getElem_cons_zero]); go_simp; try with_reducible rfl)
      simp only [Act.put, List.setIfInBounds_toArray, List.set_cons_zero, List.set_cons_succ]
      replace hCl := hCl'; clear hCl'
      refine T.qTake (i := 4) (d := (some 41)) (v := ((.int .i64 (two : Int)))) rfl rfl (by kernel_rfl) (by decide) hCl (by kernel_rfl) (by kernel_rfl) (by kernel_rfl) (by rfl) ?hy8 (fun _ _ _ => trivial) (fun hCl' => ?_)
      case hy8 => (intro w hSw; (have fF67 := F67.out w hSw; have fF68 := F68.out w hSw); (try dsimp only [List.getElem_toArray, List.getElem_cons_succ, List.getElem_cons_zero]); refine T.qVal ?_ hSw; go_simp)
      simp only [Act.put, List.setIfInBounds_toArray, List.set_cons_zero, List.set_cons_succ]
      replace hCl := hCl'; clear hCl'
      refine T.qTake (i := 5) (d := (some 42)) (v := ((.int .i64 (zz : Int)))) rfl rfl (by kernel_rfl) (by decide) hCl (by kernel_rfl) (by kernel_rfl) (by kernel_rfl) (by rfl) ?hy9 (fun _ _ _ => trivial) (fun hCl' => ?_)
      case hy9 => (intro w hSw; (have fF67 := F67.out w hSw; have fF68 := F68.out w hSw); (try dsimp only [List.getElem_toArray, List.getElem_cons_succ, List.getElem_cons_zero]); go_simp; (refine (callsIn_wide.2 (HRz.out w)).mono ?_; rintro e w3 ⟨rfl, rfl⟩; exact ⟨rfl, hSw⟩))
      simp only [Act.put, List.setIfInBounds_toArray, List.set_cons_zero, List.set_cons_succ]
      replace hCl := hCl'; clear hCl'
      refine T.tail_intro (by kernel_rfl) (fun Y66 hY66 => ?_)
      replace U := U.trans hY66
      replace kC := hY66.blk kC
      replace kf := hY66.blk kf
      replace IW := IW.up hY66
      clear F67 F68 hY66
      refine lastG (i := 9) (by kernel_rfl) rfl (by rfl) (by decide) (fun K hK => ?_)
      go_simp
      refine ⟨trivial, (callsIn_wide.2 (HL.out _)).mono ?_⟩
      rintro e xo ⟨⟨vo, rfl, ILo⟩, u⟩
      replace U := U.trans u
      replace kC := u.blk kC
      replace kf := u.blk kf
      replace IW := IW.up u
      clear u HL
      refine hK.out _ _ ?_
      clear hK K
      refine lastG (i := 10) (by kernel_rfl) rfl (by rfl) (by decide) (fun K hK => ?_)
      go_simp
      refine hK.out _ _ ?_
      clear hK K
      refine doneG (by kernel_rfl) ?_ _
      refine S.nrm_intro ?_
      clear HRz wz
      have IL2 := ILo.is
      obtain ⟨ao, co, rfl, _, _, _⟩ := IL2
      go_wp2_with fail
      refine (HN.out _ U _ _ ILo).mono ?_
      rintro e x5 ⟨⟨a5, n5, c5, rfl, J5⟩, u⟩
      replace U := U.trans u
      replace kC := u.blk kC
      replace kf := u.blk kf
      replace IW := IW.up u
      replace ILo := ILo.up u
      clear u
      go_wp2_with fail
      refine (Cg.out _ U _ _ _ J5).mono ?_
      rintro e x69 ⟨rfl, u70⟩
      replace U := U.trans u70
      replace kC := u70.blk kC
      replace kf := u70.blk kf
      replace IW := IW.up u70
      replace ILo := ILo.up u70
      clear u70 
      have dkCkg := blk_lt kC
      have dkfkg := blk_lt kf
      have gkg := U.size
      have kg := blk_new x69 (.cells #[.int .i64 lg, .int .i64 hg] 34) _ rfl
      replace kC := blk_keep (.cells #[.int .i64 lg, .int .i64 hg] 34) kC
      replace kf := blk_keep (.cells #[.int .i64 lg, .int .i64 hg] 34) kf
      replace U := U.alloc (.cells #[.int .i64 lg, .int .i64 hg] 34)
      replace IW := IW.up ((Up.refl x69).alloc (.cells #[.int .i64 lg, .int .i64 hg] 34))
      replace ILo := ILo.up ((Up.refl x69).alloc (.cells #[.int .i64 lg, .int .i64 hg] 34))
      obtain ⟨pkg, hpkg⟩ : ∃ z, x69.heap.size = z := ⟨_, rfl⟩
      obtain ⟨W71, hW71⟩ : ∃ z, x69.alloc (.cells #[.int .i64 lg, .int .i64 hg] 34) = z := ⟨_, rfl⟩
      rw [hpkg] at kg dkCkg dkfkg gkg
      rw [hW71] at kg U kC kf IW ILo
      skip
      clear J5 Cg Cf
      go_wp2_with fail
      try clear hpkg hW71
      refine (HN.out _ U _ _ IW).mono ?_
      rintro e x7 ⟨⟨a7, n7, c7, rfl, J7⟩, u⟩
      replace U := U.trans u
      replace kC := u.blk kC
      replace kf := u.blk kf
      replace kg := u.blk kg
      replace IW := IW.up u
      replace ILo := ILo.up u
      clear u
      go_wp2_with fail
      refine (Ch.out _ U _ _ _ J7).mono ?_
      rintro e x72 ⟨rfl, u73⟩
      replace U := U.trans u73
      replace kC := u73.blk kC
      replace kf := u73.blk kf
      replace kg := u73.blk kg
      replace IW := IW.up u73
      replace ILo := ILo.up u73
      clear u73 
      have dkCkh := blk_lt kC
      have dkfkh := blk_lt kf
      have dkgkh := blk_lt kg
      have gkh := U.size
      have kh := blk_new x72 (.cells #[.int .i64 lh, .int .i64 hh] 34) _ rfl
      replace kC := blk_keep (.cells #[.int .i64 lh, .int .i64 hh] 34) kC
      replace kf := blk_keep (.cells #[.int .i64 lh, .int .i64 hh] 34) kf
      replace kg := blk_keep (.cells #[.int .i64 lh, .int .i64 hh] 34) kg
      replace U := U.alloc (.cells #[.int .i64 lh, .int .i64 hh] 34)
      replace IW := IW.up ((Up.refl x72).alloc (.cells #[.int .i64 lh, .int .i64 hh] 34))
      replace ILo := ILo.up ((Up.refl x72).alloc (.cells #[.int .i64 lh, .int .i64 hh] 34))
      obtain ⟨pkh, hpkh⟩ : ∃ z, x72.heap.size = z := ⟨_, rfl⟩
      obtain ⟨W74, hW74⟩ : ∃ z, x72.alloc (.cells #[.int .i64 lh, .int .i64 hh] 34) = z := ⟨_, rfl⟩
      rw [hpkh] at kh dkCkh dkfkh dkgkh gkh
      rw [hW74] at kh U kC kf kg IW ILo
      skip
      clear J7 Ch HN HI HO
      go_wp2_with fail
      try clear hpkh hW74
      have CC := Lib.hid (fun w' (u : Up W74 w') => show Calls Try.prog 40 #[.slice aw LW.length cw, .int .i64 (rs.length : Int)] w' fun e w'' => e = .returned (.bool true) ∧ w' = w'' by have := B_Climbs_any (IW.up u) rs.length (by omega); rw [HCl.out] at this; exact this)
      have CA := Lib.hid (fun w' (u : Up W74 w') => B_Ahead_any (ILo.up u) (IW.up u))
      have Uz := Up.refl W74
      clear ILo IW HCl
      obtain ⟨hb, hc⟩ := HD.out
      clear HD
      obtain ⟨bv, hbv⟩ : ∃ b, T.ahd LO LW = b := ⟨_, rfl⟩
      rw [hbv] at CA hc
      clear hbv
      have hd : (LW.length < LO.length) ∨ (LO.length = LW.length) ∨ (LO.length < LW.length) := by omega
      rcases hb with ⟨b1, rfl⟩ | ⟨b1, rfl⟩
      · rcases hc with ⟨rfl, hc | ⟨hc, rfl⟩⟩ | rfl
        · clear hd
          skip
          have d1 : ((LW.length : Int) == 0) = true := by rw [beq_iff_eq]; omega
          have d2 : decide ((LO.length : Int) > (LW.length : Int)) = true := decide_eq_true (by omega)
          have d3 : ((LO.length : Int) == (LW.length : Int)) = false := by rw [beq_eq_false_iff_ne]; omega
          have d4 : (LW.length : Int) < (LO.length : Int) := by omega
          clear b1 hc
          go_wp2_with fail
          refine (CC.out _ Uz).mono ?_
          rintro e x175 ⟨rfl, rfl⟩
          go_wp2_with fail
          refine (HW.out _).mono ?_
          rintro e x176 ⟨rfl, u177⟩
          replace U := U.trans u177
          replace kC := u177.blk kC
          replace kf := u177.blk kf
          replace kg := u177.blk kg
          replace kh := u177.blk kh
          replace Uz := Uz.trans u177
          clear u177 
          go_wp2
          go_ret
          exact ⟨rfl, U⟩
        · clear hd
          skip
          have d1 : ((LW.length : Int) == 0) = true := by rw [beq_iff_eq]; omega
          have d2 : decide ((LO.length : Int) > (LW.length : Int)) = false := decide_eq_false (by omega)
          have d3 : ((LO.length : Int) == (LW.length : Int)) = true := by rw [beq_iff_eq]; omega
          have d4 : ¬ (LW.length : Int) < (LO.length : Int) := by omega
          clear b1 hc
          go_wp2_with fail
          refine (CC.out _ Uz).mono ?_
          rintro e x175 ⟨rfl, rfl⟩
          go_wp2_with fail
          refine (CA.out _ Uz).mono ?_
          rintro e x176 ⟨rfl, u177⟩
          replace U := U.trans u177
          replace kC := u177.blk kC
          replace kf := u177.blk kf
          replace kg := u177.blk kg
          replace kh := u177.blk kh
          replace Uz := Uz.trans u177
          clear u177 
          go_wp2_with fail
          refine (HW.out _).mono ?_
          rintro e x178 ⟨rfl, u179⟩
          replace U := U.trans u179
          replace kC := u179.blk kC
          replace kf := u179.blk kf
          replace kg := u179.blk kg
          replace kh := u179.blk kh
          replace Uz := Uz.trans u179
          clear u179 
          go_wp2
          go_ret
          exact ⟨rfl, U⟩
        · rcases hd with hc | hc | hc
          · skip
            have d1 : ((LW.length : Int) == 0) = true := by rw [beq_iff_eq]; omega
            have d2 : decide ((LO.length : Int) > (LW.length : Int)) = true := decide_eq_true (by omega)
            have d3 : ((LO.length : Int) == (LW.length : Int)) = false := by rw [beq_eq_false_iff_ne]; omega
            have d4 : (LW.length : Int) < (LO.length : Int) := by omega
            clear b1 hc
            go_wp2_with fail
            refine (CC.out _ Uz).mono ?_
            rintro e x175 ⟨rfl, rfl⟩
            go_wp2_with fail
            refine (HW.out _).mono ?_
            rintro e x176 ⟨rfl, u177⟩
            replace U := U.trans u177
            replace kC := u177.blk kC
            replace kf := u177.blk kf
            replace kg := u177.blk kg
            replace kh := u177.blk kh
            replace Uz := Uz.trans u177
            clear u177 
            go_wp2
            go_ret
            exact ⟨rfl, U⟩
          · cases bv with
            | false =>
              skip
              have d1 : ((LW.length : Int) == 0) = true := by rw [beq_iff_eq]; omega
              have d2 : decide ((LO.length : Int) > (LW.length : Int)) = false := decide_eq_false (by omega)
              have d3 : ((LO.length : Int) == (LW.length : Int)) = true := by rw [beq_iff_eq]; omega
              have d4 : ¬ (LW.length : Int) < (LO.length : Int) := by omega
              clear b1 hc
              go_wp2_with fail
              refine (CC.out _ Uz).mono ?_
              rintro e x175 ⟨rfl, rfl⟩
              go_wp2_with fail
              refine (CA.out _ Uz).mono ?_
              rintro e x176 ⟨rfl, u177⟩
              replace U := U.trans u177
              replace kC := u177.blk kC
              replace kf := u177.blk kf
              replace kg := u177.blk kg
              replace kh := u177.blk kh
              replace Uz := Uz.trans u177
              clear u177 
              go_wp2_with fail
              refine (HW.out _).mono ?_
              rintro e x178 ⟨rfl, u179⟩
              replace U := U.trans u179
              replace kC := u179.blk kC
              replace kf := u179.blk kf
              replace kg := u179.blk kg
              replace kh := u179.blk kh
              replace Uz := Uz.trans u179
              clear u179 
              go_wp2
              go_ret
              exact ⟨rfl, U⟩
            | true =>
              skip
              have d1 : ((LW.length : Int) == 0) = true := by rw [beq_iff_eq]; omega
              have d2 : decide ((LO.length : Int) > (LW.length : Int)) = false := decide_eq_false (by omega)
              have d3 : ((LO.length : Int) == (LW.length : Int)) = true := by rw [beq_iff_eq]; omega
              have d4 : ¬ (LW.length : Int) < (LO.length : Int) := by omega
              clear b1 hc
              go_wp2_with fail
              refine (CC.out _ Uz).mono ?_
              rintro e x175 ⟨rfl, rfl⟩
              go_wp2_with fail
              refine (CA.out _ Uz).mono ?_
              rintro e x176 ⟨rfl, u177⟩
              replace U := U.trans u177
              replace kC := u177.blk kC
              replace kf := u177.blk kf
              replace kg := u177.blk kg
              replace kh := u177.blk kh
              replace Uz := Uz.trans u177
              clear u177 
              go_wp2_with fail
              refine (HW.out _).mono ?_
              rintro e x178 ⟨rfl, u179⟩
              replace U := U.trans u179
              replace kC := u179.blk kC
              replace kf := u179.blk kf
              replace kg := u179.blk kg
              replace kh := u179.blk kh
              replace Uz := Uz.trans u179
              clear u179 
              go_wp2
              go_ret
              exact ⟨rfl, U⟩
          · skip
            have d1 : ((LW.length : Int) == 0) = true := by rw [beq_iff_eq]; omega
            have d2 : decide ((LO.length : Int) > (LW.length : Int)) = false := decide_eq_false (by omega)
            have d3 : ((LO.length : Int) == (LW.length : Int)) = false := by rw [beq_eq_false_iff_ne]; omega
            have d4 : ¬ (LW.length : Int) < (LO.length : Int) := by omega
            clear b1 hc
            go_wp2_with fail
            refine (CC.out _ Uz).mono ?_
            rintro e x175 ⟨rfl, rfl⟩
            go_wp2_with fail
            refine (HW.out _).mono ?_
            rintro e x176 ⟨rfl, u177⟩
            replace U := U.trans u177
            replace kC := u177.blk kC
            replace kf := u177.blk kf
            replace kg := u177.blk kg
            replace kh := u177.blk kh
            replace Uz := Uz.trans u177
            clear u177 
            go_wp2
            go_ret
            exact ⟨rfl, U⟩
      · rcases hc with ⟨rfl, hc | ⟨hc, rfl⟩⟩ | rfl
        · clear hd
          skip
          have d1 : ((LW.length : Int) == 0) = false := by rw [beq_eq_false_iff_ne]; omega
          have d2 : decide ((LO.length : Int) > (LW.length : Int)) = true := decide_eq_true (by omega)
          have d3 : ((LO.length : Int) == (LW.length : Int)) = false := by rw [beq_eq_false_iff_ne]; omega
          have d4 : (LW.length : Int) < (LO.length : Int) := by omega
          clear b1 hc
          go_wp2_with fail
          refine (CC.out _ Uz).mono ?_
          rintro e x175 ⟨rfl, rfl⟩
          go_wp2_with fail
          refine (HW.out _).mono ?_
          rintro e x176 ⟨rfl, u177⟩
          replace U := U.trans u177
          replace kC := u177.blk kC
          replace kf := u177.blk kf
          replace kg := u177.blk kg
          replace kh := u177.blk kh
          replace Uz := Uz.trans u177
          clear u177 
          go_wp2
          go_ret
          exact ⟨rfl, U⟩
        · clear hd
          skip
          have d1 : ((LW.length : Int) == 0) = false := by rw [beq_eq_false_iff_ne]; omega
          have d2 : decide ((LO.length : Int) > (LW.length : Int)) = false := decide_eq_false (by omega)
          have d3 : ((LO.length : Int) == (LW.length : Int)) = true := by rw [beq_iff_eq]; omega
          have d4 : ¬ (LW.length : Int) < (LO.length : Int) := by omega
          clear b1 hc
          go_wp2_with fail
          refine (CC.out _ Uz).mono ?_
          rintro e x175 ⟨rfl, rfl⟩
          go_wp2_with fail
          refine (CA.out _ Uz).mono ?_
          rintro e x176 ⟨rfl, u177⟩
          replace U := U.trans u177
          replace kC := u177.blk kC
          replace kf := u177.blk kf
          replace kg := u177.blk kg
          replace kh := u177.blk kh
          replace Uz := Uz.trans u177
          clear u177 
          go_wp2_with fail
          refine (HW.out _).mono ?_
          rintro e x178 ⟨rfl, u179⟩
          replace U := U.trans u179
          replace kC := u179.blk kC
          replace kf := u179.blk kf
          replace kg := u179.blk kg
          replace kh := u179.blk kh
          replace Uz := Uz.trans u179
          clear u179 
          go_wp2
          go_ret
          exact ⟨rfl, U⟩
        · rcases hd with hc | hc | hc
          · skip
            have d1 : ((LW.length : Int) == 0) = false := by rw [beq_eq_false_iff_ne]; omega
            have d2 : decide ((LO.length : Int) > (LW.length : Int)) = true := decide_eq_true (by omega)
            have d3 : ((LO.length : Int) == (LW.length : Int)) = false := by rw [beq_eq_false_iff_ne]; omega
            have d4 : (LW.length : Int) < (LO.length : Int) := by omega
            clear b1 hc
            go_wp2_with fail
            refine (CC.out _ Uz).mono ?_
            rintro e x175 ⟨rfl, rfl⟩
            go_wp2_with fail
            refine (HW.out _).mono ?_
            rintro e x176 ⟨rfl, u177⟩
            replace U := U.trans u177
            replace kC := u177.blk kC
            replace kf := u177.blk kf
            replace kg := u177.blk kg
            replace kh := u177.blk kh
            replace Uz := Uz.trans u177
            clear u177 
            go_wp2
            go_ret
            exact ⟨rfl, U⟩
          · cases bv with
            | false =>
              skip
              have d1 : ((LW.length : Int) == 0) = false := by rw [beq_eq_false_iff_ne]; omega
              have d2 : decide ((LO.length : Int) > (LW.length : Int)) = false := decide_eq_false (by omega)
              have d3 : ((LO.length : Int) == (LW.length : Int)) = true := by rw [beq_iff_eq]; omega
              have d4 : ¬ (LW.length : Int) < (LO.length : Int) := by omega
              clear b1 hc
              go_wp2_with fail
              refine (CC.out _ Uz).mono ?_
              rintro e x175 ⟨rfl, rfl⟩
              go_wp2_with fail
              refine (CA.out _ Uz).mono ?_
              rintro e x176 ⟨rfl, u177⟩
              replace U := U.trans u177
              replace kC := u177.blk kC
              replace kf := u177.blk kf
              replace kg := u177.blk kg
              replace kh := u177.blk kh
              replace Uz := Uz.trans u177
              clear u177 
              go_wp2_with fail
              refine (HW.out _).mono ?_
              rintro e x178 ⟨rfl, u179⟩
              replace U := U.trans u179
              replace kC := u179.blk kC
              replace kf := u179.blk kf
              replace kg := u179.blk kg
              replace kh := u179.blk kh
              replace Uz := Uz.trans u179
              clear u179 
              go_wp2
              go_ret
              exact ⟨rfl, U⟩
            | true =>
              skip
              have d1 : ((LW.length : Int) == 0) = false := by rw [beq_eq_false_iff_ne]; omega
              have d2 : decide ((LO.length : Int) > (LW.length : Int)) = false := decide_eq_false (by omega)
              have d3 : ((LO.length : Int) == (LW.length : Int)) = true := by rw [beq_iff_eq]; omega
              have d4 : ¬ (LW.length : Int) < (LO.length : Int) := by omega
              clear b1 hc
              go_wp2_with fail
              refine (CC.out _ Uz).mono ?_
              rintro e x175 ⟨rfl, rfl⟩
              go_wp2_with fail
              refine (CA.out _ Uz).mono ?_
              rintro e x176 ⟨rfl, u177⟩
              replace U := U.trans u177
              replace kC := u177.blk kC
              replace kf := u177.blk kf
              replace kg := u177.blk kg
              replace kh := u177.blk kh
              replace Uz := Uz.trans u177
              clear u177 
              go_wp2_with fail
              refine (HW.out _).mono ?_
              rintro e x178 ⟨rfl, u179⟩
              replace U := U.trans u179
              replace kC := u179.blk kC
              replace kf := u179.blk kf
              replace kg := u179.blk kg
              replace kh := u179.blk kh
              replace Uz := Uz.trans u179
              clear u179 
              go_wp2
              go_ret
              exact ⟨rfl, U⟩
          · skip
            have d1 : ((LW.length : Int) == 0) = false := by rw [beq_eq_false_iff_ne]; omega
            have d2 : decide ((LO.length : Int) > (LW.length : Int)) = false := decide_eq_false (by omega)
            have d3 : ((LO.length : Int) == (LW.length : Int)) = false := by rw [beq_eq_false_iff_ne]; omega
            have d4 : ¬ (LW.length : Int) < (LO.length : Int) := by omega
            clear b1 hc
            go_wp2_with fail
            refine (CC.out _ Uz).mono ?_
            rintro e x175 ⟨rfl, rfl⟩
            go_wp2_with fail
            refine (HW.out _).mono ?_
            rintro e x176 ⟨rfl, u177⟩
            replace U := U.trans u177
            replace kC := u177.blk kC
            replace kf := u177.blk kf
            replace kg := u177.blk kg
            replace kh := u177.blk kh
            replace Uz := Uz.trans u177
            clear u177 
            go_wp2
            go_ret
            exact ⟨rfl, U⟩
    · skip
      obtain ⟨G, tf, tg⟩ := HG.out
      obtain ⟨p1, p2⟩ := T.left_none G hs
      obtain ⟨rfl, rfl, rfl, _⟩ : ef = 22 ∧ lf = 0 ∧ hf = 0 ∧ True := by
        rcases tf.can with ⟨_, y, hy⟩ | ⟨a, b, c, _⟩
        · exact absurd hy (p1 y)
        · exact ⟨a, b, c, trivial⟩
      obtain ⟨rfl, rfl, rfl, _⟩ : eg = 22 ∧ lg = 0 ∧ hg = 0 ∧ True := by
        rcases tg.can with ⟨_, y, hy⟩ | ⟨a, b, c, _⟩
        · have := p2 t HT.out.2.2 y
          rw [HT.out.2.1] at this
          exact absurd hy this
        · exact ⟨a, b, c, trivial⟩
      clear p1 p2 tf tg G hs HG HT
      go_wp2_with fail
      refine (HS.out _ U).mono ?_
      rintro e x21 ⟨rfl, u22⟩
      replace U := U.trans u22
      replace kC := u22.blk kC
      clear u22 HS
      go_wp2_with fail
      refine (Cf.out _ U).mono ?_
      rintro e x23 ⟨rfl, u24⟩
      replace U := U.trans u24
      replace kC := u24.blk kC
      clear u24 
      have dkCkf := blk_lt kC
      have gkf := U.size
      have kf := blk_new x23 (.cells #[.int .i64 0, .int .i64 0] 34) _ rfl
      replace kC := blk_keep (.cells #[.int .i64 0, .int .i64 0] 34) kC
      replace U := U.alloc (.cells #[.int .i64 0, .int .i64 0] 34)
      go_wp2_with fail
      obtain ⟨pkf, hpkf⟩ : ∃ z, x23.heap.size = z := ⟨_, rfl⟩
      obtain ⟨W25, hW25⟩ : ∃ z, x23.alloc (.cells #[.int .i64 0, .int .i64 0] 34) = z := ⟨_, rfl⟩
      rw [hpkf] at kf dkCkf gkf
      rw [hW25] at kf U kC
      rw [hW25, hpkf]
      skip
      go_wp2_with fail
      clear hpkf hW25
      have F27 := Lib.hid (fun w (u : Up W25 w) => cellB (u.blk kC))
      have F28 := Lib.hid (fun w (u : Up W25 w) => cellB (u.blk kf))
      refine (wpIn_wide (n := 5)).1 ?_
      refine wpIn_nrm ?_
      refine T.regionQ (fun w' => Up W25 w') 9 2 hmx (by kernel_rfl) (by kernel_rfl) ((Up.refl W25).drew) (fun hCl => ?_)
      refine T.qTake (i := 0) (d := (some 37)) (v := ?v10) rfl rfl (by kernel_rfl) (by decide) hCl (by kernel_rfl) (by kernel_rfl) (by kernel_rfl) (by rfl) ?hy10 (fun _ _ _ => trivial) (fun hCl' => ?_)
      case hy10 => (intro w hSw; refine T.qVal ?_ hSw; (have fF27 := F27.out w hSw; have fF28 := F28.out w hSw); (try dsimp only [List.getElem_toArray, List.getElem_cons_succ, List.getElem_cons_zero]); go_simp; try with_reducible rfl)
      simp only [Act.put, List.setIfInBounds_toArray, List.set_cons_zero, List.set_cons_succ]
      replace hCl := hCl'; clear hCl'
      refine T.qTake (i := 1) (d := (some 38)) (v := ?v11) rfl rfl (by kernel_rfl) (by decide) hCl (by kernel_rfl) (by kernel_rfl) (by kernel_rfl) (by rfl) ?hy11 (fun _ _ _ => trivial) (fun hCl' => ?_)
      case hy11 => (intro w hSw; refine T.qVal ?_ hSw; (have fF27 := F27.out w hSw; have fF28 := F28.out w hSw); (try dsimp only [List.getElem_toArray, List.getElem_cons_succ, List.getElem_cons_zero]); go_simp; try with_reducible rfl)
      simp only [Act.put, List.setIfInBounds_toArray, List.set_cons_zero, List.set_cons_succ]
      replace hCl := hCl'; clear hCl'
      refine T.qTake (i := 6) (d := (some 43)) (v := ?v12) rfl rfl (by kernel_rfl) (by decide) hCl (by kernel_rfl) (by kernel_rfl) (by kernel_rfl) (by rfl) ?hy12 (fun _ _ _ => trivial) (fun hCl' => ?_)
      case hy12 => (intro w hSw; refine T.qVal ?_ hSw; (have fF27 := F27.out w hSw; have fF28 := F28.out w hSw); (try dsimp only [List.getElem_toArray, List.getElem_cons_succ, List.getElem_cons_zero]); go_simp; try with_reducible rfl)
      simp only [Act.put, List.setIfInBounds_toArray, List.set_cons_zero, List.set_cons_succ]
      replace hCl := hCl'; clear hCl'
      refine T.qTake (i := 2) (d := (some 39)) (v := ?v13) rfl rfl (by kernel_rfl) (by decide) hCl (by kernel_rfl) (by kernel_rfl) (by kernel_rfl) (by rfl) ?hy13 (fun _ _ _ => trivial) (fun hCl' => ?_)
      case hy13 => (intro w hSw; refine T.qVal ?_ hSw; (have fF27 := F27.out w hSw; have fF28 := F28.out w hSw); (try dsimp only [List.getElem_toArray, List.getElem_cons_succ, List.getElem_cons_zero]); go_simp; try with_reducible rfl)
      simp only [Act.put, List.setIfInBounds_toArray, List.set_cons_zero, List.set_cons_succ]
      replace hCl := hCl'; clear hCl'
      refine T.qTake (i := 7) (d := (some 44)) (v := ?v14) rfl rfl (by kernel_rfl) (by decide) hCl (by kernel_rfl) (by kernel_rfl) (by kernel_rfl) (by rfl) ?hy14 (fun _ _ _ => trivial) (fun hCl' => ?_)
      case hy14 => (intro w hSw; refine T.qVal ?_ hSw; (have fF27 := F27.out w hSw; have fF28 := F28.out w hSw); (try dsimp only [List.getElem_toArray, List.getElem_cons_succ, List.getElem_cons_zero]); go_simp; try with_reducible rfl)
      simp only [Act.put, List.setIfInBounds_toArray, List.set_cons_zero, List.set_cons_succ]
      replace hCl := hCl'; clear hCl'
      refine T.qTake (i := 3) (d := (some 40)) (v := ?v15) rfl rfl (by kernel_rfl) (by decide) hCl (by kernel_rfl) (by kernel_rfl) (by kernel_rfl) (by rfl) ?hy15 (fun _ _ _ => trivial) (fun hCl' => ?_)
      case hy15 => (intro w hSw; refine T.qVal ?_ hSw; (have fF27 := F27.out w hSw; have fF28 := F28.out w hSw); (try dsimp only [List.getElem_toArray, List.getElem_cons_succ, List.getElem_cons_zero]); go_simp; try with_reducible rfl)
      simp only [Act.put, List.setIfInBounds_toArray, List.set_cons_zero, List.set_cons_succ]
      replace hCl := hCl'; clear hCl'
      refine T.qTake (i := 8) (d := (some 45)) (v := ?v16) rfl rfl (by kernel_rfl) (by decide) hCl (by kernel_rfl) (by kernel_rfl) (by kernel_rfl) (by rfl) ?hy16 (fun _ _ _ => trivial) (fun hCl' => ?_)
      case hy16 => (intro w hSw; refine T.qVal ?_ hSw; (have fF27 := F27.out w hSw; have fF28 := F28.out w hSw); (try dsimp only [List.getElem_toArray, List.getElem_cons_succ, List.getElem_cons_zero]); go_simp; try with_reducible rfl)
      simp only [Act.put, List.setIfInBounds_toArray, List.set_cons_zero, List.set_cons_succ]
      replace hCl := hCl'; clear hCl'
      refine T.qTake (i := 4) (d := (some 41)) (v := ((.int .i64 (two : Int)))) rfl rfl (by kernel_rfl) (by decide) hCl (by kernel_rfl) (by kernel_rfl) (by kernel_rfl) (by rfl) ?hy17 (fun _ _ _ => trivial) (fun hCl' => ?_)
      case hy17 => (intro w hSw; (have fF27 := F27.out w hSw; have fF28 := F28.out w hSw); (try dsimp only [List.getElem_toArray, List.getElem_cons_succ, List.getElem_cons_zero]); refine T.qVal ?_ hSw; go_simp)
      simp only [Act.put, List.setIfInBounds_toArray, List.set_cons_zero, List.set_cons_succ]
      replace hCl := hCl'; clear hCl'
      refine T.qTake (i := 5) (d := (some 42)) (v := ((.int .i64 (zz : Int)))) rfl rfl (by kernel_rfl) (by decide) hCl (by kernel_rfl) (by kernel_rfl) (by kernel_rfl) (by rfl) ?hy18 (fun _ _ _ => trivial) (fun hCl' => ?_)
      case hy18 => (intro w hSw; (have fF27 := F27.out w hSw; have fF28 := F28.out w hSw); (try dsimp only [List.getElem_toArray, List.getElem_cons_succ, List.getElem_cons_zero]); go_simp; (refine (callsIn_wide.2 (HRz.out w)).mono ?_; rintro e w3 ⟨rfl, rfl⟩; exact ⟨rfl, hSw⟩))
      simp only [Act.put, List.setIfInBounds_toArray, List.set_cons_zero, List.set_cons_succ]
      replace hCl := hCl'; clear hCl'
      refine T.tail_intro (by kernel_rfl) (fun Y26 hY26 => ?_)
      replace U := U.trans hY26
      replace kC := hY26.blk kC
      replace kf := hY26.blk kf
      clear F27 F28 hY26
      refine lastG (i := 9) (by kernel_rfl) rfl (by rfl) (by decide) (fun K hK => ?_)
      go_simp
      refine ⟨trivial, (callsIn_wide.2 (HL.out _)).mono ?_⟩
      rintro e xo ⟨⟨vo, rfl, ILo⟩, u⟩
      replace U := U.trans u
      replace kC := u.blk kC
      replace kf := u.blk kf
      clear u HL
      refine hK.out _ _ ?_
      clear hK K
      refine lastG (i := 10) (by kernel_rfl) rfl (by rfl) (by decide) (fun K hK => ?_)
      go_simp
      refine hK.out _ _ ?_
      clear hK K
      refine doneG (by kernel_rfl) ?_ _
      refine S.nrm_intro ?_
      clear HRz wz
      have IL2 := ILo.is
      obtain ⟨ao, co, rfl, _, _, _⟩ := IL2
      go_wp2_with fail
      refine (HN.out _ U _ _ ILo).mono ?_
      rintro e x5 ⟨⟨a5, n5, c5, rfl, J5⟩, u⟩
      replace U := U.trans u
      replace kC := u.blk kC
      replace kf := u.blk kf
      replace ILo := ILo.up u
      clear u
      go_wp2_with fail
      refine (Cg.out _ U _ _ _ J5).mono ?_
      rintro e x29 ⟨rfl, u30⟩
      replace U := U.trans u30
      replace kC := u30.blk kC
      replace kf := u30.blk kf
      replace ILo := ILo.up u30
      clear u30 
      have dkCkg := blk_lt kC
      have dkfkg := blk_lt kf
      have gkg := U.size
      have kg := blk_new x29 (.cells #[.int .i64 0, .int .i64 0] 34) _ rfl
      replace kC := blk_keep (.cells #[.int .i64 0, .int .i64 0] 34) kC
      replace kf := blk_keep (.cells #[.int .i64 0, .int .i64 0] 34) kf
      replace U := U.alloc (.cells #[.int .i64 0, .int .i64 0] 34)
      replace ILo := ILo.up ((Up.refl x29).alloc (.cells #[.int .i64 0, .int .i64 0] 34))
      go_wp2_with fail
      obtain ⟨pkg, hpkg⟩ : ∃ z, x29.heap.size = z := ⟨_, rfl⟩
      obtain ⟨W31, hW31⟩ : ∃ z, x29.alloc (.cells #[.int .i64 0, .int .i64 0] 34) = z := ⟨_, rfl⟩
      rw [hpkg] at kg dkCkg dkfkg gkg
      rw [hW31] at kg U kC kf ILo
      rw [hW31, hpkg]
      skip
      clear J5 Cg Cf
      go_wp2_with fail
      try clear hpkg hW31
      refine (HW.out _).mono ?_
      rintro e x32 ⟨rfl, u33⟩
      replace U := U.trans u33
      replace kC := u33.blk kC
      replace kf := u33.blk kf
      replace kg := u33.blk kg
      replace ILo := ILo.up u33
      clear u33 
      go_wp2
      go_ret
      exact ⟨rfl, U⟩
end

end Go.Proofs.Ytonklhfpjooheaa
