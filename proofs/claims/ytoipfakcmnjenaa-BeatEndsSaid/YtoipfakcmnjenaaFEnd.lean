import Derived.Test.YtoipfakcmnjenaaCst
import Derived.Test.YtoipfakcmnjenaaLsy
import Derived.Test.YtoipfakcmnjenaaMay
import Derived.Test.YtoipfakcmnjenaaFst
/- The law BeatEnds. -/
namespace Go.Proofs.Ytoipfakcmnjenaa
open Go.RowKit Go.Shelf
attribute [local go_sem] Oper.semAt_some

theorem T.Tells.ends {H : Nat} {rs : T.LR} {os : T.LO} {ps : T.LP} {m1 m2 : Int × Int} {l h n : Int} {most : Bool} (t : T.Tells H rs os ps m1 m2 l h 0) (e : n = if most then h else l) : l ≤ n ∧ n ≤ h := by
  have q := t.yes
  obtain ⟨p, ⟨y, y1, y2⟩, z, z1, z2⟩ := q
  have a := p y y1
  cases most
  · rw [if_neg (by decide)] at e; omega
  · rw [if_pos rfl] at e; omega
section
variable {aR aO aP : Option Addr} {nR cR nO cO nP cP : Nat} {rs : T.LR} {os : T.LO} {ps : T.LP}
set_option maxRecDepth 100000 in
set_option maxHeartbeats 8000000 in
theorem beatEnds_any {Hi n0 n1 n2 n3 : Int} {w : World} (I : Sps w (.slice aR nR cR) rs) (IO : Ops w (.slice aO nO cO) os) (IP : Prs w (.slice aP nP cP) ps) :
    Calls Try.prog 8 #[ClV Hi (.slice aR nR cR) (.slice aO nO cO) (.slice aP nP cP), .agg #[.int .i64 n0, .int .i64 n1, .int .i64 n2, .int .i64 n3]] w fun e w' => e = .returned (.bool true) ∧ Up w w' := by
  have U := ((Up.refl w).alloc (.cells #[.int .i64 Hi, .slice aR nR cR, .slice aO nO cO, .slice aP nP cP] 26)).alloc (.cells #[.int .i64 n0, .int .i64 n1, .int .i64 n2, .int .i64 n3] 52)
  have HW := Lib.hid (fun w => l_works_any w)
  cases hv : T.valid Hi rs os ps with
  | false =>
    have HS := Lib.hid (fun w' (u : Up w w') => l_sound_no (I.up u) (IO.up u) (IP.up u) hv)
    clear hv I IO IP
    go_enter Try.func8, Try.ntmps8
    go_wp2_with fail
    refine (HS.out _ U).mono ?_
    rintro e w1 ⟨rfl, u1⟩
    go_wp2_with fail
    refine (HW.out _).mono ?_
    rintro e w2 ⟨rfl, u2⟩
    go_wp2
    go_ret
    exact ⟨rfl, (U.trans u1).trans u2⟩
  | true =>
    obtain ⟨H, rfl⟩ := T.valid_nat hv
    have G := T.valid_good.1 hv
    have hn := I.len
    subst hn
    have q1 := G.h1
    have q2 := G.h2
    have q3 := G.r1
    have q4 := G.r2
    have HS := Lib.hid (fun w' (u : Up w w') => l_sound_yes (I.up u) (IO.up u) (IP.up u) hv)
    have HRk := Lib.hid (fun w => B_Rest_any n0 (rs.length : Int) w (by omega) (by omega))
    have ak := Int.emod_nonneg n0 (b := (rs.length : Int)) (by omega)
    have bk := Int.emod_lt_of_pos n0 (b := (rs.length : Int)) (by omega)
    generalize n0 % (rs.length : Int) = k at *
    obtain ⟨k, rfl⟩ := Int.eq_ofNat_of_zero_le ak
    have HRi := Lib.hid (fun w => B_Rest_any n1 (rs.length : Int) w (by omega) (by omega))
    have ai := Int.emod_nonneg n1 (b := (rs.length : Int)) (by omega)
    have bi := Int.emod_lt_of_pos n1 (b := (rs.length : Int)) (by omega)
    generalize n1 % (rs.length : Int) = i at *
    obtain ⟨i, rfl⟩ := Int.eq_ofNat_of_zero_le ai
    have HRh := Lib.hid (fun w => B_Rest_any n2 ((H : Int) + 1) w (by omega) (by omega))
    have ah := Int.emod_nonneg n2 (b := ((H : Int) + 1)) (by omega)
    have bh := Int.emod_lt_of_pos n2 (b := ((H : Int) + 1)) (by omega)
    generalize n2 % ((H : Int) + 1) = h at *
    obtain ⟨h, rfl⟩ := Int.eq_ofNat_of_zero_le ah
    have HRg := Lib.hid (fun w => B_Rest_any n3 ((H : Int) + 1) w (by omega) (by omega))
    have ag := Int.emod_nonneg n3 (b := ((H : Int) + 1)) (by omega)
    have bg := Int.emod_lt_of_pos n3 (b := ((H : Int) + 1)) (by omega)
    generalize n3 % ((H : Int) + 1) = g at *
    obtain ⟨g, rfl⟩ := Int.eq_ofNat_of_zero_le ag
    obtain ⟨ls, hs, es, ts⟩ := T.Tells.ex (m1 := ((k : Int), (h : Int))) (m2 := (-1, 0)) G (T.mom_in ⟨ak, bk⟩ ⟨ah, by omega⟩) T.mom_0
    have Cs := Lib.hid (fun w' (u : Up w w') => Offset_tells G ⟨ak, bk⟩ ⟨ah, by omega⟩ ts (I.up u) (IO.up u) (IP.up u))
    obtain ⟨lt, ht, et, tt⟩ := T.Tells.ex (m1 := ((i : Int), (g : Int))) (m2 := (-1, 0)) G (T.mom_in ⟨ai, bi⟩ ⟨ag, by omega⟩) T.mom_0
    have Ct := Lib.hid (fun w' (u : Up w w') => Offset_tells G ⟨ai, bi⟩ ⟨ag, by omega⟩ tt (I.up u) (IO.up u) (IP.up u))
    obtain rfl := ts.same tt
    have wH : IntKind.i64.wrap ((H : Int) + 1) = (H : Int) + 1 := IntWalk.i64_in _ (by omega)
    have hmx : Try.prog.follows .mixedOrders = true := by kernel_rfl
    rcases ts.err with rfl | ⟨rfl, rfl, rfl⟩
    case inr =>
      obtain ⟨rfl, rfl⟩ : lt = 0 ∧ ht = 0 := by
        have := tt.no (by decide)
        exact ⟨this.2.1, this.2.2.1⟩
      clear tt ts q1 q2 q3 q4 hv ak bk ai bi ah bh ag bg
      clear I IO IP
      go_enter Try.func8, Try.ntmps8
      obtain ⟨q0, e0⟩ : ∃ x, w.heap.size = x := ⟨_, rfl⟩
      have kC := blk_keep (.cells #[.int .i64 n0, .int .i64 n1, .int .i64 n2, .int .i64 n3] 52) (blk_new w (.cells #[.int .i64 H, .slice aR rs.length cR, .slice aO nO cO, .slice aP nP cP] 26) q0 e0.symm)
      have kN := blk_new (w.alloc (.cells #[.int .i64 H, .slice aR rs.length cR, .slice aO nO cO, .slice aP nP cP] 26)) (.cells #[.int .i64 n0, .int .i64 n1, .int .i64 n2, .int .i64 n3] 52) (q0 + 1) (by simp [e0])
      go_wp2_with fail
      refine (HS.out _ U).mono ?_
      rintro e x1 ⟨rfl, u2⟩
      replace U := U.trans u2
      replace kC := u2.blk kC
      replace kN := u2.blk kN
      clear u2 HS
      go_wp2_with fail
      have F4 := Lib.hid (fun w (u : Up x1 w) => cellB (u.blk kC))
      have F5 := Lib.hid (fun w (u : Up x1 w) => cellB (u.blk kN))
      refine (wpIn_wide (n := 5)).1 ?_
      refine wpIn_nrm ?_
      refine T.regionQ (fun w' => Up x1 w') 13 1 hmx (by kernel_rfl) (by kernel_rfl) ((Up.refl x1).drew) (fun hCl => ?_)
      refine T.qTake (i := 0) (d := (some 22)) (v := ?v1) rfl rfl (by kernel_rfl) (by decide) hCl (by kernel_rfl) (by kernel_rfl) (by kernel_rfl) (by rfl) ?hy1 (fun _ _ _ => trivial) (fun hCl' => ?_)
      case hy1 => (intro w hSw; refine T.qVal ?_ hSw; (have fF4 := F4.out w hSw; have fF5 := F5.out w hSw); (try dsimp only [List.getElem_toArray, List.getElem_cons_succ, List.getElem_cons_zero]); go_simp; try with_reducible rfl)
      simp only [Act.put, List.setIfInBounds_toArray, List.set_cons_zero, List.set_cons_succ]
      replace hCl := hCl'; clear hCl'
      refine T.qTake (i := 2) (d := (some 24)) (v := ?v2) rfl rfl (by kernel_rfl) (by decide) hCl (by kernel_rfl) (by kernel_rfl) (by kernel_rfl) (by rfl) ?hy2 (fun _ _ _ => trivial) (fun hCl' => ?_)
      case hy2 => (intro w hSw; refine T.qVal ?_ hSw; (have fF4 := F4.out w hSw; have fF5 := F5.out w hSw); (try dsimp only [List.getElem_toArray, List.getElem_cons_succ, List.getElem_cons_zero]); go_simp; try with_reducible rfl)
      simp only [Act.put, List.setIfInBounds_toArray, List.set_cons_zero, List.set_cons_succ]
      replace hCl := hCl'; clear hCl'
      refine T.qTake (i := 6) (d := (some 28)) (v := ?v3) rfl rfl (by kernel_rfl) (by decide) hCl (by kernel_rfl) (by kernel_rfl) (by kernel_rfl) (by rfl) ?hy3 (fun _ _ _ => trivial) (fun hCl' => ?_)
      case hy3 => (intro w hSw; refine T.qVal ?_ hSw; (have fF4 := F4.out w hSw; have fF5 := F5.out w hSw); (try dsimp only [List.getElem_toArray, List.getElem_cons_succ, List.getElem_cons_zero]); go_simp; try with_reducible rfl)
      simp only [Act.put, List.setIfInBounds_toArray, List.set_cons_zero, List.set_cons_succ]
      replace hCl := hCl'; clear hCl'
      refine T.qTake (i := 8) (d := (some 30)) (v := ?v4) rfl rfl (by kernel_rfl) (by decide) hCl (by kernel_rfl) (by kernel_rfl) (by kernel_rfl) (by rfl) ?hy4 (fun _ _ _ => trivial) (fun hCl' => ?_)
      case hy4 => (intro w hSw; refine T.qVal ?_ hSw; (have fF4 := F4.out w hSw; have fF5 := F5.out w hSw); (try dsimp only [List.getElem_toArray, List.getElem_cons_succ, List.getElem_cons_zero]); go_simp; try with_reducible rfl)
      simp only [Act.put, List.setIfInBounds_toArray, List.set_cons_zero, List.set_cons_succ]
      replace hCl := hCl'; clear hCl'
      refine T.qTake (i := 1) (d := (some 23)) (v := ?v5) rfl rfl (by kernel_rfl) (by decide) hCl (by kernel_rfl) (by kernel_rfl) (by kernel_rfl) (by rfl) ?hy5 (fun _ _ _ => trivial) (fun hCl' => ?_)
      case hy5 => (intro w hSw; refine T.qVal ?_ hSw; (have fF4 := F4.out w hSw; have fF5 := F5.out w hSw); (try dsimp only [List.getElem_toArray, List.getElem_cons_succ, List.getElem_cons_zero]); go_simp; try with_reducible rfl)
      simp only [Act.put, List.setIfInBounds_toArray, List.set_cons_zero, List.set_cons_succ]
      replace hCl := hCl'; clear hCl'
      refine T.qTake (i := 3) (d := (some 25)) (v := ?v6) rfl rfl (by kernel_rfl) (by decide) hCl (by kernel_rfl) (by kernel_rfl) (by kernel_rfl) (by rfl) ?hy6 (fun _ _ _ => trivial) (fun hCl' => ?_)
      case hy6 => (intro w hSw; refine T.qVal ?_ hSw; (have fF4 := F4.out w hSw; have fF5 := F5.out w hSw); (try dsimp only [List.getElem_toArray, List.getElem_cons_succ, List.getElem_cons_zero]); go_simp; try with_reducible rfl)
      simp only [Act.put, List.setIfInBounds_toArray, List.set_cons_zero, List.set_cons_succ]
      replace hCl := hCl'; clear hCl'
      refine T.qTake (i := 7) (d := (some 29)) (v := ?v7) rfl rfl (by kernel_rfl) (by decide) hCl (by kernel_rfl) (by kernel_rfl) (by kernel_rfl) (by rfl) ?hy7 (fun _ _ _ => trivial) (fun hCl' => ?_)
      case hy7 => (intro w hSw; refine T.qVal ?_ hSw; (have fF4 := F4.out w hSw; have fF5 := F5.out w hSw); (try dsimp only [List.getElem_toArray, List.getElem_cons_succ, List.getElem_cons_zero]); go_simp; try with_reducible rfl)
      simp only [Act.put, List.setIfInBounds_toArray, List.set_cons_zero, List.set_cons_succ]
      replace hCl := hCl'; clear hCl'
      refine T.qTake (i := 9) (d := (some 31)) (v := ?v8) rfl rfl (by kernel_rfl) (by decide) hCl (by kernel_rfl) (by kernel_rfl) (by kernel_rfl) (by rfl) ?hy8 (fun _ _ _ => trivial) (fun hCl' => ?_)
      case hy8 => (intro w hSw; refine T.qVal ?_ hSw; (have fF4 := F4.out w hSw; have fF5 := F5.out w hSw); (try dsimp only [List.getElem_toArray, List.getElem_cons_succ, List.getElem_cons_zero]); go_simp; try with_reducible rfl)
      simp only [Act.put, List.setIfInBounds_toArray, List.set_cons_zero, List.set_cons_succ]
      replace hCl := hCl'; clear hCl'
      refine T.qTake (i := 4) (d := (some 26)) (v := ?v9) rfl rfl (by kernel_rfl) (by decide) hCl (by kernel_rfl) (by kernel_rfl) (by kernel_rfl) (by rfl) ?hy9 (fun _ _ _ => trivial) (fun hCl' => ?_)
      case hy9 => (intro w hSw; refine T.qVal ?_ hSw; (have fF4 := F4.out w hSw; have fF5 := F5.out w hSw); (try dsimp only [List.getElem_toArray, List.getElem_cons_succ, List.getElem_cons_zero]); go_simp; try with_reducible rfl)
      simp only [Act.put, List.setIfInBounds_toArray, List.set_cons_zero, List.set_cons_succ]
      replace hCl := hCl'; clear hCl'
      refine T.qTake (i := 10) (d := (some 32)) (v := ?v10) rfl rfl (by kernel_rfl) (by decide) hCl (by kernel_rfl) (by kernel_rfl) (by kernel_rfl) (by rfl) ?hy10 (fun _ _ _ => trivial) (fun hCl' => ?_)
      case hy10 => (intro w hSw; refine T.qVal ?_ hSw; (have fF4 := F4.out w hSw; have fF5 := F5.out w hSw); (try dsimp only [List.getElem_toArray, List.getElem_cons_succ, List.getElem_cons_zero]); go_simp; try with_reducible rfl)
      simp only [Act.put, List.setIfInBounds_toArray, List.set_cons_zero, List.set_cons_succ]
      replace hCl := hCl'; clear hCl'
      refine T.qTake (i := 5) (d := (some 27)) (v := ((.int .i64 (k : Int)))) rfl rfl (by kernel_rfl) (by decide) hCl (by kernel_rfl) (by kernel_rfl) (by kernel_rfl) (by rfl) ?hy11 (fun _ _ _ => trivial) (fun hCl' => ?_)
      case hy11 => (intro w hSw; (have fF4 := F4.out w hSw; have fF5 := F5.out w hSw); (try dsimp only [List.getElem_toArray, List.getElem_cons_succ, List.getElem_cons_zero]); go_simp; (refine (callsIn_wide.2 (HRk.out w)).mono ?_; rintro e w3 ⟨rfl, rfl⟩; exact ⟨rfl, hSw⟩))
      simp only [Act.put, List.setIfInBounds_toArray, List.set_cons_zero, List.set_cons_succ]
      replace hCl := hCl'; clear hCl'
      refine T.qTake (i := 11) (d := (some 33)) (v := ((.int .i64 (i : Int)))) rfl rfl (by kernel_rfl) (by decide) hCl (by kernel_rfl) (by kernel_rfl) (by kernel_rfl) (by rfl) ?hy12 (fun _ _ _ => trivial) (fun hCl' => ?_)
      case hy12 => (intro w hSw; (have fF4 := F4.out w hSw; have fF5 := F5.out w hSw); (try dsimp only [List.getElem_toArray, List.getElem_cons_succ, List.getElem_cons_zero]); go_simp; (refine (callsIn_wide.2 (HRi.out w)).mono ?_; rintro e w3 ⟨rfl, rfl⟩; exact ⟨rfl, hSw⟩))
      simp only [Act.put, List.setIfInBounds_toArray, List.set_cons_zero, List.set_cons_succ]
      replace hCl := hCl'; clear hCl'
      refine T.qTake (i := 12) (d := (some 5)) (v := ?v13) rfl rfl (by kernel_rfl) (by decide) hCl (by kernel_rfl) (by kernel_rfl) (by kernel_rfl) (by rfl) ?hy13 (fun _ _ _ => trivial) (fun hCl' => ?_)
      case hy13 => (intro w hSw; refine T.qVal ?_ hSw; (have fF4 := F4.out w hSw; have fF5 := F5.out w hSw); (try dsimp only [List.getElem_toArray, List.getElem_cons_succ, List.getElem_cons_zero]); go_simp; try with_reducible rfl)
      simp only [Act.put, List.setIfInBounds_toArray, List.set_cons_zero, List.set_cons_succ]
      replace hCl := hCl'; clear hCl'
      refine T.tail_intro (by kernel_rfl) (fun Y3 hY3 => ?_)
      replace U := U.trans hY3
      replace kC := hY3.blk kC
      replace kN := hY3.blk kN
      clear F4 F5 hY3
      refine lastG (i := 13) (by kernel_rfl) rfl (by rfl) (by decide) (fun K hK => ?_)
      go_simp
      refine hK.out _ _ ?_
      clear hK K
      refine doneG (by kernel_rfl) ?_ _
      refine S.nrm_intro ?_
      go_wp2_with fail
      have F7 := Lib.hid (fun w (u : Up Y3 w) => cellB (u.blk kC))
      have F8 := Lib.hid (fun w (u : Up Y3 w) => cellB (u.blk kN))
      refine (wpIn_wide (n := 5)).1 ?_
      refine wpIn_nrm ?_
      refine T.regionQ (fun w' => Up Y3 w') 13 1 hmx (by kernel_rfl) (by kernel_rfl) ((Up.refl Y3).drew) (fun hCl => ?_)
      refine T.qTake (i := 0) (d := (some 34)) (v := ?v14) rfl rfl (by kernel_rfl) (by decide) hCl (by kernel_rfl) (by kernel_rfl) (by kernel_rfl) (by rfl) ?hy14 (fun _ _ _ => trivial) (fun hCl' => ?_)
      case hy14 => (intro w hSw; refine T.qVal ?_ hSw; (have fF7 := F7.out w hSw; have fF8 := F8.out w hSw); (try dsimp only [List.getElem_toArray, List.getElem_cons_succ, List.getElem_cons_zero]); go_simp; try with_reducible rfl)
      simp only [Act.put, List.setIfInBounds_toArray, List.set_cons_zero, List.set_cons_succ]
      replace hCl := hCl'; clear hCl'
      refine T.qTake (i := 2) (d := (some 36)) (v := ?v15) rfl rfl (by kernel_rfl) (by decide) hCl (by kernel_rfl) (by kernel_rfl) (by kernel_rfl) (by rfl) ?hy15 (fun _ _ _ => trivial) (fun hCl' => ?_)
      case hy15 => (intro w hSw; refine T.qVal ?_ hSw; (have fF7 := F7.out w hSw; have fF8 := F8.out w hSw); (try dsimp only [List.getElem_toArray, List.getElem_cons_succ, List.getElem_cons_zero]); go_simp; try with_reducible rfl)
      simp only [Act.put, List.setIfInBounds_toArray, List.set_cons_zero, List.set_cons_succ]
      replace hCl := hCl'; clear hCl'
      refine T.qTake (i := 6) (d := (some 40)) (v := ?v16) rfl rfl (by kernel_rfl) (by decide) hCl (by kernel_rfl) (by kernel_rfl) (by kernel_rfl) (by rfl) ?hy16 (fun _ _ _ => trivial) (fun hCl' => ?_)
      case hy16 => (intro w hSw; refine T.qVal ?_ hSw; (have fF7 := F7.out w hSw; have fF8 := F8.out w hSw); (try dsimp only [List.getElem_toArray, List.getElem_cons_succ, List.getElem_cons_zero]); go_simp; try with_reducible rfl)
      simp only [Act.put, List.setIfInBounds_toArray, List.set_cons_zero, List.set_cons_succ]
      replace hCl := hCl'; clear hCl'
      refine T.qTake (i := 8) (d := (some 42)) (v := ?v17) rfl rfl (by kernel_rfl) (by decide) hCl (by kernel_rfl) (by kernel_rfl) (by kernel_rfl) (by rfl) ?hy17 (fun _ _ _ => trivial) (fun hCl' => ?_)
      case hy17 => (intro w hSw; refine T.qVal ?_ hSw; (have fF7 := F7.out w hSw; have fF8 := F8.out w hSw); (try dsimp only [List.getElem_toArray, List.getElem_cons_succ, List.getElem_cons_zero]); go_simp; try with_reducible rfl)
      simp only [Act.put, List.setIfInBounds_toArray, List.set_cons_zero, List.set_cons_succ]
      replace hCl := hCl'; clear hCl'
      refine T.qTake (i := 1) (d := (some 35)) (v := ?v18) rfl rfl (by kernel_rfl) (by decide) hCl (by kernel_rfl) (by kernel_rfl) (by kernel_rfl) (by rfl) ?hy18 (fun _ _ _ => trivial) (fun hCl' => ?_)
      case hy18 => (intro w hSw; refine T.qVal ?_ hSw; (have fF7 := F7.out w hSw; have fF8 := F8.out w hSw); (try dsimp only [List.getElem_toArray, List.getElem_cons_succ, List.getElem_cons_zero]); go_simp; try with_reducible rfl)
      simp only [Act.put, List.setIfInBounds_toArray, List.set_cons_zero, List.set_cons_succ]
      replace hCl := hCl'; clear hCl'
      refine T.qTake (i := 3) (d := (some 37)) (v := ?v19) rfl rfl (by kernel_rfl) (by decide) hCl (by kernel_rfl) (by kernel_rfl) (by kernel_rfl) (by rfl) ?hy19 (fun _ _ _ => trivial) (fun hCl' => ?_)
      case hy19 => (intro w hSw; refine T.qVal ?_ hSw; (have fF7 := F7.out w hSw; have fF8 := F8.out w hSw); (try dsimp only [List.getElem_toArray, List.getElem_cons_succ, List.getElem_cons_zero]); go_simp; try with_reducible rfl)
      simp only [Act.put, List.setIfInBounds_toArray, List.set_cons_zero, List.set_cons_succ]
      replace hCl := hCl'; clear hCl'
      refine T.qTake (i := 7) (d := (some 41)) (v := ?v20) rfl rfl (by kernel_rfl) (by decide) hCl (by kernel_rfl) (by kernel_rfl) (by kernel_rfl) (by rfl) ?hy20 (fun _ _ _ => trivial) (fun hCl' => ?_)
      case hy20 => (intro w hSw; refine T.qVal ?_ hSw; (have fF7 := F7.out w hSw; have fF8 := F8.out w hSw); (try dsimp only [List.getElem_toArray, List.getElem_cons_succ, List.getElem_cons_zero]); go_simp; try with_reducible rfl)
      simp only [Act.put, List.setIfInBounds_toArray, List.set_cons_zero, List.set_cons_succ]
      replace hCl := hCl'; clear hCl'
      refine T.qTake (i := 9) (d := (some 43)) (v := ?v21) rfl rfl (by kernel_rfl) (by decide) hCl (by kernel_rfl) (by kernel_rfl) (by kernel_rfl) (by rfl) ?hy21 (fun _ _ _ => trivial) (fun hCl' => ?_)
      case hy21 => (intro w hSw; refine T.qVal ?_ hSw; (have fF7 := F7.out w hSw; have fF8 := F8.out w hSw); (try dsimp only [List.getElem_toArray, List.getElem_cons_succ, List.getElem_cons_zero]); go_simp; try with_reducible rfl)
      simp only [Act.put, List.setIfInBounds_toArray, List.set_cons_zero, List.set_cons_succ]
      replace hCl := hCl'; clear hCl'
      refine T.qTake (i := 4) (d := (some 38)) (v := ?v22) rfl rfl (by kernel_rfl) (by decide) hCl (by kernel_rfl) (by kernel_rfl) (by kernel_rfl) (by rfl) ?hy22 (fun _ _ _ => trivial) (fun hCl' => ?_)
      case hy22 => (intro w hSw; refine T.qVal ?_ hSw; (have fF7 := F7.out w hSw; have fF8 := F8.out w hSw); (try dsimp only [List.getElem_toArray, List.getElem_cons_succ, List.getElem_cons_zero]); go_simp; try with_reducible rfl)
      simp only [Act.put, List.setIfInBounds_toArray, List.set_cons_zero, List.set_cons_succ]
      replace hCl := hCl'; clear hCl'
      refine T.qTake (i := 10) (d := (some 44)) (v := ?v23) rfl rfl (by kernel_rfl) (by decide) hCl (by kernel_rfl) (by kernel_rfl) (by kernel_rfl) (by rfl) ?hy23 (fun _ _ _ => trivial) (fun hCl' => ?_)
      case hy23 => (intro w hSw; refine T.qVal ?_ hSw; (have fF7 := F7.out w hSw; have fF8 := F8.out w hSw); (try dsimp only [List.getElem_toArray, List.getElem_cons_succ, List.getElem_cons_zero]); go_simp; try with_reducible rfl)
      simp only [Act.put, List.setIfInBounds_toArray, List.set_cons_zero, List.set_cons_succ]
      replace hCl := hCl'; clear hCl'
      refine T.qTake (i := 5) (d := (some 39)) (v := ((.int .i64 (h : Int)))) rfl rfl (by kernel_rfl) (by decide) hCl (by kernel_rfl) (by kernel_rfl) (by kernel_rfl) (by rfl) ?hy24 (fun _ _ _ => trivial) (fun hCl' => ?_)
      case hy24 => (intro w hSw; (have fF7 := F7.out w hSw; have fF8 := F8.out w hSw); (try dsimp only [List.getElem_toArray, List.getElem_cons_succ, List.getElem_cons_zero]); go_simp; (refine (callsIn_wide.2 (HRh.out w)).mono ?_; rintro e w3 ⟨rfl, rfl⟩; exact ⟨rfl, hSw⟩))
      simp only [Act.put, List.setIfInBounds_toArray, List.set_cons_zero, List.set_cons_succ]
      replace hCl := hCl'; clear hCl'
      refine T.qTake (i := 11) (d := (some 45)) (v := ((.int .i64 (g : Int)))) rfl rfl (by kernel_rfl) (by decide) hCl (by kernel_rfl) (by kernel_rfl) (by kernel_rfl) (by rfl) ?hy25 (fun _ _ _ => trivial) (fun hCl' => ?_)
      case hy25 => (intro w hSw; (have fF7 := F7.out w hSw; have fF8 := F8.out w hSw); (try dsimp only [List.getElem_toArray, List.getElem_cons_succ, List.getElem_cons_zero]); go_simp; (refine (callsIn_wide.2 (HRg.out w)).mono ?_; rintro e w3 ⟨rfl, rfl⟩; exact ⟨rfl, hSw⟩))
      simp only [Act.put, List.setIfInBounds_toArray, List.set_cons_zero, List.set_cons_succ]
      replace hCl := hCl'; clear hCl'
      refine T.qTake (i := 12) (d := (some 7)) (v := ?v26) rfl rfl (by kernel_rfl) (by decide) hCl (by kernel_rfl) (by kernel_rfl) (by kernel_rfl) (by rfl) ?hy26 (fun _ _ _ => trivial) (fun hCl' => ?_)
      case hy26 => (intro w hSw; refine T.qVal ?_ hSw; (have fF7 := F7.out w hSw; have fF8 := F8.out w hSw); (try dsimp only [List.getElem_toArray, List.getElem_cons_succ, List.getElem_cons_zero]); go_simp; try with_reducible rfl)
      simp only [Act.put, List.setIfInBounds_toArray, List.set_cons_zero, List.set_cons_succ]
      replace hCl := hCl'; clear hCl'
      refine T.tail_intro (by kernel_rfl) (fun Y6 hY6 => ?_)
      replace U := U.trans hY6
      replace kC := hY6.blk kC
      replace kN := hY6.blk kN
      clear F7 F8 hY6
      refine lastG (i := 13) (by kernel_rfl) rfl (by rfl) (by decide) (fun K hK => ?_)
      go_simp
      refine hK.out _ _ ?_
      clear hK K
      refine doneG (by kernel_rfl) ?_ _
      refine S.nrm_intro ?_
      clear HRi HRk HRh HRg
      clear kN
      go_wp2_with fail
      refine (Cs.out _ U).mono ?_
      rintro e x9 ⟨rfl, u10⟩
      replace U := U.trans u10
      replace kC := u10.blk kC
      clear u10 
      have dkCks := blk_lt kC
      have gks := U.size
      have ks := blk_new x9 (.cells #[.int .i64 0, .int .i64 0] 34) _ rfl
      replace kC := blk_keep (.cells #[.int .i64 0, .int .i64 0] 34) kC
      replace U := U.alloc (.cells #[.int .i64 0, .int .i64 0] 34)
      go_wp2_with fail
      obtain ⟨pks, hpks⟩ : ∃ z, x9.heap.size = z := ⟨_, rfl⟩
      obtain ⟨W11, hW11⟩ : ∃ z, x9.alloc (.cells #[.int .i64 0, .int .i64 0] 34) = z := ⟨_, rfl⟩
      rw [hpks] at ks dkCks gks
      rw [hW11] at ks U kC
      rw [hW11, hpks]
      go_wp2_with fail
      clear hpks hW11
      refine (Ct.out _ U).mono ?_
      rintro e x12 ⟨rfl, u13⟩
      replace U := U.trans u13
      replace kC := u13.blk kC
      replace ks := u13.blk ks
      clear u13 
      have dkCkt := blk_lt kC
      have dkskt := blk_lt ks
      have gkt := U.size
      have kt := blk_new x12 (.cells #[.int .i64 0, .int .i64 0] 34) _ rfl
      replace kC := blk_keep (.cells #[.int .i64 0, .int .i64 0] 34) kC
      replace ks := blk_keep (.cells #[.int .i64 0, .int .i64 0] 34) ks
      replace U := U.alloc (.cells #[.int .i64 0, .int .i64 0] 34)
      go_wp2_with fail
      obtain ⟨pkt, hpkt⟩ : ∃ z, x12.heap.size = z := ⟨_, rfl⟩
      obtain ⟨W14, hW14⟩ : ∃ z, x12.alloc (.cells #[.int .i64 0, .int .i64 0] 34) = z := ⟨_, rfl⟩
      rw [hpkt] at kt dkCkt dkskt gkt
      rw [hW14] at kt U kC ks
      rw [hW14, hpkt]
      go_wp2_with fail
      clear hpkt hW14
      refine (HW.out _).mono ?_
      rintro e x15 ⟨rfl, u16⟩
      replace U := U.trans u16
      replace kC := u16.blk kC
      replace ks := u16.blk ks
      replace kt := u16.blk kt
      clear u16 
      go_wp2
      go_ret
      exact ⟨rfl, U⟩
    case inl =>
      obtain ⟨y, hy, _⟩ := ts.yes.2.1
      have HC := Lib.hid (fun (most : Bool) w' (u : Up w w') => Case_tells (most := most) G ⟨ak, bk⟩ ⟨ah, (show (h : Int) ≤ H by omega)⟩ ⟨y, hy⟩ (I.up u) (IO.up u) (IP.up u))
      have HT := Lib.hid (fun rows d (t : T.Table H rs rows d) (hd : T.Tr H rs os ps d) w' (u : Up w w') (aV : Option Addr) (nV cV : Nat) (IR : T.Rows w' (.slice aV nV cV) rows) => IsTruth_table G t hd IR (I.up u) (IO.up u) (IP.up u))
      have HV := Lib.hid (fun (d : Int × Int → Int) (most : Bool) (hv : ∀ k' h' lo hi : Int, 0 ≤ k' → k' < rs.length → 0 ≤ h' → h' ≤ H → T.Tells H rs os ps (k', h') (-1, 0) lo hi 0 → d (k', h') = if most then hi else lo) =>
        And.intro (hv k h ls hs ak bk ah (by omega) ts) (tt.ends (hv i g lt ht ai bi ag (by omega) tt)))
      have HHas := Lib.hid (fun n w (p : lt ≤ n ∧ n ≤ ht) => show Calls Try.prog 35 #[SpV lt ht, .int .i64 n] w fun e w' => e = .returned (.bool true) ∧ Up w w' by rw [← inB_yes p.1 p.2]; exact B_Has_any _ _ _ w)
      have bk' : k < rs.length := by omega
      have bi' : i < rs.length := by omega
      have bh' : h < H + 1 := by omega
      have bg' : g < H + 1 := by omega
      clear ts tt q1 q2 q3 q4 hv hy
      clear I IO IP
      go_enter Try.func8, Try.ntmps8
      obtain ⟨q0, e0⟩ : ∃ x, w.heap.size = x := ⟨_, rfl⟩
      have kC := blk_keep (.cells #[.int .i64 n0, .int .i64 n1, .int .i64 n2, .int .i64 n3] 52) (blk_new w (.cells #[.int .i64 H, .slice aR rs.length cR, .slice aO nO cO, .slice aP nP cP] 26) q0 e0.symm)
      have kN := blk_new (w.alloc (.cells #[.int .i64 H, .slice aR rs.length cR, .slice aO nO cO, .slice aP nP cP] 26)) (.cells #[.int .i64 n0, .int .i64 n1, .int .i64 n2, .int .i64 n3] 52) (q0 + 1) (by simp [e0])
      go_wp2_with fail
      refine (HS.out _ U).mono ?_
      rintro e x1 ⟨rfl, u2⟩
      replace U := U.trans u2
      replace kC := u2.blk kC
      replace kN := u2.blk kN
      clear u2 HS
      go_wp2_with fail
      have F4 := Lib.hid (fun w (u : Up x1 w) => cellB (u.blk kC))
      have F5 := Lib.hid (fun w (u : Up x1 w) => cellB (u.blk kN))
      refine (wpIn_wide (n := 5)).1 ?_
      refine wpIn_nrm ?_
      refine T.regionQ (fun w' => Up x1 w') 13 1 hmx (by kernel_rfl) (by kernel_rfl) ((Up.refl x1).drew) (fun hCl => ?_)
      refine T.qTake (i := 0) (d := (some 22)) (v := ?v27) rfl rfl (by kernel_rfl) (by decide) hCl (by kernel_rfl) (by kernel_rfl) (by kernel_rfl) (by rfl) ?hy27 (fun _ _ _ => trivial) (fun hCl' => ?_)
      case hy27 => (intro w hSw; refine T.qVal ?_ hSw; (have fF4 := F4.out w hSw; have fF5 := F5.out w hSw); (try dsimp only [List.getElem_toArray, List.getElem_cons_succ, List.getElem_cons_zero]); go_simp; try with_reducible rfl)
      simp only [Act.put, List.setIfInBounds_toArray, List.set_cons_zero, List.set_cons_succ]
      replace hCl := hCl'; clear hCl'
      refine T.qTake (i := 2) (d := (some 24)) (v := ?v28) rfl rfl (by kernel_rfl) (by decide) hCl (by kernel_rfl) (by kernel_rfl) (by kernel_rfl) (by rfl) ?hy28 (fun _ _ _ => trivial) (fun hCl' => ?_)
      case hy28 => (intro w hSw; refine T.qVal ?_ hSw; (have fF4 := F4.out w hSw; have fF5 := F5.out w hSw); (try dsimp only [List.getElem_toArray, List.getElem_cons_succ, List.getElem_cons_zero]); go_simp; try with_reducible rfl)
      simp only [Act.put, List.setIfInBounds_toArray, List.set_cons_zero, List.set_cons_succ]
      replace hCl := hCl'; clear hCl'
      refine T.qTake (i := 6) (d := (some 28)) (v := ?v29) rfl rfl (by kernel_rfl) (by decide) hCl (by kernel_rfl) (by kernel_rfl) (by kernel_rfl) (by rfl) ?hy29 (fun _ _ _ => trivial) (fun hCl' => ?_)
      case hy29 => (intro w hSw; refine T.qVal ?_ hSw; (have fF4 := F4.out w hSw; have fF5 := F5.out w hSw); (try dsimp only [List.getElem_toArray, List.getElem_cons_succ, List.getElem_cons_zero]); go_simp; try with_reducible rfl)
      simp only [Act.put, List.setIfInBounds_toArray, List.set_cons_zero, List.set_cons_succ]
      replace hCl := hCl'; clear hCl'
      refine T.qTake (i := 8) (d := (some 30)) (v := ?v30) rfl rfl (by kernel_rfl) (by decide) hCl (by kernel_rfl) (by kernel_rfl) (by kernel_rfl) (by rfl) ?hy30 (fun _ _ _ => trivial) (fun hCl' => ?_)
      case hy30 => (intro w hSw; refine T.qVal ?_ hSw; (have fF4 := F4.out w hSw; have fF5 := F5.out w hSw); (try dsimp only [List.getElem_toArray, List.getElem_cons_succ, List.getElem_cons_zero]); go_simp; try with_reducible rfl)
      simp only [Act.put, List.setIfInBounds_toArray, List.set_cons_zero, List.set_cons_succ]
      replace hCl := hCl'; clear hCl'
      refine T.qTake (i := 1) (d := (some 23)) (v := ?v31) rfl rfl (by kernel_rfl) (by decide) hCl (by kernel_rfl) (by kernel_rfl) (by kernel_rfl) (by rfl) ?hy31 (fun _ _ _ => trivial) (fun hCl' => ?_)
      case hy31 => (intro w hSw; refine T.qVal ?_ hSw; (have fF4 := F4.out w hSw; have fF5 := F5.out w hSw); (try dsimp only [List.getElem_toArray, List.getElem_cons_succ, List.getElem_cons_zero]); go_simp; try with_reducible rfl)
      simp only [Act.put, List.setIfInBounds_toArray, List.set_cons_zero, List.set_cons_succ]
      replace hCl := hCl'; clear hCl'
      refine T.qTake (i := 3) (d := (some 25)) (v := ?v32) rfl rfl (by kernel_rfl) (by decide) hCl (by kernel_rfl) (by kernel_rfl) (by kernel_rfl) (by rfl) ?hy32 (fun _ _ _ => trivial) (fun hCl' => ?_)
      case hy32 => (intro w hSw; refine T.qVal ?_ hSw; (have fF4 := F4.out w hSw; have fF5 := F5.out w hSw); (try dsimp only [List.getElem_toArray, List.getElem_cons_succ, List.getElem_cons_zero]); go_simp; try with_reducible rfl)
      simp only [Act.put, List.setIfInBounds_toArray, List.set_cons_zero, List.set_cons_succ]
      replace hCl := hCl'; clear hCl'
      refine T.qTake (i := 7) (d := (some 29)) (v := ?v33) rfl rfl (by kernel_rfl) (by decide) hCl (by kernel_rfl) (by kernel_rfl) (by kernel_rfl) (by rfl) ?hy33 (fun _ _ _ => trivial) (fun hCl' => ?_)
      case hy33 => (intro w hSw; refine T.qVal ?_ hSw; (have fF4 := F4.out w hSw; have fF5 := F5.out w hSw); (try dsimp only [List.getElem_toArray, List.getElem_cons_succ, List.getElem_cons_zero]); go_simp; try with_reducible rfl)
      simp only [Act.put, List.setIfInBounds_toArray, List.set_cons_zero, List.set_cons_succ]
      replace hCl := hCl'; clear hCl'
      refine T.qTake (i := 9) (d := (some 31)) (v := ?v34) rfl rfl (by kernel_rfl) (by decide) hCl (by kernel_rfl) (by kernel_rfl) (by kernel_rfl) (by rfl) ?hy34 (fun _ _ _ => trivial) (fun hCl' => ?_)
      case hy34 => (intro w hSw; refine T.qVal ?_ hSw; (have fF4 := F4.out w hSw; have fF5 := F5.out w hSw); (try dsimp only [List.getElem_toArray, List.getElem_cons_succ, List.getElem_cons_zero]); go_simp; try with_reducible rfl)
      simp only [Act.put, List.setIfInBounds_toArray, List.set_cons_zero, List.set_cons_succ]
      replace hCl := hCl'; clear hCl'
      refine T.qTake (i := 4) (d := (some 26)) (v := ?v35) rfl rfl (by kernel_rfl) (by decide) hCl (by kernel_rfl) (by kernel_rfl) (by kernel_rfl) (by rfl) ?hy35 (fun _ _ _ => trivial) (fun hCl' => ?_)
      case hy35 => (intro w hSw; refine T.qVal ?_ hSw; (have fF4 := F4.out w hSw; have fF5 := F5.out w hSw); (try dsimp only [List.getElem_toArray, List.getElem_cons_succ, List.getElem_cons_zero]); go_simp; try with_reducible rfl)
      simp only [Act.put, List.setIfInBounds_toArray, List.set_cons_zero, List.set_cons_succ]
      replace hCl := hCl'; clear hCl'
      refine T.qTake (i := 10) (d := (some 32)) (v := ?v36) rfl rfl (by kernel_rfl) (by decide) hCl (by kernel_rfl) (by kernel_rfl) (by kernel_rfl) (by rfl) ?hy36 (fun _ _ _ => trivial) (fun hCl' => ?_)
      case hy36 => (intro w hSw; refine T.qVal ?_ hSw; (have fF4 := F4.out w hSw; have fF5 := F5.out w hSw); (try dsimp only [List.getElem_toArray, List.getElem_cons_succ, List.getElem_cons_zero]); go_simp; try with_reducible rfl)
      simp only [Act.put, List.setIfInBounds_toArray, List.set_cons_zero, List.set_cons_succ]
      replace hCl := hCl'; clear hCl'
      refine T.qTake (i := 5) (d := (some 27)) (v := ((.int .i64 (k : Int)))) rfl rfl (by kernel_rfl) (by decide) hCl (by kernel_rfl) (by kernel_rfl) (by kernel_rfl) (by rfl) ?hy37 (fun _ _ _ => trivial) (fun hCl' => ?_)
      case hy37 => (intro w hSw; (have fF4 := F4.out w hSw; have fF5 := F5.out w hSw); (try dsimp only [List.getElem_toArray, List.getElem_cons_succ, List.getElem_cons_zero]); go_simp; (refine (callsIn_wide.2 (HRk.out w)).mono ?_; rintro e w3 ⟨rfl, rfl⟩; exact ⟨rfl, hSw⟩))
      simp only [Act.put, List.setIfInBounds_toArray, List.set_cons_zero, List.set_cons_succ]
      replace hCl := hCl'; clear hCl'
      refine T.qTake (i := 11) (d := (some 33)) (v := ((.int .i64 (i : Int)))) rfl rfl (by kernel_rfl) (by decide) hCl (by kernel_rfl) (by kernel_rfl) (by kernel_rfl) (by rfl) ?hy38 (fun _ _ _ => trivial) (fun hCl' => ?_)
      case hy38 => (intro w hSw; (have fF4 := F4.out w hSw; have fF5 := F5.out w hSw); (try dsimp only [List.getElem_toArray, List.getElem_cons_succ, List.getElem_cons_zero]); go_simp; (refine (callsIn_wide.2 (HRi.out w)).mono ?_; rintro e w3 ⟨rfl, rfl⟩; exact ⟨rfl, hSw⟩))
      simp only [Act.put, List.setIfInBounds_toArray, List.set_cons_zero, List.set_cons_succ]
      replace hCl := hCl'; clear hCl'
      refine T.qTake (i := 12) (d := (some 5)) (v := ?v39) rfl rfl (by kernel_rfl) (by decide) hCl (by kernel_rfl) (by kernel_rfl) (by kernel_rfl) (by rfl) ?hy39 (fun _ _ _ => trivial) (fun hCl' => ?_)
      case hy39 => (intro w hSw; refine T.qVal ?_ hSw; (have fF4 := F4.out w hSw; have fF5 := F5.out w hSw); (try dsimp only [List.getElem_toArray, List.getElem_cons_succ, List.getElem_cons_zero]); go_simp; try with_reducible rfl)
      simp only [Act.put, List.setIfInBounds_toArray, List.set_cons_zero, List.set_cons_succ]
      replace hCl := hCl'; clear hCl'
      refine T.tail_intro (by kernel_rfl) (fun Y3 hY3 => ?_)
      replace U := U.trans hY3
      replace kC := hY3.blk kC
      replace kN := hY3.blk kN
      clear F4 F5 hY3
      refine lastG (i := 13) (by kernel_rfl) rfl (by rfl) (by decide) (fun K hK => ?_)
      go_simp
      refine hK.out _ _ ?_
      clear hK K
      refine doneG (by kernel_rfl) ?_ _
      refine S.nrm_intro ?_
      go_wp2_with fail
      have F7 := Lib.hid (fun w (u : Up Y3 w) => cellB (u.blk kC))
      have F8 := Lib.hid (fun w (u : Up Y3 w) => cellB (u.blk kN))
      refine (wpIn_wide (n := 5)).1 ?_
      refine wpIn_nrm ?_
      refine T.regionQ (fun w' => Up Y3 w') 13 1 hmx (by kernel_rfl) (by kernel_rfl) ((Up.refl Y3).drew) (fun hCl => ?_)
      refine T.qTake (i := 0) (d := (some 34)) (v := ?v40) rfl rfl (by kernel_rfl) (by decide) hCl (by kernel_rfl) (by kernel_rfl) (by kernel_rfl) (by rfl) ?hy40 (fun _ _ _ => trivial) (fun hCl' => ?_)
      case hy40 => (intro w hSw; refine T.qVal ?_ hSw; (have fF7 := F7.out w hSw; have fF8 := F8.out w hSw); (try dsimp only [List.getElem_toArray, List.getElem_cons_succ, List.getElem_cons_zero]); go_simp; try with_reducible rfl)
      simp only [Act.put, List.setIfInBounds_toArray, List.set_cons_zero, List.set_cons_succ]
      replace hCl := hCl'; clear hCl'
      refine T.qTake (i := 2) (d := (some 36)) (v := ?v41) rfl rfl (by kernel_rfl) (by decide) hCl (by kernel_rfl) (by kernel_rfl) (by kernel_rfl) (by rfl) ?hy41 (fun _ _ _ => trivial) (fun hCl' => ?_)
      case hy41 => (intro w hSw; refine T.qVal ?_ hSw; (have fF7 := F7.out w hSw; have fF8 := F8.out w hSw); (try dsimp only [List.getElem_toArray, List.getElem_cons_succ, List.getElem_cons_zero]); go_simp; try with_reducible rfl)
      simp only [Act.put, List.setIfInBounds_toArray, List.set_cons_zero, List.set_cons_succ]
      replace hCl := hCl'; clear hCl'
      refine T.qTake (i := 6) (d := (some 40)) (v := ?v42) rfl rfl (by kernel_rfl) (by decide) hCl (by kernel_rfl) (by kernel_rfl) (by kernel_rfl) (by rfl) ?hy42 (fun _ _ _ => trivial) (fun hCl' => ?_)
      case hy42 => (intro w hSw; refine T.qVal ?_ hSw; (have fF7 := F7.out w hSw; have fF8 := F8.out w hSw); (try dsimp only [List.getElem_toArray, List.getElem_cons_succ, List.getElem_cons_zero]); go_simp; try with_reducible rfl)
      simp only [Act.put, List.setIfInBounds_toArray, List.set_cons_zero, List.set_cons_succ]
      replace hCl := hCl'; clear hCl'
      refine T.qTake (i := 8) (d := (some 42)) (v := ?v43) rfl rfl (by kernel_rfl) (by decide) hCl (by kernel_rfl) (by kernel_rfl) (by kernel_rfl) (by rfl) ?hy43 (fun _ _ _ => trivial) (fun hCl' => ?_)
      case hy43 => (intro w hSw; refine T.qVal ?_ hSw; (have fF7 := F7.out w hSw; have fF8 := F8.out w hSw); (try dsimp only [List.getElem_toArray, List.getElem_cons_succ, List.getElem_cons_zero]); go_simp; try with_reducible rfl)
      simp only [Act.put, List.setIfInBounds_toArray, List.set_cons_zero, List.set_cons_succ]
      replace hCl := hCl'; clear hCl'
      refine T.qTake (i := 1) (d := (some 35)) (v := ?v44) rfl rfl (by kernel_rfl) (by decide) hCl (by kernel_rfl) (by kernel_rfl) (by kernel_rfl) (by rfl) ?hy44 (fun _ _ _ => trivial) (fun hCl' => ?_)
      case hy44 => (intro w hSw; refine T.qVal ?_ hSw; (have fF7 := F7.out w hSw; have fF8 := F8.out w hSw); (try dsimp only [List.getElem_toArray, List.getElem_cons_succ, List.getElem_cons_zero]); go_simp; try with_reducible rfl)
      simp only [Act.put, List.setIfInBounds_toArray, List.set_cons_zero, List.set_cons_succ]
      replace hCl := hCl'; clear hCl'
      refine T.qTake (i := 3) (d := (some 37)) (v := ?v45) rfl rfl (by kernel_rfl) (by decide) hCl (by kernel_rfl) (by kernel_rfl) (by kernel_rfl) (by rfl) ?hy45 (fun _ _ _ => trivial) (fun hCl' => ?_)
      case hy45 => (intro w hSw; refine T.qVal ?_ hSw; (have fF7 := F7.out w hSw; have fF8 := F8.out w hSw); (try dsimp only [List.getElem_toArray, List.getElem_cons_succ, List.getElem_cons_zero]); go_simp; try with_reducible rfl)
      simp only [Act.put, List.setIfInBounds_toArray, List.set_cons_zero, List.set_cons_succ]
      replace hCl := hCl'; clear hCl'
      refine T.qTake (i := 7) (d := (some 41)) (v := ?v46) rfl rfl (by kernel_rfl) (by decide) hCl (by kernel_rfl) (by kernel_rfl) (by kernel_rfl) (by rfl) ?hy46 (fun _ _ _ => trivial) (fun hCl' => ?_)
      case hy46 => (intro w hSw; refine T.qVal ?_ hSw; (have fF7 := F7.out w hSw; have fF8 := F8.out w hSw); (try dsimp only [List.getElem_toArray, List.getElem_cons_succ, List.getElem_cons_zero]); go_simp; try with_reducible rfl)
      simp only [Act.put, List.setIfInBounds_toArray, List.set_cons_zero, List.set_cons_succ]
      replace hCl := hCl'; clear hCl'
      refine T.qTake (i := 9) (d := (some 43)) (v := ?v47) rfl rfl (by kernel_rfl) (by decide) hCl (by kernel_rfl) (by kernel_rfl) (by kernel_rfl) (by rfl) ?hy47 (fun _ _ _ => trivial) (fun hCl' => ?_)
      case hy47 => (intro w hSw; refine T.qVal ?_ hSw; (have fF7 := F7.out w hSw; have fF8 := F8.out w hSw); (try dsimp only [List.getElem_toArray, List.getElem_cons_succ, List.getElem_cons_zero]); go_simp; try with_reducible rfl)
      simp only [Act.put, List.setIfInBounds_toArray, List.set_cons_zero, List.set_cons_succ]
      replace hCl := hCl'; clear hCl'
      refine T.qTake (i := 4) (d := (some 38)) (v := ?v48) rfl rfl (by kernel_rfl) (by decide) hCl (by kernel_rfl) (by kernel_rfl) (by kernel_rfl) (by rfl) ?hy48 (fun _ _ _ => trivial) (fun hCl' => ?_)
      case hy48 => (intro w hSw; refine T.qVal ?_ hSw; (have fF7 := F7.out w hSw; have fF8 := F8.out w hSw); (try dsimp only [List.getElem_toArray, List.getElem_cons_succ, List.getElem_cons_zero]); go_simp; try with_reducible rfl)
      simp only [Act.put, List.setIfInBounds_toArray, List.set_cons_zero, List.set_cons_succ]
      replace hCl := hCl'; clear hCl'
      refine T.qTake (i := 10) (d := (some 44)) (v := ?v49) rfl rfl (by kernel_rfl) (by decide) hCl (by kernel_rfl) (by kernel_rfl) (by kernel_rfl) (by rfl) ?hy49 (fun _ _ _ => trivial) (fun hCl' => ?_)
      case hy49 => (intro w hSw; refine T.qVal ?_ hSw; (have fF7 := F7.out w hSw; have fF8 := F8.out w hSw); (try dsimp only [List.getElem_toArray, List.getElem_cons_succ, List.getElem_cons_zero]); go_simp; try with_reducible rfl)
      simp only [Act.put, List.setIfInBounds_toArray, List.set_cons_zero, List.set_cons_succ]
      replace hCl := hCl'; clear hCl'
      refine T.qTake (i := 5) (d := (some 39)) (v := ((.int .i64 (h : Int)))) rfl rfl (by kernel_rfl) (by decide) hCl (by kernel_rfl) (by kernel_rfl) (by kernel_rfl) (by rfl) ?hy50 (fun _ _ _ => trivial) (fun hCl' => ?_)
      case hy50 => (intro w hSw; (have fF7 := F7.out w hSw; have fF8 := F8.out w hSw); (try dsimp only [List.getElem_toArray, List.getElem_cons_succ, List.getElem_cons_zero]); go_simp; (refine (callsIn_wide.2 (HRh.out w)).mono ?_; rintro e w3 ⟨rfl, rfl⟩; exact ⟨rfl, hSw⟩))
      simp only [Act.put, List.setIfInBounds_toArray, List.set_cons_zero, List.set_cons_succ]
      replace hCl := hCl'; clear hCl'
      refine T.qTake (i := 11) (d := (some 45)) (v := ((.int .i64 (g : Int)))) rfl rfl (by kernel_rfl) (by decide) hCl (by kernel_rfl) (by kernel_rfl) (by kernel_rfl) (by rfl) ?hy51 (fun _ _ _ => trivial) (fun hCl' => ?_)
      case hy51 => (intro w hSw; (have fF7 := F7.out w hSw; have fF8 := F8.out w hSw); (try dsimp only [List.getElem_toArray, List.getElem_cons_succ, List.getElem_cons_zero]); go_simp; (refine (callsIn_wide.2 (HRg.out w)).mono ?_; rintro e w3 ⟨rfl, rfl⟩; exact ⟨rfl, hSw⟩))
      simp only [Act.put, List.setIfInBounds_toArray, List.set_cons_zero, List.set_cons_succ]
      replace hCl := hCl'; clear hCl'
      refine T.qTake (i := 12) (d := (some 7)) (v := ?v52) rfl rfl (by kernel_rfl) (by decide) hCl (by kernel_rfl) (by kernel_rfl) (by kernel_rfl) (by rfl) ?hy52 (fun _ _ _ => trivial) (fun hCl' => ?_)
      case hy52 => (intro w hSw; refine T.qVal ?_ hSw; (have fF7 := F7.out w hSw; have fF8 := F8.out w hSw); (try dsimp only [List.getElem_toArray, List.getElem_cons_succ, List.getElem_cons_zero]); go_simp; try with_reducible rfl)
      simp only [Act.put, List.setIfInBounds_toArray, List.set_cons_zero, List.set_cons_succ]
      replace hCl := hCl'; clear hCl'
      refine T.tail_intro (by kernel_rfl) (fun Y6 hY6 => ?_)
      replace U := U.trans hY6
      replace kC := hY6.blk kC
      replace kN := hY6.blk kN
      clear F7 F8 hY6
      refine lastG (i := 13) (by kernel_rfl) rfl (by rfl) (by decide) (fun K hK => ?_)
      go_simp
      refine hK.out _ _ ?_
      clear hK K
      refine doneG (by kernel_rfl) ?_ _
      refine S.nrm_intro ?_
      clear HRi HRk HRh HRg
      clear kN
      go_wp2_with fail
      refine (Cs.out _ U).mono ?_
      rintro e x9 ⟨rfl, u10⟩
      replace U := U.trans u10
      replace kC := u10.blk kC
      clear u10 
      have dkCks := blk_lt kC
      have gks := U.size
      have ks := blk_new x9 (.cells #[.int .i64 ls, .int .i64 hs] 34) _ rfl
      replace kC := blk_keep (.cells #[.int .i64 ls, .int .i64 hs] 34) kC
      replace U := U.alloc (.cells #[.int .i64 ls, .int .i64 hs] 34)
      obtain ⟨pks, hpks⟩ : ∃ z, x9.heap.size = z := ⟨_, rfl⟩
      obtain ⟨W11, hW11⟩ : ∃ z, x9.alloc (.cells #[.int .i64 ls, .int .i64 hs] 34) = z := ⟨_, rfl⟩
      rw [hpks] at ks dkCks gks
      rw [hW11] at ks U kC
      go_wp2_with fail
      clear hpks hW11
      refine (Ct.out _ U).mono ?_
      rintro e x12 ⟨rfl, u13⟩
      replace U := U.trans u13
      replace kC := u13.blk kC
      replace ks := u13.blk ks
      clear u13 
      have dkCkt := blk_lt kC
      have dkskt := blk_lt ks
      have gkt := U.size
      have kt := blk_new x12 (.cells #[.int .i64 lt, .int .i64 ht] 34) _ rfl
      replace kC := blk_keep (.cells #[.int .i64 lt, .int .i64 ht] 34) kC
      replace ks := blk_keep (.cells #[.int .i64 lt, .int .i64 ht] 34) ks
      replace U := U.alloc (.cells #[.int .i64 lt, .int .i64 ht] 34)
      obtain ⟨pkt, hpkt⟩ : ∃ z, x12.heap.size = z := ⟨_, rfl⟩
      obtain ⟨W14, hW14⟩ : ∃ z, x12.alloc (.cells #[.int .i64 lt, .int .i64 ht] 34) = z := ⟨_, rfl⟩
      rw [hpkt] at kt dkCkt dkskt gkt
      rw [hW14] at kt U kC ks
      go_wp2_with fail
      clear hpkt hW14
      go_loopw [13] (fun m wr => ∃ z : Int, (z = 0 ∨ z = 1 ∨ z = 2) ∧ m = .int .i64 z ∧ Up w wr ∧ mblk wr q0 = some (.cells #[.int .i64 H, .slice aR rs.length cR, .slice aO nO cO, .slice aP nP cP] 26 (0, 0)) ∧ mblk wr pks = some (.cells #[.int .i64 ls, .int .i64 hs] 34 (0, 0)) ∧ mblk wr pkt = some (.cells #[.int .i64 lt, .int .i64 ht] 34 (0, 0))) (fun m _ => 2 - (intOf m).toNat)
      case atStart => exact ⟨0, .inl rfl, rfl, U, kC, ks, kt⟩
      case round =>
        clear U kC ks kt
        obtain ⟨z, hz, rfl, U, kC, ks, kt⟩ := hrel
        rcases hz with rfl | rfl | rfl
        · skip
          go_wp2_with fail
          refine (HC.out false _ U).mono ?_
          rintro e x ⟨⟨v, rows, d, rfl, hR, hT, hd, hval⟩, u⟩
          replace U := U.trans u
          replace kC := u.blk kC
          replace ks := u.blk ks
          replace kt := u.blk kt
          clear u
          obtain ⟨p1, p2⟩ := HV.out d false hval
          have his := hR.is
          rw [hT.len] at his
          obtain ⟨av, cv, rfl, c1, c2, hm⟩ := his
          obtain ⟨g1, o1, rfl, gl, hx⟩ := hm (by omega)
          obtain ⟨rk, ck, Ik⟩ := hx k (by omega)
          obtain ⟨ri, ci, Ii⟩ := hx i (by omega)
          have hisk := Ik.is
          have hisi := Ii.is
          rw [hT.rowk bk'] at hisk
          rw [hT.rowk bi'] at hisi
          obtain ⟨ak1, ck1, rfl, _, _, hmk⟩ := hisk
          obtain ⟨ai1, ci1, rfl, _, _, hmi⟩ := hisi
          obtain ⟨gk, ok, rfl, gkl, hk1⟩ := hmk (by omega)
          obtain ⟨gi, oi, rfl, gil, hi1⟩ := hmi (by omega)
          have ek := hk1 h (by omega)
          have ei := hi1 g (by omega)
          rw [hT.val k h bk' (by omega), p1] at ek
          rw [hT.val i g bi' (by omega)] at ei
          have HX := Lib.hid (fun w (u : Up x w) => And.intro ((u.facts.1 g1 _ gl).trans ck) (And.intro ((u.facts.1 g1 _ gl).trans ci) (And.intro ((u.facts.1 gk _ gkl).trans ek) ((u.facts.1 gi _ gil).trans ei))))
          have HIT := Lib.hid (HT.out rows d hT hd _ U _ _ _ hR)
          simp only [Bool.false_eq_true, if_false] at HX
          generalize d ((i : Int), (g : Int)) = dv at *
          have HP2 := Lib.hid p2
          clear hx hmk hmi hk1 hi1 hm ck ci ek ei Ik Ii hR hT hd hval p1 p2 c1 c2
          go_wp2_with fail
          refine HIT.out.mono ?_
          rintro e x2 ⟨rfl, u⟩
          replace U := U.trans u
          replace kC := u.blk kC
          replace ks := u.blk ks
          replace kt := u.blk kt
          have Ux := u
          clear u HIT
          go_wp2_with fail
          have F102 := Lib.hid (fun w (u : Up x2 w) => cellB (u.blk kC))
          have F103 := Lib.hid (fun w (u : Up x2 w) => cellB (u.blk ks))
          have F104 := Lib.hid (fun w (u : Up x2 w) => cellB (u.blk kt))
          refine (wpIn_wide (n := 5)).1 ?_
          refine wpIn_nrm ?_
          refine T.regionQ (fun w' => Up x2 w') 51 1 hmx (by kernel_rfl) (by kernel_rfl) ((Up.refl x2).drew) (fun hCl => ?_)
          refine T.qTake (i := 0) (d := (some 101)) (v := ?v53) rfl rfl (by kernel_rfl) (by decide) hCl (by kernel_rfl) (by kernel_rfl) (by kernel_rfl) (by rfl) ?hy53 (fun _ _ _ => trivial) (fun hCl' => ?_)
          case hy53 => (intro w hSw; refine T.qVal ?_ hSw; (have fF102 := F102.out w hSw; have fF103 := F103.out w hSw; have fF104 := F104.out w hSw; obtain ⟨z1, z2, z3, z4⟩ := HX.out w (Ux.trans hSw)); (try dsimp only [List.getElem_toArray, List.getElem_cons_succ, List.getElem_cons_zero]); go_simp; try with_reducible rfl)
          simp only [Act.put, List.setIfInBounds_toArray, List.set_cons_zero, List.set_cons_succ]
          replace hCl := hCl'; clear hCl'
          refine T.qTake (i := 1) (d := (some 102)) (v := ?v54) rfl rfl (by kernel_rfl) (by decide) hCl (by kernel_rfl) (by kernel_rfl) (by kernel_rfl) (by rfl) ?hy54 (fun _ _ _ => trivial) (fun hCl' => ?_)
          case hy54 => (intro w hSw; refine T.qVal ?_ hSw; (have fF102 := F102.out w hSw; have fF103 := F103.out w hSw; have fF104 := F104.out w hSw; obtain ⟨z1, z2, z3, z4⟩ := HX.out w (Ux.trans hSw)); (try dsimp only [List.getElem_toArray, List.getElem_cons_succ, List.getElem_cons_zero]); go_simp; try with_reducible rfl)
          simp only [Act.put, List.setIfInBounds_toArray, List.set_cons_zero, List.set_cons_succ]
          replace hCl := hCl'; clear hCl'
          refine T.qTake (i := 2) (d := (some 103)) (v := ?v55) rfl rfl (by kernel_rfl) (by decide) hCl (by kernel_rfl) (by kernel_rfl) (by kernel_rfl) (by rfl) ?hy55 (fun _ _ _ => trivial) (fun hCl' => ?_)
          case hy55 => (intro w hSw; refine T.qVal ?_ hSw; (have fF102 := F102.out w hSw; have fF103 := F103.out w hSw; have fF104 := F104.out w hSw; obtain ⟨z1, z2, z3, z4⟩ := HX.out w (Ux.trans hSw)); (try dsimp only [List.getElem_toArray, List.getElem_cons_succ, List.getElem_cons_zero]); go_simp; try with_reducible rfl)
          simp only [Act.put, List.setIfInBounds_toArray, List.set_cons_zero, List.set_cons_succ]
          replace hCl := hCl'; clear hCl'
          refine T.qTake (i := 3) (d := (some 104)) (v := ?v56) rfl rfl (by kernel_rfl) (by decide) hCl (by kernel_rfl) (by kernel_rfl) (by kernel_rfl) (by rfl) ?hy56 (fun _ _ _ => trivial) (fun hCl' => ?_)
          case hy56 => (intro w hSw; refine T.qVal ?_ hSw; (have fF102 := F102.out w hSw; have fF103 := F103.out w hSw; have fF104 := F104.out w hSw; obtain ⟨z1, z2, z3, z4⟩ := HX.out w (Ux.trans hSw)); (try dsimp only [List.getElem_toArray, List.getElem_cons_succ, List.getElem_cons_zero]); go_simp; try with_reducible rfl)
          simp only [Act.put, List.setIfInBounds_toArray, List.set_cons_zero, List.set_cons_succ]
          replace hCl := hCl'; clear hCl'
          refine T.qTake (i := 4) (d := (some 105)) (v := ?v57) rfl rfl (by kernel_rfl) (by decide) hCl (by kernel_rfl) (by kernel_rfl) (by kernel_rfl) (by rfl) ?hy57 (fun _ _ _ => trivial) (fun hCl' => ?_)
          case hy57 => (intro w hSw; refine T.qVal ?_ hSw; (have fF102 := F102.out w hSw; have fF103 := F103.out w hSw; have fF104 := F104.out w hSw; obtain ⟨z1, z2, z3, z4⟩ := HX.out w (Ux.trans hSw)); (try dsimp only [List.getElem_toArray, List.getElem_cons_succ, List.getElem_cons_zero]); go_simp; try with_reducible rfl)
          simp only [Act.put, List.setIfInBounds_toArray, List.set_cons_zero, List.set_cons_succ]
          replace hCl := hCl'; clear hCl'
          refine T.qTake (i := 5) (d := (some 106)) (v := ?v58) rfl rfl (by kernel_rfl) (by decide) hCl (by kernel_rfl) (by kernel_rfl) (by kernel_rfl) (by rfl) ?hy58 (fun _ _ _ => trivial) (fun hCl' => ?_)
          case hy58 => (intro w hSw; refine T.qVal ?_ hSw; (have fF102 := F102.out w hSw; have fF103 := F103.out w hSw; have fF104 := F104.out w hSw; obtain ⟨z1, z2, z3, z4⟩ := HX.out w (Ux.trans hSw)); (try dsimp only [List.getElem_toArray, List.getElem_cons_succ, List.getElem_cons_zero]); go_simp; try with_reducible rfl)
          simp only [Act.put, List.setIfInBounds_toArray, List.set_cons_zero, List.set_cons_succ]
          replace hCl := hCl'; clear hCl'
          refine T.qTake (i := 6) (d := (some 107)) (v := ?v59) rfl rfl (by kernel_rfl) (by decide) hCl (by kernel_rfl) (by kernel_rfl) (by kernel_rfl) (by rfl) ?hy59 (fun _ _ _ => trivial) (fun hCl' => ?_)
          case hy59 => (intro w hSw; refine T.qVal ?_ hSw; (have fF102 := F102.out w hSw; have fF103 := F103.out w hSw; have fF104 := F104.out w hSw; obtain ⟨z1, z2, z3, z4⟩ := HX.out w (Ux.trans hSw)); (try dsimp only [List.getElem_toArray, List.getElem_cons_succ, List.getElem_cons_zero]); go_simp; try with_reducible rfl)
          simp only [Act.put, List.setIfInBounds_toArray, List.set_cons_zero, List.set_cons_succ]
          replace hCl := hCl'; clear hCl'
          refine T.qTake (i := 7) (d := (some 108)) (v := ?v60) rfl rfl (by kernel_rfl) (by decide) hCl (by kernel_rfl) (by kernel_rfl) (by kernel_rfl) (by rfl) ?hy60 (fun _ _ _ => trivial) (fun hCl' => ?_)
          case hy60 => (intro w hSw; refine T.qVal ?_ hSw; (have fF102 := F102.out w hSw; have fF103 := F103.out w hSw; have fF104 := F104.out w hSw; obtain ⟨z1, z2, z3, z4⟩ := HX.out w (Ux.trans hSw)); (try dsimp only [List.getElem_toArray, List.getElem_cons_succ, List.getElem_cons_zero]); go_simp; try with_reducible rfl)
          simp only [Act.put, List.setIfInBounds_toArray, List.set_cons_zero, List.set_cons_succ]
          replace hCl := hCl'; clear hCl'
          refine T.qTake (i := 8) (d := (some 109)) (v := ?v61) rfl rfl (by kernel_rfl) (by decide) hCl (by kernel_rfl) (by kernel_rfl) (by kernel_rfl) (by rfl) ?hy61 (fun _ _ _ => trivial) (fun hCl' => ?_)
          case hy61 => (intro w hSw; refine T.qVal ?_ hSw; (have fF102 := F102.out w hSw; have fF103 := F103.out w hSw; have fF104 := F104.out w hSw; obtain ⟨z1, z2, z3, z4⟩ := HX.out w (Ux.trans hSw)); (try dsimp only [List.getElem_toArray, List.getElem_cons_succ, List.getElem_cons_zero]); go_simp; try with_reducible rfl)
          simp only [Act.put, List.setIfInBounds_toArray, List.set_cons_zero, List.set_cons_succ]
          replace hCl := hCl'; clear hCl'
          refine T.qTake (i := 9) (d := (some 110)) (v := ?v62) rfl rfl (by kernel_rfl) (by decide) hCl (by kernel_rfl) (by kernel_rfl) (by kernel_rfl) (by rfl) ?hy62 (fun _ _ _ => trivial) (fun hCl' => ?_)
          case hy62 => (intro w hSw; refine T.qVal ?_ hSw; (have fF102 := F102.out w hSw; have fF103 := F103.out w hSw; have fF104 := F104.out w hSw; obtain ⟨z1, z2, z3, z4⟩ := HX.out w (Ux.trans hSw)); (try dsimp only [List.getElem_toArray, List.getElem_cons_succ, List.getElem_cons_zero]); go_simp; try with_reducible rfl)
          simp only [Act.put, List.setIfInBounds_toArray, List.set_cons_zero, List.set_cons_succ]
          replace hCl := hCl'; clear hCl'
          refine T.qTake (i := 10) (d := (some 111)) (v := ?v63) rfl rfl (by kernel_rfl) (by decide) hCl (by kernel_rfl) (by kernel_rfl) (by kernel_rfl) (by rfl) ?hy63 (fun _ _ _ => trivial) (fun hCl' => ?_)
          case hy63 => (intro w hSw; refine T.qVal ?_ hSw; (have fF102 := F102.out w hSw; have fF103 := F103.out w hSw; have fF104 := F104.out w hSw; obtain ⟨z1, z2, z3, z4⟩ := HX.out w (Ux.trans hSw)); (try dsimp only [List.getElem_toArray, List.getElem_cons_succ, List.getElem_cons_zero]); go_simp; try with_reducible rfl)
          simp only [Act.put, List.setIfInBounds_toArray, List.set_cons_zero, List.set_cons_succ]
          replace hCl := hCl'; clear hCl'
          refine T.qTake (i := 11) (d := (some 112)) (v := ?v64) rfl rfl (by kernel_rfl) (by decide) hCl (by kernel_rfl) (by kernel_rfl) (by kernel_rfl) (by rfl) ?hy64 (fun _ _ _ => trivial) (fun hCl' => ?_)
          case hy64 => (intro w hSw; refine T.qVal ?_ hSw; (have fF102 := F102.out w hSw; have fF103 := F103.out w hSw; have fF104 := F104.out w hSw; obtain ⟨z1, z2, z3, z4⟩ := HX.out w (Ux.trans hSw)); (try dsimp only [List.getElem_toArray, List.getElem_cons_succ, List.getElem_cons_zero]); go_simp; try with_reducible rfl)
          simp only [Act.put, List.setIfInBounds_toArray, List.set_cons_zero, List.set_cons_succ]
          replace hCl := hCl'; clear hCl'
          refine T.qTake (i := 13) (d := (some 114)) (v := ?v65) rfl rfl (by kernel_rfl) (by decide) hCl (by kernel_rfl) (by kernel_rfl) (by kernel_rfl) (by rfl) ?hy65 (fun _ _ _ => trivial) (fun hCl' => ?_)
          case hy65 => (intro w hSw; refine T.qVal ?_ hSw; (have fF102 := F102.out w hSw; have fF103 := F103.out w hSw; have fF104 := F104.out w hSw; obtain ⟨z1, z2, z3, z4⟩ := HX.out w (Ux.trans hSw)); (try dsimp only [List.getElem_toArray, List.getElem_cons_succ, List.getElem_cons_zero]); go_simp; try with_reducible rfl)
          simp only [Act.put, List.setIfInBounds_toArray, List.set_cons_zero, List.set_cons_succ]
          replace hCl := hCl'; clear hCl'
          refine T.qTake (i := 12) (d := (some 113)) (v := ?v66) rfl rfl (by kernel_rfl) (by decide) hCl (by kernel_rfl) (by kernel_rfl) (by kernel_rfl) (by rfl) ?hy66 (fun _ _ _ => trivial) (fun hCl' => ?_)
          case hy66 => (intro w hSw; refine T.qVal ?_ hSw; (have fF102 := F102.out w hSw; have fF103 := F103.out w hSw; have fF104 := F104.out w hSw; obtain ⟨z1, z2, z3, z4⟩ := HX.out w (Ux.trans hSw)); (try dsimp only [List.getElem_toArray, List.getElem_cons_succ, List.getElem_cons_zero]); go_simp; try with_reducible rfl)
          simp only [Act.put, List.setIfInBounds_toArray, List.set_cons_zero, List.set_cons_succ]
          replace hCl := hCl'; clear hCl'
          refine T.qTake (i := 14) (d := (some 115)) (v := ?v67) rfl rfl (by kernel_rfl) (by decide) hCl (by kernel_rfl) (by kernel_rfl) (by kernel_rfl) (by rfl) ?hy67 (fun _ _ _ => trivial) (fun hCl' => ?_)
          case hy67 => (intro w hSw; refine T.qVal ?_ hSw; (have fF102 := F102.out w hSw; have fF103 := F103.out w hSw; have fF104 := F104.out w hSw; obtain ⟨z1, z2, z3, z4⟩ := HX.out w (Ux.trans hSw)); (try dsimp only [List.getElem_toArray, List.getElem_cons_succ, List.getElem_cons_zero]); go_simp; try with_reducible rfl)
          simp only [Act.put, List.setIfInBounds_toArray, List.set_cons_zero, List.set_cons_succ]
          replace hCl := hCl'; clear hCl'
          refine T.qTake (i := 15) (d := (some 116)) (v := ?v68) rfl rfl (by kernel_rfl) (by decide) hCl (by kernel_rfl) (by kernel_rfl) (by kernel_rfl) (by rfl) ?hy68 (fun _ _ _ => trivial) (fun hCl' => ?_)
          case hy68 => (intro w hSw; refine T.qVal ?_ hSw; (have fF102 := F102.out w hSw; have fF103 := F103.out w hSw; have fF104 := F104.out w hSw; obtain ⟨z1, z2, z3, z4⟩ := HX.out w (Ux.trans hSw)); (try dsimp only [List.getElem_toArray, List.getElem_cons_succ, List.getElem_cons_zero]); go_simp; try with_reducible rfl)
          simp only [Act.put, List.setIfInBounds_toArray, List.set_cons_zero, List.set_cons_succ]
          replace hCl := hCl'; clear hCl'
          refine T.qTake (i := 16) (d := (some 117)) (v := ?v69) rfl rfl (by kernel_rfl) (by decide) hCl (by kernel_rfl) (by kernel_rfl) (by kernel_rfl) (by rfl) ?hy69 (fun _ _ _ => trivial) (fun hCl' => ?_)
          case hy69 => (intro w hSw; refine T.qVal ?_ hSw; (have fF102 := F102.out w hSw; have fF103 := F103.out w hSw; have fF104 := F104.out w hSw; obtain ⟨z1, z2, z3, z4⟩ := HX.out w (Ux.trans hSw)); (try dsimp only [List.getElem_toArray, List.getElem_cons_succ, List.getElem_cons_zero]); go_simp; try with_reducible rfl)
          simp only [Act.put, List.setIfInBounds_toArray, List.set_cons_zero, List.set_cons_succ]
          replace hCl := hCl'; clear hCl'
          refine T.qTake (i := 17) (d := (some 118)) (v := ?v70) rfl rfl (by kernel_rfl) (by decide) hCl (by kernel_rfl) (by kernel_rfl) (by kernel_rfl) (by rfl) ?hy70 (fun _ _ _ => trivial) (fun hCl' => ?_)
          case hy70 => (intro w hSw; refine T.qVal ?_ hSw; (have fF102 := F102.out w hSw; have fF103 := F103.out w hSw; have fF104 := F104.out w hSw; obtain ⟨z1, z2, z3, z4⟩ := HX.out w (Ux.trans hSw)); (try dsimp only [List.getElem_toArray, List.getElem_cons_succ, List.getElem_cons_zero]); go_simp; try with_reducible rfl)
          simp only [Act.put, List.setIfInBounds_toArray, List.set_cons_zero, List.set_cons_succ]
          replace hCl := hCl'; clear hCl'
          refine T.qTake (i := 18) (d := (some 119)) (v := ?v71) rfl rfl (by kernel_rfl) (by decide) hCl (by kernel_rfl) (by kernel_rfl) (by kernel_rfl) (by rfl) ?hy71 (fun _ _ _ => trivial) (fun hCl' => ?_)
          case hy71 => (intro w hSw; refine T.qVal ?_ hSw; (have fF102 := F102.out w hSw; have fF103 := F103.out w hSw; have fF104 := F104.out w hSw; obtain ⟨z1, z2, z3, z4⟩ := HX.out w (Ux.trans hSw)); (try dsimp only [List.getElem_toArray, List.getElem_cons_succ, List.getElem_cons_zero]); go_simp; try with_reducible rfl)
          simp only [Act.put, List.setIfInBounds_toArray, List.set_cons_zero, List.set_cons_succ]
          replace hCl := hCl'; clear hCl'
          refine T.qTake (i := 19) (d := (some 120)) (v := ?v72) rfl rfl (by kernel_rfl) (by decide) hCl (by kernel_rfl) (by kernel_rfl) (by kernel_rfl) (by rfl) ?hy72 (fun _ _ _ => trivial) (fun hCl' => ?_)
          case hy72 => (intro w hSw; refine T.qVal ?_ hSw; (have fF102 := F102.out w hSw; have fF103 := F103.out w hSw; have fF104 := F104.out w hSw; obtain ⟨z1, z2, z3, z4⟩ := HX.out w (Ux.trans hSw)); (try dsimp only [List.getElem_toArray, List.getElem_cons_succ, List.getElem_cons_zero]); go_simp; try with_reducible rfl)
          simp only [Act.put, List.setIfInBounds_toArray, List.set_cons_zero, List.set_cons_succ]
          replace hCl := hCl'; clear hCl'
          refine T.qTake (i := 20) (d := (some 121)) (v := ?v73) rfl rfl (by kernel_rfl) (by decide) hCl (by kernel_rfl) (by kernel_rfl) (by kernel_rfl) (by rfl) ?hy73 (fun _ _ _ => trivial) (fun hCl' => ?_)
          case hy73 => (intro w hSw; refine T.qVal ?_ hSw; (have fF102 := F102.out w hSw; have fF103 := F103.out w hSw; have fF104 := F104.out w hSw; obtain ⟨z1, z2, z3, z4⟩ := HX.out w (Ux.trans hSw)); (try dsimp only [List.getElem_toArray, List.getElem_cons_succ, List.getElem_cons_zero]); go_simp; try with_reducible rfl)
          simp only [Act.put, List.setIfInBounds_toArray, List.set_cons_zero, List.set_cons_succ]
          replace hCl := hCl'; clear hCl'
          refine T.qTake (i := 24) (d := (some 125)) (v := ?v74) rfl rfl (by kernel_rfl) (by decide) hCl (by kernel_rfl) (by kernel_rfl) (by kernel_rfl) (by rfl) ?hy74 (fun _ _ _ => trivial) (fun hCl' => ?_)
          case hy74 => (intro w hSw; refine T.qVal ?_ hSw; (have fF102 := F102.out w hSw; have fF103 := F103.out w hSw; have fF104 := F104.out w hSw; obtain ⟨z1, z2, z3, z4⟩ := HX.out w (Ux.trans hSw)); (try dsimp only [List.getElem_toArray, List.getElem_cons_succ, List.getElem_cons_zero]); go_simp; try with_reducible rfl)
          simp only [Act.put, List.setIfInBounds_toArray, List.set_cons_zero, List.set_cons_succ]
          replace hCl := hCl'; clear hCl'
          refine T.qTake (i := 21) (d := (some 122)) (v := ?v75) rfl rfl (by kernel_rfl) (by decide) hCl (by kernel_rfl) (by kernel_rfl) (by kernel_rfl) (by rfl) ?hy75 (fun _ _ _ => trivial) (fun hCl' => ?_)
          case hy75 => (intro w hSw; refine T.qVal ?_ hSw; (have fF102 := F102.out w hSw; have fF103 := F103.out w hSw; have fF104 := F104.out w hSw; obtain ⟨z1, z2, z3, z4⟩ := HX.out w (Ux.trans hSw)); (try dsimp only [List.getElem_toArray, List.getElem_cons_succ, List.getElem_cons_zero]); go_simp; try with_reducible rfl)
          simp only [Act.put, List.setIfInBounds_toArray, List.set_cons_zero, List.set_cons_succ]
          replace hCl := hCl'; clear hCl'
          refine T.qTake (i := 25) (d := (some 126)) (v := ?v76) rfl rfl (by kernel_rfl) (by decide) hCl (by kernel_rfl) (by kernel_rfl) (by kernel_rfl) (by rfl) ?hy76 (fun _ _ _ => trivial) (fun hCl' => ?_)
          case hy76 => (intro w hSw; refine T.qVal ?_ hSw; (have fF102 := F102.out w hSw; have fF103 := F103.out w hSw; have fF104 := F104.out w hSw; obtain ⟨z1, z2, z3, z4⟩ := HX.out w (Ux.trans hSw)); (try dsimp only [List.getElem_toArray, List.getElem_cons_succ, List.getElem_cons_zero]); go_simp; try with_reducible rfl)
          simp only [Act.put, List.setIfInBounds_toArray, List.set_cons_zero, List.set_cons_succ]
          replace hCl := hCl'; clear hCl'
          refine T.qTake (i := 22) (d := (some 123)) (v := ?v77) rfl rfl (by kernel_rfl) (by decide) hCl (by kernel_rfl) (by kernel_rfl) (by kernel_rfl) (by rfl) ?hy77 (fun _ _ _ => trivial) (fun hCl' => ?_)
          case hy77 => (intro w hSw; refine T.qVal ?_ hSw; (have fF102 := F102.out w hSw; have fF103 := F103.out w hSw; have fF104 := F104.out w hSw; obtain ⟨z1, z2, z3, z4⟩ := HX.out w (Ux.trans hSw)); (try dsimp only [List.getElem_toArray, List.getElem_cons_succ, List.getElem_cons_zero]); go_simp; try with_reducible rfl)
          simp only [Act.put, List.setIfInBounds_toArray, List.set_cons_zero, List.set_cons_succ]
          replace hCl := hCl'; clear hCl'
          refine T.qTake (i := 26) (d := (some 127)) (v := ?v78) rfl rfl (by kernel_rfl) (by decide) hCl (by kernel_rfl) (by kernel_rfl) (by kernel_rfl) (by rfl) ?hy78 (fun _ _ _ => trivial) (fun hCl' => ?_)
          case hy78 => (intro w hSw; refine T.qVal ?_ hSw; (have fF102 := F102.out w hSw; have fF103 := F103.out w hSw; have fF104 := F104.out w hSw; obtain ⟨z1, z2, z3, z4⟩ := HX.out w (Ux.trans hSw)); (try dsimp only [List.getElem_toArray, List.getElem_cons_succ, List.getElem_cons_zero]); go_simp; try with_reducible rfl)
          simp only [Act.put, List.setIfInBounds_toArray, List.set_cons_zero, List.set_cons_succ]
          replace hCl := hCl'; clear hCl'
          refine T.qTake (i := 23) (d := (some 124)) (v := ?v79) rfl rfl (by kernel_rfl) (by decide) hCl (by kernel_rfl) (by kernel_rfl) (by kernel_rfl) (by rfl) ?hy79 (fun _ _ _ => trivial) (fun hCl' => ?_)
          case hy79 => (intro w hSw; refine T.qVal ?_ hSw; (have fF102 := F102.out w hSw; have fF103 := F103.out w hSw; have fF104 := F104.out w hSw; obtain ⟨z1, z2, z3, z4⟩ := HX.out w (Ux.trans hSw)); (try dsimp only [List.getElem_toArray, List.getElem_cons_succ, List.getElem_cons_zero]); go_simp; try with_reducible rfl)
          simp only [Act.put, List.setIfInBounds_toArray, List.set_cons_zero, List.set_cons_succ]
          replace hCl := hCl'; clear hCl'
          refine T.qTake (i := 27) (d := (some 128)) (v := ?v80) rfl rfl (by kernel_rfl) (by decide) hCl (by kernel_rfl) (by kernel_rfl) (by kernel_rfl) (by rfl) ?hy80 (fun _ _ _ => trivial) (fun hCl' => ?_)
          case hy80 => (intro w hSw; refine T.qVal ?_ hSw; (have fF102 := F102.out w hSw; have fF103 := F103.out w hSw; have fF104 := F104.out w hSw; obtain ⟨z1, z2, z3, z4⟩ := HX.out w (Ux.trans hSw)); (try dsimp only [List.getElem_toArray, List.getElem_cons_succ, List.getElem_cons_zero]); go_simp; try with_reducible rfl)
          simp only [Act.put, List.setIfInBounds_toArray, List.set_cons_zero, List.set_cons_succ]
          replace hCl := hCl'; clear hCl'
          refine T.qTake (i := 28) (d := (some 129)) (v := ?v81) rfl rfl (by kernel_rfl) (by decide) hCl (by kernel_rfl) (by kernel_rfl) (by kernel_rfl) (by rfl) ?hy81 (fun _ _ _ => trivial) (fun hCl' => ?_)
          case hy81 => (intro w hSw; refine T.qVal ?_ hSw; (have fF102 := F102.out w hSw; have fF103 := F103.out w hSw; have fF104 := F104.out w hSw; obtain ⟨z1, z2, z3, z4⟩ := HX.out w (Ux.trans hSw)); (try dsimp only [List.getElem_toArray, List.getElem_cons_succ, List.getElem_cons_zero]); go_simp; try with_reducible rfl)
          simp only [Act.put, List.setIfInBounds_toArray, List.set_cons_zero, List.set_cons_succ]
          replace hCl := hCl'; clear hCl'
          refine T.qTake (i := 29) (d := (some 130)) (v := ?v82) rfl rfl (by kernel_rfl) (by decide) hCl (by kernel_rfl) (by kernel_rfl) (by kernel_rfl) (by rfl) ?hy82 (fun _ _ _ => trivial) (fun hCl' => ?_)
          case hy82 => (intro w hSw; refine T.qVal ?_ hSw; (have fF102 := F102.out w hSw; have fF103 := F103.out w hSw; have fF104 := F104.out w hSw; obtain ⟨z1, z2, z3, z4⟩ := HX.out w (Ux.trans hSw)); (try dsimp only [List.getElem_toArray, List.getElem_cons_succ, List.getElem_cons_zero]); go_simp; try with_reducible rfl)
          simp only [Act.put, List.setIfInBounds_toArray, List.set_cons_zero, List.set_cons_succ]
          replace hCl := hCl'; clear hCl'
          refine T.qTake (i := 30) (d := (some 131)) (v := ?v83) rfl rfl (by kernel_rfl) (by decide) hCl (by kernel_rfl) (by kernel_rfl) (by kernel_rfl) (by rfl) ?hy83 (fun _ _ _ => trivial) (fun hCl' => ?_)
          case hy83 => (intro w hSw; refine T.qVal ?_ hSw; (have fF102 := F102.out w hSw; have fF103 := F103.out w hSw; have fF104 := F104.out w hSw; obtain ⟨z1, z2, z3, z4⟩ := HX.out w (Ux.trans hSw)); (try dsimp only [List.getElem_toArray, List.getElem_cons_succ, List.getElem_cons_zero]); go_simp; try with_reducible rfl)
          simp only [Act.put, List.setIfInBounds_toArray, List.set_cons_zero, List.set_cons_succ]
          replace hCl := hCl'; clear hCl'
          refine T.qTake (i := 31) (d := (some 132)) (v := ?v84) rfl rfl (by kernel_rfl) (by decide) hCl (by kernel_rfl) (by kernel_rfl) (by kernel_rfl) (by rfl) ?hy84 (fun _ _ _ => trivial) (fun hCl' => ?_)
          case hy84 => (intro w hSw; refine T.qVal ?_ hSw; (have fF102 := F102.out w hSw; have fF103 := F103.out w hSw; have fF104 := F104.out w hSw; obtain ⟨z1, z2, z3, z4⟩ := HX.out w (Ux.trans hSw)); (try dsimp only [List.getElem_toArray, List.getElem_cons_succ, List.getElem_cons_zero]); go_simp; try with_reducible rfl)
          simp only [Act.put, List.setIfInBounds_toArray, List.set_cons_zero, List.set_cons_succ]
          replace hCl := hCl'; clear hCl'
          refine T.qTake (i := 35) (d := (some 136)) (v := ?v85) rfl rfl (by kernel_rfl) (by decide) hCl (by kernel_rfl) (by kernel_rfl) (by kernel_rfl) (by rfl) ?hy85 (fun _ _ _ => trivial) (fun hCl' => ?_)
          case hy85 => (intro w hSw; refine T.qVal ?_ hSw; (have fF102 := F102.out w hSw; have fF103 := F103.out w hSw; have fF104 := F104.out w hSw; obtain ⟨z1, z2, z3, z4⟩ := HX.out w (Ux.trans hSw)); (try dsimp only [List.getElem_toArray, List.getElem_cons_succ, List.getElem_cons_zero]); go_simp; try with_reducible rfl)
          simp only [Act.put, List.setIfInBounds_toArray, List.set_cons_zero, List.set_cons_succ]
          replace hCl := hCl'; clear hCl'
          refine T.qTake (i := 32) (d := (some 133)) (v := ?v86) rfl rfl (by kernel_rfl) (by decide) hCl (by kernel_rfl) (by kernel_rfl) (by kernel_rfl) (by rfl) ?hy86 (fun _ _ _ => trivial) (fun hCl' => ?_)
          case hy86 => (intro w hSw; refine T.qVal ?_ hSw; (have fF102 := F102.out w hSw; have fF103 := F103.out w hSw; have fF104 := F104.out w hSw; obtain ⟨z1, z2, z3, z4⟩ := HX.out w (Ux.trans hSw)); (try dsimp only [List.getElem_toArray, List.getElem_cons_succ, List.getElem_cons_zero]); go_simp; try with_reducible rfl)
          simp only [Act.put, List.setIfInBounds_toArray, List.set_cons_zero, List.set_cons_succ]
          replace hCl := hCl'; clear hCl'
          refine T.qTake (i := 36) (d := (some 137)) (v := ?v87) rfl rfl (by kernel_rfl) (by decide) hCl (by kernel_rfl) (by kernel_rfl) (by kernel_rfl) (by rfl) ?hy87 (fun _ _ _ => trivial) (fun hCl' => ?_)
          case hy87 => (intro w hSw; refine T.qVal ?_ hSw; (have fF102 := F102.out w hSw; have fF103 := F103.out w hSw; have fF104 := F104.out w hSw; obtain ⟨z1, z2, z3, z4⟩ := HX.out w (Ux.trans hSw)); (try dsimp only [List.getElem_toArray, List.getElem_cons_succ, List.getElem_cons_zero]); go_simp; try with_reducible rfl)
          simp only [Act.put, List.setIfInBounds_toArray, List.set_cons_zero, List.set_cons_succ]
          replace hCl := hCl'; clear hCl'
          refine T.qTake (i := 33) (d := (some 134)) (v := ?v88) rfl rfl (by kernel_rfl) (by decide) hCl (by kernel_rfl) (by kernel_rfl) (by kernel_rfl) (by rfl) ?hy88 (fun _ _ _ => trivial) (fun hCl' => ?_)
          case hy88 => (intro w hSw; refine T.qVal ?_ hSw; (have fF102 := F102.out w hSw; have fF103 := F103.out w hSw; have fF104 := F104.out w hSw; obtain ⟨z1, z2, z3, z4⟩ := HX.out w (Ux.trans hSw)); (try dsimp only [List.getElem_toArray, List.getElem_cons_succ, List.getElem_cons_zero]); go_simp; try with_reducible rfl)
          simp only [Act.put, List.setIfInBounds_toArray, List.set_cons_zero, List.set_cons_succ]
          replace hCl := hCl'; clear hCl'
          refine T.qTake (i := 37) (d := (some 138)) (v := ?v89) rfl rfl (by kernel_rfl) (by decide) hCl (by kernel_rfl) (by kernel_rfl) (by kernel_rfl) (by rfl) ?hy89 (fun _ _ _ => trivial) (fun hCl' => ?_)
          case hy89 => (intro w hSw; refine T.qVal ?_ hSw; (have fF102 := F102.out w hSw; have fF103 := F103.out w hSw; have fF104 := F104.out w hSw; obtain ⟨z1, z2, z3, z4⟩ := HX.out w (Ux.trans hSw)); (try dsimp only [List.getElem_toArray, List.getElem_cons_succ, List.getElem_cons_zero]); go_simp; try with_reducible rfl)
          simp only [Act.put, List.setIfInBounds_toArray, List.set_cons_zero, List.set_cons_succ]
          replace hCl := hCl'; clear hCl'
          refine T.qTake (i := 34) (d := (some 135)) (v := ?v90) rfl rfl (by kernel_rfl) (by decide) hCl (by kernel_rfl) (by kernel_rfl) (by kernel_rfl) (by rfl) ?hy90 (fun _ _ _ => trivial) (fun hCl' => ?_)
          case hy90 => (intro w hSw; refine T.qVal ?_ hSw; (have fF102 := F102.out w hSw; have fF103 := F103.out w hSw; have fF104 := F104.out w hSw; obtain ⟨z1, z2, z3, z4⟩ := HX.out w (Ux.trans hSw)); (try dsimp only [List.getElem_toArray, List.getElem_cons_succ, List.getElem_cons_zero]); go_simp; try with_reducible rfl)
          simp only [Act.put, List.setIfInBounds_toArray, List.set_cons_zero, List.set_cons_succ]
          replace hCl := hCl'; clear hCl'
          refine T.qTake (i := 38) (d := (some 139)) (v := ?v91) rfl rfl (by kernel_rfl) (by decide) hCl (by kernel_rfl) (by kernel_rfl) (by kernel_rfl) (by rfl) ?hy91 (fun _ _ _ => trivial) (fun hCl' => ?_)
          case hy91 => (intro w hSw; refine T.qVal ?_ hSw; (have fF102 := F102.out w hSw; have fF103 := F103.out w hSw; have fF104 := F104.out w hSw; obtain ⟨z1, z2, z3, z4⟩ := HX.out w (Ux.trans hSw)); (try dsimp only [List.getElem_toArray, List.getElem_cons_succ, List.getElem_cons_zero]); go_simp; try with_reducible rfl)
          simp only [Act.put, List.setIfInBounds_toArray, List.set_cons_zero, List.set_cons_succ]
          replace hCl := hCl'; clear hCl'
          refine T.qTake (i := 39) (d := (some 140)) (v := ?v92) rfl rfl (by kernel_rfl) (by decide) hCl (by kernel_rfl) (by kernel_rfl) (by kernel_rfl) (by rfl) ?hy92 (fun _ _ _ => trivial) (fun hCl' => ?_)
          case hy92 => (intro w hSw; refine T.qVal ?_ hSw; (have fF102 := F102.out w hSw; have fF103 := F103.out w hSw; have fF104 := F104.out w hSw; obtain ⟨z1, z2, z3, z4⟩ := HX.out w (Ux.trans hSw)); (try dsimp only [List.getElem_toArray, List.getElem_cons_succ, List.getElem_cons_zero]); go_simp; try with_reducible rfl)
          simp only [Act.put, List.setIfInBounds_toArray, List.set_cons_zero, List.set_cons_succ]
          replace hCl := hCl'; clear hCl'
          refine T.qTake (i := 40) (d := (some 141)) (v := ?v93) rfl rfl (by kernel_rfl) (by decide) hCl (by kernel_rfl) (by kernel_rfl) (by kernel_rfl) (by rfl) ?hy93 (fun _ _ _ => trivial) (fun hCl' => ?_)
          case hy93 => (intro w hSw; refine T.qVal ?_ hSw; (have fF102 := F102.out w hSw; have fF103 := F103.out w hSw; have fF104 := F104.out w hSw; obtain ⟨z1, z2, z3, z4⟩ := HX.out w (Ux.trans hSw)); (try dsimp only [List.getElem_toArray, List.getElem_cons_succ, List.getElem_cons_zero]); go_simp; try with_reducible rfl)
          simp only [Act.put, List.setIfInBounds_toArray, List.set_cons_zero, List.set_cons_succ]
          replace hCl := hCl'; clear hCl'
          refine T.qTake (i := 41) (d := (some 142)) (v := ?v94) rfl rfl (by kernel_rfl) (by decide) hCl (by kernel_rfl) (by kernel_rfl) (by kernel_rfl) (by rfl) ?hy94 (fun _ _ _ => trivial) (fun hCl' => ?_)
          case hy94 => (intro w hSw; refine T.qVal ?_ hSw; (have fF102 := F102.out w hSw; have fF103 := F103.out w hSw; have fF104 := F104.out w hSw; obtain ⟨z1, z2, z3, z4⟩ := HX.out w (Ux.trans hSw)); (try dsimp only [List.getElem_toArray, List.getElem_cons_succ, List.getElem_cons_zero]); go_simp; try with_reducible rfl)
          simp only [Act.put, List.setIfInBounds_toArray, List.set_cons_zero, List.set_cons_succ]
          replace hCl := hCl'; clear hCl'
          refine T.qTake (i := 42) (d := (some 143)) (v := ?v95) rfl rfl (by kernel_rfl) (by decide) hCl (by kernel_rfl) (by kernel_rfl) (by kernel_rfl) (by rfl) ?hy95 (fun _ _ _ => trivial) (fun hCl' => ?_)
          case hy95 => (intro w hSw; refine T.qVal ?_ hSw; (have fF102 := F102.out w hSw; have fF103 := F103.out w hSw; have fF104 := F104.out w hSw; obtain ⟨z1, z2, z3, z4⟩ := HX.out w (Ux.trans hSw)); (try dsimp only [List.getElem_toArray, List.getElem_cons_succ, List.getElem_cons_zero]); go_simp; try with_reducible rfl)
          simp only [Act.put, List.setIfInBounds_toArray, List.set_cons_zero, List.set_cons_succ]
          replace hCl := hCl'; clear hCl'
          refine T.qTake (i := 43) (d := (some 144)) (v := ?v96) rfl rfl (by kernel_rfl) (by decide) hCl (by kernel_rfl) (by kernel_rfl) (by kernel_rfl) (by rfl) ?hy96 (fun _ _ _ => trivial) (fun hCl' => ?_)
          case hy96 => (intro w hSw; refine T.qVal ?_ hSw; (have fF102 := F102.out w hSw; have fF103 := F103.out w hSw; have fF104 := F104.out w hSw; obtain ⟨z1, z2, z3, z4⟩ := HX.out w (Ux.trans hSw)); (try dsimp only [List.getElem_toArray, List.getElem_cons_succ, List.getElem_cons_zero]); go_simp; try with_reducible rfl)
          simp only [Act.put, List.setIfInBounds_toArray, List.set_cons_zero, List.set_cons_succ]
          replace hCl := hCl'; clear hCl'
          refine T.qTake (i := 46) (d := (some 147)) (v := ?v97) rfl rfl (by kernel_rfl) (by decide) hCl (by kernel_rfl) (by kernel_rfl) (by kernel_rfl) (by rfl) ?hy97 (fun _ _ _ => trivial) (fun hCl' => ?_)
          case hy97 => (intro w hSw; refine T.qVal ?_ hSw; (have fF102 := F102.out w hSw; have fF103 := F103.out w hSw; have fF104 := F104.out w hSw; obtain ⟨z1, z2, z3, z4⟩ := HX.out w (Ux.trans hSw)); (try dsimp only [List.getElem_toArray, List.getElem_cons_succ, List.getElem_cons_zero]); go_simp; try with_reducible rfl)
          simp only [Act.put, List.setIfInBounds_toArray, List.set_cons_zero, List.set_cons_succ]
          replace hCl := hCl'; clear hCl'
          refine T.qTake (i := 44) (d := (some 145)) (v := ?v98) rfl rfl (by kernel_rfl) (by decide) hCl (by kernel_rfl) (by kernel_rfl) (by kernel_rfl) (by rfl) ?hy98 (fun _ _ _ => trivial) (fun hCl' => ?_)
          case hy98 => (intro w hSw; refine T.qVal ?_ hSw; (have fF102 := F102.out w hSw; have fF103 := F103.out w hSw; have fF104 := F104.out w hSw; obtain ⟨z1, z2, z3, z4⟩ := HX.out w (Ux.trans hSw)); (try dsimp only [List.getElem_toArray, List.getElem_cons_succ, List.getElem_cons_zero]); go_simp; try with_reducible rfl)
          simp only [Act.put, List.setIfInBounds_toArray, List.set_cons_zero, List.set_cons_succ]
          replace hCl := hCl'; clear hCl'
          refine T.qTake (i := 45) (d := (some 146)) (v := ?v99) rfl rfl (by kernel_rfl) (by decide) hCl (by kernel_rfl) (by kernel_rfl) (by kernel_rfl) (by rfl) ?hy99 (fun _ _ _ => trivial) (fun hCl' => ?_)
          case hy99 => (intro w hSw; refine T.qVal ?_ hSw; (have fF102 := F102.out w hSw; have fF103 := F103.out w hSw; have fF104 := F104.out w hSw; obtain ⟨z1, z2, z3, z4⟩ := HX.out w (Ux.trans hSw)); (try dsimp only [List.getElem_toArray, List.getElem_cons_succ, List.getElem_cons_zero]); go_simp; try with_reducible rfl)
          simp only [Act.put, List.setIfInBounds_toArray, List.set_cons_zero, List.set_cons_succ]
          replace hCl := hCl'; clear hCl'
          refine T.qTake (i := 47) (d := (some 148)) (v := ?v100) rfl rfl (by kernel_rfl) (by decide) hCl (by kernel_rfl) (by kernel_rfl) (by kernel_rfl) (by rfl) ?hy100 (fun _ _ _ => trivial) (fun hCl' => ?_)
          case hy100 => (intro w hSw; refine T.qVal ?_ hSw; (have fF102 := F102.out w hSw; have fF103 := F103.out w hSw; have fF104 := F104.out w hSw; obtain ⟨z1, z2, z3, z4⟩ := HX.out w (Ux.trans hSw)); (try dsimp only [List.getElem_toArray, List.getElem_cons_succ, List.getElem_cons_zero]); go_simp; try with_reducible rfl)
          simp only [Act.put, List.setIfInBounds_toArray, List.set_cons_zero, List.set_cons_succ]
          replace hCl := hCl'; clear hCl'
          refine T.qTake (i := 48) (d := (some 149)) (v := ?v101) rfl rfl (by kernel_rfl) (by decide) hCl (by kernel_rfl) (by kernel_rfl) (by kernel_rfl) (by rfl) ?hy101 (fun _ _ _ => trivial) (fun hCl' => ?_)
          case hy101 => (intro w hSw; refine T.qVal ?_ hSw; (have fF102 := F102.out w hSw; have fF103 := F103.out w hSw; have fF104 := F104.out w hSw; obtain ⟨z1, z2, z3, z4⟩ := HX.out w (Ux.trans hSw)); (try dsimp only [List.getElem_toArray, List.getElem_cons_succ, List.getElem_cons_zero]); go_simp; try with_reducible rfl)
          simp only [Act.put, List.setIfInBounds_toArray, List.set_cons_zero, List.set_cons_succ]
          replace hCl := hCl'; clear hCl'
          refine T.qTake (i := 49) (d := (some 150)) (v := ((.bool true))) rfl rfl (by kernel_rfl) (by decide) hCl (by kernel_rfl) (by kernel_rfl) (by kernel_rfl) (by rfl) ?hy102 (fun _ _ _ => trivial) (fun hCl' => ?_)
          case hy102 => (intro w hSw; (have fF102 := F102.out w hSw; have fF103 := F103.out w hSw; have fF104 := F104.out w hSw; obtain ⟨z1, z2, z3, z4⟩ := HX.out w (Ux.trans hSw)); (try dsimp only [List.getElem_toArray, List.getElem_cons_succ, List.getElem_cons_zero]); go_simp; (refine (callsIn_wide.2 (HHas.out _ w HP2.out)).mono ?_; rintro e w3 ⟨rfl, u3⟩; exact ⟨rfl, hSw.trans u3⟩))
          simp only [Act.put, List.setIfInBounds_toArray, List.set_cons_zero, List.set_cons_succ]
          replace hCl := hCl'; clear hCl'
          refine T.qTake (i := 50) (d := (some 151)) (v := ?v103) rfl rfl (by kernel_rfl) (by decide) hCl (by kernel_rfl) (by kernel_rfl) (by kernel_rfl) (by rfl) ?hy103 (fun _ _ _ => trivial) (fun hCl' => ?_)
          case hy103 => (intro w hSw; refine T.qVal ?_ hSw; (have fF102 := F102.out w hSw; have fF103 := F103.out w hSw; have fF104 := F104.out w hSw; obtain ⟨z1, z2, z3, z4⟩ := HX.out w (Ux.trans hSw)); (try dsimp only [List.getElem_toArray, List.getElem_cons_succ, List.getElem_cons_zero]); go_simp; try with_reducible rfl)
          simp only [Act.put, List.setIfInBounds_toArray, List.set_cons_zero, List.set_cons_succ]
          replace hCl := hCl'; clear hCl'
          refine T.tail_intro (by kernel_rfl) (fun Y101 hY101 => ?_)
          replace U := U.trans hY101
          replace kC := hY101.blk kC
          replace ks := hY101.blk ks
          replace kt := hY101.blk kt
          replace Ux := Ux.trans hY101
          clear F102 F103 F104 hY101
          refine lastG (i := 51) (by kernel_rfl) rfl (by rfl) (by decide) (fun K hK => ?_)
          go_simp
          refine hK.out _ _ ?_
          clear hK K
          refine doneG (by kernel_rfl) ?_ _
          refine S.nrm_intro ?_
          go_wp2_with fail
          have F106 := Lib.hid (fun w (u : Up Y101 w) => cellB (u.blk kC))
          have F107 := Lib.hid (fun w (u : Up Y101 w) => cellB (u.blk ks))
          have F108 := Lib.hid (fun w (u : Up Y101 w) => cellB (u.blk kt))
          refine (wpIn_wide (n := 5)).1 ?_
          refine wpIn_nrm ?_
          refine T.regionQ (fun w' => Up Y101 w') 29 1 hmx (by kernel_rfl) (by kernel_rfl) ((Up.refl Y101).drew) (fun hCl => ?_)
          refine T.qTake (i := 0) (d := (some 153)) (v := ?v104) rfl rfl (by kernel_rfl) (by decide) hCl (by kernel_rfl) (by kernel_rfl) (by kernel_rfl) (by rfl) ?hy104 (fun _ _ _ => trivial) (fun hCl' => ?_)
          case hy104 => (intro w hSw; refine T.qVal ?_ hSw; (have fF106 := F106.out w hSw; have fF107 := F107.out w hSw; have fF108 := F108.out w hSw; obtain ⟨z1, z2, z3, z4⟩ := HX.out w (Ux.trans hSw)); (try dsimp only [List.getElem_toArray, List.getElem_cons_succ, List.getElem_cons_zero]); go_simp; try with_reducible rfl)
          simp only [Act.put, List.setIfInBounds_toArray, List.set_cons_zero, List.set_cons_succ]
          replace hCl := hCl'; clear hCl'
          refine T.qTake (i := 1) (d := (some 154)) (v := ?v105) rfl rfl (by kernel_rfl) (by decide) hCl (by kernel_rfl) (by kernel_rfl) (by kernel_rfl) (by rfl) ?hy105 (fun _ _ _ => trivial) (fun hCl' => ?_)
          case hy105 => (intro w hSw; refine T.qVal ?_ hSw; (have fF106 := F106.out w hSw; have fF107 := F107.out w hSw; have fF108 := F108.out w hSw; obtain ⟨z1, z2, z3, z4⟩ := HX.out w (Ux.trans hSw)); (try dsimp only [List.getElem_toArray, List.getElem_cons_succ, List.getElem_cons_zero]); go_simp; try with_reducible rfl)
          simp only [Act.put, List.setIfInBounds_toArray, List.set_cons_zero, List.set_cons_succ]
          replace hCl := hCl'; clear hCl'
          refine T.qTake (i := 2) (d := (some 155)) (v := ?v106) rfl rfl (by kernel_rfl) (by decide) hCl (by kernel_rfl) (by kernel_rfl) (by kernel_rfl) (by rfl) ?hy106 (fun _ _ _ => trivial) (fun hCl' => ?_)
          case hy106 => (intro w hSw; refine T.qVal ?_ hSw; (have fF106 := F106.out w hSw; have fF107 := F107.out w hSw; have fF108 := F108.out w hSw; obtain ⟨z1, z2, z3, z4⟩ := HX.out w (Ux.trans hSw)); (try dsimp only [List.getElem_toArray, List.getElem_cons_succ, List.getElem_cons_zero]); go_simp; try with_reducible rfl)
          simp only [Act.put, List.setIfInBounds_toArray, List.set_cons_zero, List.set_cons_succ]
          replace hCl := hCl'; clear hCl'
          refine T.qTake (i := 3) (d := (some 156)) (v := ?v107) rfl rfl (by kernel_rfl) (by decide) hCl (by kernel_rfl) (by kernel_rfl) (by kernel_rfl) (by rfl) ?hy107 (fun _ _ _ => trivial) (fun hCl' => ?_)
          case hy107 => (intro w hSw; refine T.qVal ?_ hSw; (have fF106 := F106.out w hSw; have fF107 := F107.out w hSw; have fF108 := F108.out w hSw; obtain ⟨z1, z2, z3, z4⟩ := HX.out w (Ux.trans hSw)); (try dsimp only [List.getElem_toArray, List.getElem_cons_succ, List.getElem_cons_zero]); go_simp; try with_reducible rfl)
          simp only [Act.put, List.setIfInBounds_toArray, List.set_cons_zero, List.set_cons_succ]
          replace hCl := hCl'; clear hCl'
          refine T.qTake (i := 4) (d := (some 157)) (v := ?v108) rfl rfl (by kernel_rfl) (by decide) hCl (by kernel_rfl) (by kernel_rfl) (by kernel_rfl) (by rfl) ?hy108 (fun _ _ _ => trivial) (fun hCl' => ?_)
          case hy108 => (intro w hSw; refine T.qVal ?_ hSw; (have fF106 := F106.out w hSw; have fF107 := F107.out w hSw; have fF108 := F108.out w hSw; obtain ⟨z1, z2, z3, z4⟩ := HX.out w (Ux.trans hSw)); (try dsimp only [List.getElem_toArray, List.getElem_cons_succ, List.getElem_cons_zero]); go_simp; try with_reducible rfl)
          simp only [Act.put, List.setIfInBounds_toArray, List.set_cons_zero, List.set_cons_succ]
          replace hCl := hCl'; clear hCl'
          refine T.qTake (i := 7) (d := (some 160)) (v := ?v109) rfl rfl (by kernel_rfl) (by decide) hCl (by kernel_rfl) (by kernel_rfl) (by kernel_rfl) (by rfl) ?hy109 (fun _ _ _ => trivial) (fun hCl' => ?_)
          case hy109 => (intro w hSw; refine T.qVal ?_ hSw; (have fF106 := F106.out w hSw; have fF107 := F107.out w hSw; have fF108 := F108.out w hSw; obtain ⟨z1, z2, z3, z4⟩ := HX.out w (Ux.trans hSw)); (try dsimp only [List.getElem_toArray, List.getElem_cons_succ, List.getElem_cons_zero]); go_simp; try with_reducible rfl)
          simp only [Act.put, List.setIfInBounds_toArray, List.set_cons_zero, List.set_cons_succ]
          replace hCl := hCl'; clear hCl'
          refine T.qTake (i := 10) (d := (some 163)) (v := ?v110) rfl rfl (by kernel_rfl) (by decide) hCl (by kernel_rfl) (by kernel_rfl) (by kernel_rfl) (by rfl) ?hy110 (fun _ _ _ => trivial) (fun hCl' => ?_)
          case hy110 => (intro w hSw; refine T.qVal ?_ hSw; (have fF106 := F106.out w hSw; have fF107 := F107.out w hSw; have fF108 := F108.out w hSw; obtain ⟨z1, z2, z3, z4⟩ := HX.out w (Ux.trans hSw)); (try dsimp only [List.getElem_toArray, List.getElem_cons_succ, List.getElem_cons_zero]); go_simp; try with_reducible rfl)
          simp only [Act.put, List.setIfInBounds_toArray, List.set_cons_zero, List.set_cons_succ]
          replace hCl := hCl'; clear hCl'
          refine T.qTake (i := 5) (d := (some 158)) (v := ?v111) rfl rfl (by kernel_rfl) (by decide) hCl (by kernel_rfl) (by kernel_rfl) (by kernel_rfl) (by rfl) ?hy111 (fun _ _ _ => trivial) (fun hCl' => ?_)
          case hy111 => (intro w hSw; refine T.qVal ?_ hSw; (have fF106 := F106.out w hSw; have fF107 := F107.out w hSw; have fF108 := F108.out w hSw; obtain ⟨z1, z2, z3, z4⟩ := HX.out w (Ux.trans hSw)); (try dsimp only [List.getElem_toArray, List.getElem_cons_succ, List.getElem_cons_zero]); go_simp; try with_reducible rfl)
          simp only [Act.put, List.setIfInBounds_toArray, List.set_cons_zero, List.set_cons_succ]
          replace hCl := hCl'; clear hCl'
          refine T.qTake (i := 11) (d := (some 164)) (v := ?v112) rfl rfl (by kernel_rfl) (by decide) hCl (by kernel_rfl) (by kernel_rfl) (by kernel_rfl) (by rfl) ?hy112 (fun _ _ _ => trivial) (fun hCl' => ?_)
          case hy112 => (intro w hSw; refine T.qVal ?_ hSw; (have fF106 := F106.out w hSw; have fF107 := F107.out w hSw; have fF108 := F108.out w hSw; obtain ⟨z1, z2, z3, z4⟩ := HX.out w (Ux.trans hSw)); (try dsimp only [List.getElem_toArray, List.getElem_cons_succ, List.getElem_cons_zero]); go_simp; try with_reducible rfl)
          simp only [Act.put, List.setIfInBounds_toArray, List.set_cons_zero, List.set_cons_succ]
          replace hCl := hCl'; clear hCl'
          refine T.qTake (i := 6) (d := (some 159)) (v := ?v113) rfl rfl (by kernel_rfl) (by decide) hCl (by kernel_rfl) (by kernel_rfl) (by kernel_rfl) (by rfl) ?hy113 (fun _ _ _ => trivial) (fun hCl' => ?_)
          case hy113 => (intro w hSw; refine T.qVal ?_ hSw; (have fF106 := F106.out w hSw; have fF107 := F107.out w hSw; have fF108 := F108.out w hSw; obtain ⟨z1, z2, z3, z4⟩ := HX.out w (Ux.trans hSw)); (try dsimp only [List.getElem_toArray, List.getElem_cons_succ, List.getElem_cons_zero]); go_simp; try with_reducible rfl)
          simp only [Act.put, List.setIfInBounds_toArray, List.set_cons_zero, List.set_cons_succ]
          replace hCl := hCl'; clear hCl'
          refine T.qTake (i := 8) (d := (some 161)) (v := ?v114) rfl rfl (by kernel_rfl) (by decide) hCl (by kernel_rfl) (by kernel_rfl) (by kernel_rfl) (by rfl) ?hy114 (fun _ _ _ => trivial) (fun hCl' => ?_)
          case hy114 => (intro w hSw; refine T.qVal ?_ hSw; (have fF106 := F106.out w hSw; have fF107 := F107.out w hSw; have fF108 := F108.out w hSw; obtain ⟨z1, z2, z3, z4⟩ := HX.out w (Ux.trans hSw)); (try dsimp only [List.getElem_toArray, List.getElem_cons_succ, List.getElem_cons_zero]); go_simp; try with_reducible rfl)
          simp only [Act.put, List.setIfInBounds_toArray, List.set_cons_zero, List.set_cons_succ]
          replace hCl := hCl'; clear hCl'
          refine T.qTake (i := 9) (d := (some 162)) (v := ?v115) rfl rfl (by kernel_rfl) (by decide) hCl (by kernel_rfl) (by kernel_rfl) (by kernel_rfl) (by rfl) ?hy115 (fun _ _ _ => trivial) (fun hCl' => ?_)
          case hy115 => (intro w hSw; refine T.qVal ?_ hSw; (have fF106 := F106.out w hSw; have fF107 := F107.out w hSw; have fF108 := F108.out w hSw; obtain ⟨z1, z2, z3, z4⟩ := HX.out w (Ux.trans hSw)); (try dsimp only [List.getElem_toArray, List.getElem_cons_succ, List.getElem_cons_zero]); go_simp; try with_reducible rfl)
          simp only [Act.put, List.setIfInBounds_toArray, List.set_cons_zero, List.set_cons_succ]
          replace hCl := hCl'; clear hCl'
          refine T.qTake (i := 12) (d := (some 165)) (v := ?v116) rfl rfl (by kernel_rfl) (by decide) hCl (by kernel_rfl) (by kernel_rfl) (by kernel_rfl) (by rfl) ?hy116 (fun _ _ _ => trivial) (fun hCl' => ?_)
          case hy116 => (intro w hSw; refine T.qVal ?_ hSw; (have fF106 := F106.out w hSw; have fF107 := F107.out w hSw; have fF108 := F108.out w hSw; obtain ⟨z1, z2, z3, z4⟩ := HX.out w (Ux.trans hSw)); (try dsimp only [List.getElem_toArray, List.getElem_cons_succ, List.getElem_cons_zero]); go_simp; try with_reducible rfl)
          simp only [Act.put, List.setIfInBounds_toArray, List.set_cons_zero, List.set_cons_succ]
          replace hCl := hCl'; clear hCl'
          refine T.qTake (i := 13) (d := (some 166)) (v := ?v117) rfl rfl (by kernel_rfl) (by decide) hCl (by kernel_rfl) (by kernel_rfl) (by kernel_rfl) (by rfl) ?hy117 (fun _ _ _ => trivial) (fun hCl' => ?_)
          case hy117 => (intro w hSw; refine T.qVal ?_ hSw; (have fF106 := F106.out w hSw; have fF107 := F107.out w hSw; have fF108 := F108.out w hSw; obtain ⟨z1, z2, z3, z4⟩ := HX.out w (Ux.trans hSw)); (try dsimp only [List.getElem_toArray, List.getElem_cons_succ, List.getElem_cons_zero]); go_simp; try with_reducible rfl)
          simp only [Act.put, List.setIfInBounds_toArray, List.set_cons_zero, List.set_cons_succ]
          replace hCl := hCl'; clear hCl'
          refine T.qTake (i := 14) (d := (some 167)) (v := ?v118) rfl rfl (by kernel_rfl) (by decide) hCl (by kernel_rfl) (by kernel_rfl) (by kernel_rfl) (by rfl) ?hy118 (fun _ _ _ => trivial) (fun hCl' => ?_)
          case hy118 => (intro w hSw; refine T.qVal ?_ hSw; (have fF106 := F106.out w hSw; have fF107 := F107.out w hSw; have fF108 := F108.out w hSw; obtain ⟨z1, z2, z3, z4⟩ := HX.out w (Ux.trans hSw)); (try dsimp only [List.getElem_toArray, List.getElem_cons_succ, List.getElem_cons_zero]); go_simp; try with_reducible rfl)
          simp only [Act.put, List.setIfInBounds_toArray, List.set_cons_zero, List.set_cons_succ]
          replace hCl := hCl'; clear hCl'
          refine T.qTake (i := 15) (d := (some 168)) (v := ?v119) rfl rfl (by kernel_rfl) (by decide) hCl (by kernel_rfl) (by kernel_rfl) (by kernel_rfl) (by rfl) ?hy119 (fun _ _ _ => trivial) (fun hCl' => ?_)
          case hy119 => (intro w hSw; refine T.qVal ?_ hSw; (have fF106 := F106.out w hSw; have fF107 := F107.out w hSw; have fF108 := F108.out w hSw; obtain ⟨z1, z2, z3, z4⟩ := HX.out w (Ux.trans hSw)); (try dsimp only [List.getElem_toArray, List.getElem_cons_succ, List.getElem_cons_zero]); go_simp; try with_reducible rfl)
          simp only [Act.put, List.setIfInBounds_toArray, List.set_cons_zero, List.set_cons_succ]
          replace hCl := hCl'; clear hCl'
          refine T.qTake (i := 16) (d := (some 169)) (v := ?v120) rfl rfl (by kernel_rfl) (by decide) hCl (by kernel_rfl) (by kernel_rfl) (by kernel_rfl) (by rfl) ?hy120 (fun _ _ _ => trivial) (fun hCl' => ?_)
          case hy120 => (intro w hSw; refine T.qVal ?_ hSw; (have fF106 := F106.out w hSw; have fF107 := F107.out w hSw; have fF108 := F108.out w hSw; obtain ⟨z1, z2, z3, z4⟩ := HX.out w (Ux.trans hSw)); (try dsimp only [List.getElem_toArray, List.getElem_cons_succ, List.getElem_cons_zero]); go_simp; try with_reducible rfl)
          simp only [Act.put, List.setIfInBounds_toArray, List.set_cons_zero, List.set_cons_succ]
          replace hCl := hCl'; clear hCl'
          refine T.qTake (i := 17) (d := (some 170)) (v := ?v121) rfl rfl (by kernel_rfl) (by decide) hCl (by kernel_rfl) (by kernel_rfl) (by kernel_rfl) (by rfl) ?hy121 (fun _ _ _ => trivial) (fun hCl' => ?_)
          case hy121 => (intro w hSw; refine T.qVal ?_ hSw; (have fF106 := F106.out w hSw; have fF107 := F107.out w hSw; have fF108 := F108.out w hSw; obtain ⟨z1, z2, z3, z4⟩ := HX.out w (Ux.trans hSw)); (try dsimp only [List.getElem_toArray, List.getElem_cons_succ, List.getElem_cons_zero]); go_simp; try with_reducible rfl)
          simp only [Act.put, List.setIfInBounds_toArray, List.set_cons_zero, List.set_cons_succ]
          replace hCl := hCl'; clear hCl'
          refine T.qSkip (i := 18) (d := (some 171)) rfl rfl (by kernel_rfl) (by decide) hCl (by kernel_rfl) (by kernel_rfl) (by kernel_rfl) (by rfl) (fun _ _ _ => trivial) (fun hCl' => ?_)
          simp only [Act.put, List.setIfInBounds_toArray, List.set_cons_zero, List.set_cons_succ]
          replace hCl := hCl'; clear hCl'
          refine T.qSkip (i := 19) (d := (some 172)) rfl rfl (by kernel_rfl) (by decide) hCl (by kernel_rfl) (by kernel_rfl) (by kernel_rfl) (by rfl) (fun _ _ _ => trivial) (fun hCl' => ?_)
          simp only [Act.put, List.setIfInBounds_toArray, List.set_cons_zero, List.set_cons_succ]
          replace hCl := hCl'; clear hCl'
          refine T.qSkip (i := 22) (d := (some 175)) rfl rfl (by kernel_rfl) (by decide) hCl (by kernel_rfl) (by kernel_rfl) (by kernel_rfl) (by rfl) (fun _ _ _ => trivial) (fun hCl' => ?_)
          simp only [Act.put, List.setIfInBounds_toArray, List.set_cons_zero, List.set_cons_succ]
          replace hCl := hCl'; clear hCl'
          refine T.qSkip (i := 25) (d := (some 178)) rfl rfl (by kernel_rfl) (by decide) hCl (by kernel_rfl) (by kernel_rfl) (by kernel_rfl) (by rfl) (fun _ _ _ => trivial) (fun hCl' => ?_)
          simp only [Act.put, List.setIfInBounds_toArray, List.set_cons_zero, List.set_cons_succ]
          replace hCl := hCl'; clear hCl'
          refine T.qSkip (i := 20) (d := (some 173)) rfl rfl (by kernel_rfl) (by decide) hCl (by kernel_rfl) (by kernel_rfl) (by kernel_rfl) (by rfl) (fun _ _ _ => trivial) (fun hCl' => ?_)
          simp only [Act.put, List.setIfInBounds_toArray, List.set_cons_zero, List.set_cons_succ]
          replace hCl := hCl'; clear hCl'
          refine T.qSkip (i := 26) (d := (some 179)) rfl rfl (by kernel_rfl) (by decide) hCl (by kernel_rfl) (by kernel_rfl) (by kernel_rfl) (by rfl) (fun _ _ _ => trivial) (fun hCl' => ?_)
          simp only [Act.put, List.setIfInBounds_toArray, List.set_cons_zero, List.set_cons_succ]
          replace hCl := hCl'; clear hCl'
          refine T.qSkip (i := 21) (d := (some 174)) rfl rfl (by kernel_rfl) (by decide) hCl (by kernel_rfl) (by kernel_rfl) (by kernel_rfl) (by rfl) (fun _ _ _ => trivial) (fun hCl' => ?_)
          simp only [Act.put, List.setIfInBounds_toArray, List.set_cons_zero, List.set_cons_succ]
          replace hCl := hCl'; clear hCl'
          refine T.qSkip (i := 23) (d := (some 176)) rfl rfl (by kernel_rfl) (by decide) hCl (by kernel_rfl) (by kernel_rfl) (by kernel_rfl) (by rfl) (fun _ _ _ => trivial) (fun hCl' => ?_)
          simp only [Act.put, List.setIfInBounds_toArray, List.set_cons_zero, List.set_cons_succ]
          replace hCl := hCl'; clear hCl'
          refine T.qSkip (i := 24) (d := (some 177)) rfl rfl (by kernel_rfl) (by decide) hCl (by kernel_rfl) (by kernel_rfl) (by kernel_rfl) (by rfl) (fun _ _ _ => trivial) (fun hCl' => ?_)
          simp only [Act.put, List.setIfInBounds_toArray, List.set_cons_zero, List.set_cons_succ]
          replace hCl := hCl'; clear hCl'
          refine T.qSkip (i := 27) (d := (some 180)) rfl rfl (by kernel_rfl) (by decide) hCl (by kernel_rfl) (by kernel_rfl) (by kernel_rfl) (by rfl) (fun _ _ _ => trivial) (fun hCl' => ?_)
          simp only [Act.put, List.setIfInBounds_toArray, List.set_cons_zero, List.set_cons_succ]
          replace hCl := hCl'; clear hCl'
          refine T.qTake (i := 28) (d := (some 181)) (v := ?v132) rfl rfl (by kernel_rfl) (by decide) hCl (by kernel_rfl) (by kernel_rfl) (by kernel_rfl) (by rfl) ?hy132 (fun _ _ _ => trivial) (fun hCl' => ?_)
          case hy132 => (intro w hSw; refine T.qVal ?_ hSw; (have fF106 := F106.out w hSw; have fF107 := F107.out w hSw; have fF108 := F108.out w hSw; obtain ⟨z1, z2, z3, z4⟩ := HX.out w (Ux.trans hSw)); (try dsimp only [List.getElem_toArray, List.getElem_cons_succ, List.getElem_cons_zero]); go_simp; try with_reducible rfl)
          simp only [Act.put, List.setIfInBounds_toArray, List.set_cons_zero, List.set_cons_succ]
          replace hCl := hCl'; clear hCl'
          refine T.tail_intro (by kernel_rfl) (fun Y105 hY105 => ?_)
          replace U := U.trans hY105
          replace kC := hY105.blk kC
          replace ks := hY105.blk ks
          replace kt := hY105.blk kt
          replace Ux := Ux.trans hY105
          clear F106 F107 F108 hY105
          refine lastG (i := 29) (by kernel_rfl) rfl (by rfl) (by decide) (fun K hK => ?_)
          go_simp
          refine hK.out _ _ ?_
          clear hK K
          refine doneG (by kernel_rfl) ?_ _
          refine S.nrm_intro ?_
          go_wp2_with fail
          go_roundw
          case rel => exact ⟨1, .inr (.inl rfl), by go_num, U, kC, ks, kt⟩
          case measure => (simp [intOf])
        · skip
          go_wp2_with fail
          refine (HC.out true _ U).mono ?_
          rintro e x ⟨⟨v, rows, d, rfl, hR, hT, hd, hval⟩, u⟩
          replace U := U.trans u
          replace kC := u.blk kC
          replace ks := u.blk ks
          replace kt := u.blk kt
          clear u
          obtain ⟨p1, p2⟩ := HV.out d true hval
          have his := hR.is
          rw [hT.len] at his
          obtain ⟨av, cv, rfl, c1, c2, hm⟩ := his
          obtain ⟨g1, o1, rfl, gl, hx⟩ := hm (by omega)
          obtain ⟨rk, ck, Ik⟩ := hx k (by omega)
          obtain ⟨ri, ci, Ii⟩ := hx i (by omega)
          have hisk := Ik.is
          have hisi := Ii.is
          rw [hT.rowk bk'] at hisk
          rw [hT.rowk bi'] at hisi
          obtain ⟨ak1, ck1, rfl, _, _, hmk⟩ := hisk
          obtain ⟨ai1, ci1, rfl, _, _, hmi⟩ := hisi
          obtain ⟨gk, ok, rfl, gkl, hk1⟩ := hmk (by omega)
          obtain ⟨gi, oi, rfl, gil, hi1⟩ := hmi (by omega)
          have ek := hk1 h (by omega)
          have ei := hi1 g (by omega)
          rw [hT.val k h bk' (by omega), p1] at ek
          rw [hT.val i g bi' (by omega)] at ei
          have HX := Lib.hid (fun w (u : Up x w) => And.intro ((u.facts.1 g1 _ gl).trans ck) (And.intro ((u.facts.1 g1 _ gl).trans ci) (And.intro ((u.facts.1 gk _ gkl).trans ek) ((u.facts.1 gi _ gil).trans ei))))
          have HIT := Lib.hid (HT.out rows d hT hd _ U _ _ _ hR)
          simp only [if_true] at HX
          generalize d ((i : Int), (g : Int)) = dv at *
          have HP2 := Lib.hid p2
          clear hx hmk hmi hk1 hi1 hm ck ci ek ei Ik Ii hR hT hd hval p1 p2 c1 c2
          go_wp2_with fail
          refine HIT.out.mono ?_
          rintro e x2 ⟨rfl, u⟩
          replace U := U.trans u
          replace kC := u.blk kC
          replace ks := u.blk ks
          replace kt := u.blk kt
          have Ux := u
          clear u HIT
          go_wp2_with fail
          have F202 := Lib.hid (fun w (u : Up x2 w) => cellB (u.blk kC))
          have F203 := Lib.hid (fun w (u : Up x2 w) => cellB (u.blk ks))
          have F204 := Lib.hid (fun w (u : Up x2 w) => cellB (u.blk kt))
          refine (wpIn_wide (n := 5)).1 ?_
          refine wpIn_nrm ?_
          refine T.regionQ (fun w' => Up x2 w') 51 1 hmx (by kernel_rfl) (by kernel_rfl) ((Up.refl x2).drew) (fun hCl => ?_)
          refine T.qTake (i := 0) (d := (some 101)) (v := ?v133) rfl rfl (by kernel_rfl) (by decide) hCl (by kernel_rfl) (by kernel_rfl) (by kernel_rfl) (by rfl) ?hy133 (fun _ _ _ => trivial) (fun hCl' => ?_)
          case hy133 => (intro w hSw; refine T.qVal ?_ hSw; (have fF202 := F202.out w hSw; have fF203 := F203.out w hSw; have fF204 := F204.out w hSw; obtain ⟨z1, z2, z3, z4⟩ := HX.out w (Ux.trans hSw)); (try dsimp only [List.getElem_toArray, List.getElem_cons_succ, List.getElem_cons_zero]); go_simp; try with_reducible rfl)
          simp only [Act.put, List.setIfInBounds_toArray, List.set_cons_zero, List.set_cons_succ]
          replace hCl := hCl'; clear hCl'
          refine T.qTake (i := 1) (d := (some 102)) (v := ?v134) rfl rfl (by kernel_rfl) (by decide) hCl (by kernel_rfl) (by kernel_rfl) (by kernel_rfl) (by rfl) ?hy134 (fun _ _ _ => trivial) (fun hCl' => ?_)
          case hy134 => (intro w hSw; refine T.qVal ?_ hSw; (have fF202 := F202.out w hSw; have fF203 := F203.out w hSw; have fF204 := F204.out w hSw; obtain ⟨z1, z2, z3, z4⟩ := HX.out w (Ux.trans hSw)); (try dsimp only [List.getElem_toArray, List.getElem_cons_succ, List.getElem_cons_zero]); go_simp; try with_reducible rfl)
          simp only [Act.put, List.setIfInBounds_toArray, List.set_cons_zero, List.set_cons_succ]
          replace hCl := hCl'; clear hCl'
          refine T.qTake (i := 2) (d := (some 103)) (v := ?v135) rfl rfl (by kernel_rfl) (by decide) hCl (by kernel_rfl) (by kernel_rfl) (by kernel_rfl) (by rfl) ?hy135 (fun _ _ _ => trivial) (fun hCl' => ?_)
          case hy135 => (intro w hSw; refine T.qVal ?_ hSw; (have fF202 := F202.out w hSw; have fF203 := F203.out w hSw; have fF204 := F204.out w hSw; obtain ⟨z1, z2, z3, z4⟩ := HX.out w (Ux.trans hSw)); (try dsimp only [List.getElem_toArray, List.getElem_cons_succ, List.getElem_cons_zero]); go_simp; try with_reducible rfl)
          simp only [Act.put, List.setIfInBounds_toArray, List.set_cons_zero, List.set_cons_succ]
          replace hCl := hCl'; clear hCl'
          refine T.qTake (i := 3) (d := (some 104)) (v := ?v136) rfl rfl (by kernel_rfl) (by decide) hCl (by kernel_rfl) (by kernel_rfl) (by kernel_rfl) (by rfl) ?hy136 (fun _ _ _ => trivial) (fun hCl' => ?_)
          case hy136 => (intro w hSw; refine T.qVal ?_ hSw; (have fF202 := F202.out w hSw; have fF203 := F203.out w hSw; have fF204 := F204.out w hSw; obtain ⟨z1, z2, z3, z4⟩ := HX.out w (Ux.trans hSw)); (try dsimp only [List.getElem_toArray, List.getElem_cons_succ, List.getElem_cons_zero]); go_simp; try with_reducible rfl)
          simp only [Act.put, List.setIfInBounds_toArray, List.set_cons_zero, List.set_cons_succ]
          replace hCl := hCl'; clear hCl'
          refine T.qTake (i := 4) (d := (some 105)) (v := ?v137) rfl rfl (by kernel_rfl) (by decide) hCl (by kernel_rfl) (by kernel_rfl) (by kernel_rfl) (by rfl) ?hy137 (fun _ _ _ => trivial) (fun hCl' => ?_)
          case hy137 => (intro w hSw; refine T.qVal ?_ hSw; (have fF202 := F202.out w hSw; have fF203 := F203.out w hSw; have fF204 := F204.out w hSw; obtain ⟨z1, z2, z3, z4⟩ := HX.out w (Ux.trans hSw)); (try dsimp only [List.getElem_toArray, List.getElem_cons_succ, List.getElem_cons_zero]); go_simp; try with_reducible rfl)
          simp only [Act.put, List.setIfInBounds_toArray, List.set_cons_zero, List.set_cons_succ]
          replace hCl := hCl'; clear hCl'
          refine T.qTake (i := 5) (d := (some 106)) (v := ?v138) rfl rfl (by kernel_rfl) (by decide) hCl (by kernel_rfl) (by kernel_rfl) (by kernel_rfl) (by rfl) ?hy138 (fun _ _ _ => trivial) (fun hCl' => ?_)
          case hy138 => (intro w hSw; refine T.qVal ?_ hSw; (have fF202 := F202.out w hSw; have fF203 := F203.out w hSw; have fF204 := F204.out w hSw; obtain ⟨z1, z2, z3, z4⟩ := HX.out w (Ux.trans hSw)); (try dsimp only [List.getElem_toArray, List.getElem_cons_succ, List.getElem_cons_zero]); go_simp; try with_reducible rfl)
          simp only [Act.put, List.setIfInBounds_toArray, List.set_cons_zero, List.set_cons_succ]
          replace hCl := hCl'; clear hCl'
          refine T.qTake (i := 6) (d := (some 107)) (v := ?v139) rfl rfl (by kernel_rfl) (by decide) hCl (by kernel_rfl) (by kernel_rfl) (by kernel_rfl) (by rfl) ?hy139 (fun _ _ _ => trivial) (fun hCl' => ?_)
          case hy139 => (intro w hSw; refine T.qVal ?_ hSw; (have fF202 := F202.out w hSw; have fF203 := F203.out w hSw; have fF204 := F204.out w hSw; obtain ⟨z1, z2, z3, z4⟩ := HX.out w (Ux.trans hSw)); (try dsimp only [List.getElem_toArray, List.getElem_cons_succ, List.getElem_cons_zero]); go_simp; try with_reducible rfl)
          simp only [Act.put, List.setIfInBounds_toArray, List.set_cons_zero, List.set_cons_succ]
          replace hCl := hCl'; clear hCl'
          refine T.qTake (i := 7) (d := (some 108)) (v := ?v140) rfl rfl (by kernel_rfl) (by decide) hCl (by kernel_rfl) (by kernel_rfl) (by kernel_rfl) (by rfl) ?hy140 (fun _ _ _ => trivial) (fun hCl' => ?_)
          case hy140 => (intro w hSw; refine T.qVal ?_ hSw; (have fF202 := F202.out w hSw; have fF203 := F203.out w hSw; have fF204 := F204.out w hSw; obtain ⟨z1, z2, z3, z4⟩ := HX.out w (Ux.trans hSw)); (try dsimp only [List.getElem_toArray, List.getElem_cons_succ, List.getElem_cons_zero]); go_simp; try with_reducible rfl)
          simp only [Act.put, List.setIfInBounds_toArray, List.set_cons_zero, List.set_cons_succ]
          replace hCl := hCl'; clear hCl'
          refine T.qTake (i := 8) (d := (some 109)) (v := ?v141) rfl rfl (by kernel_rfl) (by decide) hCl (by kernel_rfl) (by kernel_rfl) (by kernel_rfl) (by rfl) ?hy141 (fun _ _ _ => trivial) (fun hCl' => ?_)
          case hy141 => (intro w hSw; refine T.qVal ?_ hSw; (have fF202 := F202.out w hSw; have fF203 := F203.out w hSw; have fF204 := F204.out w hSw; obtain ⟨z1, z2, z3, z4⟩ := HX.out w (Ux.trans hSw)); (try dsimp only [List.getElem_toArray, List.getElem_cons_succ, List.getElem_cons_zero]); go_simp; try with_reducible rfl)
          simp only [Act.put, List.setIfInBounds_toArray, List.set_cons_zero, List.set_cons_succ]
          replace hCl := hCl'; clear hCl'
          refine T.qTake (i := 9) (d := (some 110)) (v := ?v142) rfl rfl (by kernel_rfl) (by decide) hCl (by kernel_rfl) (by kernel_rfl) (by kernel_rfl) (by rfl) ?hy142 (fun _ _ _ => trivial) (fun hCl' => ?_)
          case hy142 => (intro w hSw; refine T.qVal ?_ hSw; (have fF202 := F202.out w hSw; have fF203 := F203.out w hSw; have fF204 := F204.out w hSw; obtain ⟨z1, z2, z3, z4⟩ := HX.out w (Ux.trans hSw)); (try dsimp only [List.getElem_toArray, List.getElem_cons_succ, List.getElem_cons_zero]); go_simp; try with_reducible rfl)
          simp only [Act.put, List.setIfInBounds_toArray, List.set_cons_zero, List.set_cons_succ]
          replace hCl := hCl'; clear hCl'
          refine T.qTake (i := 10) (d := (some 111)) (v := ?v143) rfl rfl (by kernel_rfl) (by decide) hCl (by kernel_rfl) (by kernel_rfl) (by kernel_rfl) (by rfl) ?hy143 (fun _ _ _ => trivial) (fun hCl' => ?_)
          case hy143 => (intro w hSw; refine T.qVal ?_ hSw; (have fF202 := F202.out w hSw; have fF203 := F203.out w hSw; have fF204 := F204.out w hSw; obtain ⟨z1, z2, z3, z4⟩ := HX.out w (Ux.trans hSw)); (try dsimp only [List.getElem_toArray, List.getElem_cons_succ, List.getElem_cons_zero]); go_simp; try with_reducible rfl)
          simp only [Act.put, List.setIfInBounds_toArray, List.set_cons_zero, List.set_cons_succ]
          replace hCl := hCl'; clear hCl'
          refine T.qTake (i := 11) (d := (some 112)) (v := ?v144) rfl rfl (by kernel_rfl) (by decide) hCl (by kernel_rfl) (by kernel_rfl) (by kernel_rfl) (by rfl) ?hy144 (fun _ _ _ => trivial) (fun hCl' => ?_)
          case hy144 => (intro w hSw; refine T.qVal ?_ hSw; (have fF202 := F202.out w hSw; have fF203 := F203.out w hSw; have fF204 := F204.out w hSw; obtain ⟨z1, z2, z3, z4⟩ := HX.out w (Ux.trans hSw)); (try dsimp only [List.getElem_toArray, List.getElem_cons_succ, List.getElem_cons_zero]); go_simp; try with_reducible rfl)
          simp only [Act.put, List.setIfInBounds_toArray, List.set_cons_zero, List.set_cons_succ]
          replace hCl := hCl'; clear hCl'
          refine T.qTake (i := 13) (d := (some 114)) (v := ?v145) rfl rfl (by kernel_rfl) (by decide) hCl (by kernel_rfl) (by kernel_rfl) (by kernel_rfl) (by rfl) ?hy145 (fun _ _ _ => trivial) (fun hCl' => ?_)
          case hy145 => (intro w hSw; refine T.qVal ?_ hSw; (have fF202 := F202.out w hSw; have fF203 := F203.out w hSw; have fF204 := F204.out w hSw; obtain ⟨z1, z2, z3, z4⟩ := HX.out w (Ux.trans hSw)); (try dsimp only [List.getElem_toArray, List.getElem_cons_succ, List.getElem_cons_zero]); go_simp; try with_reducible rfl)
          simp only [Act.put, List.setIfInBounds_toArray, List.set_cons_zero, List.set_cons_succ]
          replace hCl := hCl'; clear hCl'
          refine T.qTake (i := 12) (d := (some 113)) (v := ?v146) rfl rfl (by kernel_rfl) (by decide) hCl (by kernel_rfl) (by kernel_rfl) (by kernel_rfl) (by rfl) ?hy146 (fun _ _ _ => trivial) (fun hCl' => ?_)
          case hy146 => (intro w hSw; refine T.qVal ?_ hSw; (have fF202 := F202.out w hSw; have fF203 := F203.out w hSw; have fF204 := F204.out w hSw; obtain ⟨z1, z2, z3, z4⟩ := HX.out w (Ux.trans hSw)); (try dsimp only [List.getElem_toArray, List.getElem_cons_succ, List.getElem_cons_zero]); go_simp; try with_reducible rfl)
          simp only [Act.put, List.setIfInBounds_toArray, List.set_cons_zero, List.set_cons_succ]
          replace hCl := hCl'; clear hCl'
          refine T.qTake (i := 14) (d := (some 115)) (v := ?v147) rfl rfl (by kernel_rfl) (by decide) hCl (by kernel_rfl) (by kernel_rfl) (by kernel_rfl) (by rfl) ?hy147 (fun _ _ _ => trivial) (fun hCl' => ?_)
          case hy147 => (intro w hSw; refine T.qVal ?_ hSw; (have fF202 := F202.out w hSw; have fF203 := F203.out w hSw; have fF204 := F204.out w hSw; obtain ⟨z1, z2, z3, z4⟩ := HX.out w (Ux.trans hSw)); (try dsimp only [List.getElem_toArray, List.getElem_cons_succ, List.getElem_cons_zero]); go_simp; try with_reducible rfl)
          simp only [Act.put, List.setIfInBounds_toArray, List.set_cons_zero, List.set_cons_succ]
          replace hCl := hCl'; clear hCl'
          refine T.qTake (i := 15) (d := (some 116)) (v := ?v148) rfl rfl (by kernel_rfl) (by decide) hCl (by kernel_rfl) (by kernel_rfl) (by kernel_rfl) (by rfl) ?hy148 (fun _ _ _ => trivial) (fun hCl' => ?_)
          case hy148 => (intro w hSw; refine T.qVal ?_ hSw; (have fF202 := F202.out w hSw; have fF203 := F203.out w hSw; have fF204 := F204.out w hSw; obtain ⟨z1, z2, z3, z4⟩ := HX.out w (Ux.trans hSw)); (try dsimp only [List.getElem_toArray, List.getElem_cons_succ, List.getElem_cons_zero]); go_simp; try with_reducible rfl)
          simp only [Act.put, List.setIfInBounds_toArray, List.set_cons_zero, List.set_cons_succ]
          replace hCl := hCl'; clear hCl'
          refine T.qTake (i := 16) (d := (some 117)) (v := ?v149) rfl rfl (by kernel_rfl) (by decide) hCl (by kernel_rfl) (by kernel_rfl) (by kernel_rfl) (by rfl) ?hy149 (fun _ _ _ => trivial) (fun hCl' => ?_)
          case hy149 => (intro w hSw; refine T.qVal ?_ hSw; (have fF202 := F202.out w hSw; have fF203 := F203.out w hSw; have fF204 := F204.out w hSw; obtain ⟨z1, z2, z3, z4⟩ := HX.out w (Ux.trans hSw)); (try dsimp only [List.getElem_toArray, List.getElem_cons_succ, List.getElem_cons_zero]); go_simp; try with_reducible rfl)
          simp only [Act.put, List.setIfInBounds_toArray, List.set_cons_zero, List.set_cons_succ]
          replace hCl := hCl'; clear hCl'
          refine T.qTake (i := 17) (d := (some 118)) (v := ?v150) rfl rfl (by kernel_rfl) (by decide) hCl (by kernel_rfl) (by kernel_rfl) (by kernel_rfl) (by rfl) ?hy150 (fun _ _ _ => trivial) (fun hCl' => ?_)
          case hy150 => (intro w hSw; refine T.qVal ?_ hSw; (have fF202 := F202.out w hSw; have fF203 := F203.out w hSw; have fF204 := F204.out w hSw; obtain ⟨z1, z2, z3, z4⟩ := HX.out w (Ux.trans hSw)); (try dsimp only [List.getElem_toArray, List.getElem_cons_succ, List.getElem_cons_zero]); go_simp; try with_reducible rfl)
          simp only [Act.put, List.setIfInBounds_toArray, List.set_cons_zero, List.set_cons_succ]
          replace hCl := hCl'; clear hCl'
          refine T.qTake (i := 18) (d := (some 119)) (v := ?v151) rfl rfl (by kernel_rfl) (by decide) hCl (by kernel_rfl) (by kernel_rfl) (by kernel_rfl) (by rfl) ?hy151 (fun _ _ _ => trivial) (fun hCl' => ?_)
          case hy151 => (intro w hSw; refine T.qVal ?_ hSw; (have fF202 := F202.out w hSw; have fF203 := F203.out w hSw; have fF204 := F204.out w hSw; obtain ⟨z1, z2, z3, z4⟩ := HX.out w (Ux.trans hSw)); (try dsimp only [List.getElem_toArray, List.getElem_cons_succ, List.getElem_cons_zero]); go_simp; try with_reducible rfl)
          simp only [Act.put, List.setIfInBounds_toArray, List.set_cons_zero, List.set_cons_succ]
          replace hCl := hCl'; clear hCl'
          refine T.qTake (i := 19) (d := (some 120)) (v := ?v152) rfl rfl (by kernel_rfl) (by decide) hCl (by kernel_rfl) (by kernel_rfl) (by kernel_rfl) (by rfl) ?hy152 (fun _ _ _ => trivial) (fun hCl' => ?_)
          case hy152 => (intro w hSw; refine T.qVal ?_ hSw; (have fF202 := F202.out w hSw; have fF203 := F203.out w hSw; have fF204 := F204.out w hSw; obtain ⟨z1, z2, z3, z4⟩ := HX.out w (Ux.trans hSw)); (try dsimp only [List.getElem_toArray, List.getElem_cons_succ, List.getElem_cons_zero]); go_simp; try with_reducible rfl)
          simp only [Act.put, List.setIfInBounds_toArray, List.set_cons_zero, List.set_cons_succ]
          replace hCl := hCl'; clear hCl'
          refine T.qTake (i := 20) (d := (some 121)) (v := ?v153) rfl rfl (by kernel_rfl) (by decide) hCl (by kernel_rfl) (by kernel_rfl) (by kernel_rfl) (by rfl) ?hy153 (fun _ _ _ => trivial) (fun hCl' => ?_)
          case hy153 => (intro w hSw; refine T.qVal ?_ hSw; (have fF202 := F202.out w hSw; have fF203 := F203.out w hSw; have fF204 := F204.out w hSw; obtain ⟨z1, z2, z3, z4⟩ := HX.out w (Ux.trans hSw)); (try dsimp only [List.getElem_toArray, List.getElem_cons_succ, List.getElem_cons_zero]); go_simp; try with_reducible rfl)
          simp only [Act.put, List.setIfInBounds_toArray, List.set_cons_zero, List.set_cons_succ]
          replace hCl := hCl'; clear hCl'
          refine T.qTake (i := 24) (d := (some 125)) (v := ?v154) rfl rfl (by kernel_rfl) (by decide) hCl (by kernel_rfl) (by kernel_rfl) (by kernel_rfl) (by rfl) ?hy154 (fun _ _ _ => trivial) (fun hCl' => ?_)
          case hy154 => (intro w hSw; refine T.qVal ?_ hSw; (have fF202 := F202.out w hSw; have fF203 := F203.out w hSw; have fF204 := F204.out w hSw; obtain ⟨z1, z2, z3, z4⟩ := HX.out w (Ux.trans hSw)); (try dsimp only [List.getElem_toArray, List.getElem_cons_succ, List.getElem_cons_zero]); go_simp; try with_reducible rfl)
          simp only [Act.put, List.setIfInBounds_toArray, List.set_cons_zero, List.set_cons_succ]
          replace hCl := hCl'; clear hCl'
          refine T.qTake (i := 21) (d := (some 122)) (v := ?v155) rfl rfl (by kernel_rfl) (by decide) hCl (by kernel_rfl) (by kernel_rfl) (by kernel_rfl) (by rfl) ?hy155 (fun _ _ _ => trivial) (fun hCl' => ?_)
          case hy155 => (intro w hSw; refine T.qVal ?_ hSw; (have fF202 := F202.out w hSw; have fF203 := F203.out w hSw; have fF204 := F204.out w hSw; obtain ⟨z1, z2, z3, z4⟩ := HX.out w (Ux.trans hSw)); (try dsimp only [List.getElem_toArray, List.getElem_cons_succ, List.getElem_cons_zero]); go_simp; try with_reducible rfl)
          simp only [Act.put, List.setIfInBounds_toArray, List.set_cons_zero, List.set_cons_succ]
          replace hCl := hCl'; clear hCl'
          refine T.qTake (i := 25) (d := (some 126)) (v := ?v156) rfl rfl (by kernel_rfl) (by decide) hCl (by kernel_rfl) (by kernel_rfl) (by kernel_rfl) (by rfl) ?hy156 (fun _ _ _ => trivial) (fun hCl' => ?_)
          case hy156 => (intro w hSw; refine T.qVal ?_ hSw; (have fF202 := F202.out w hSw; have fF203 := F203.out w hSw; have fF204 := F204.out w hSw; obtain ⟨z1, z2, z3, z4⟩ := HX.out w (Ux.trans hSw)); (try dsimp only [List.getElem_toArray, List.getElem_cons_succ, List.getElem_cons_zero]); go_simp; try with_reducible rfl)
          simp only [Act.put, List.setIfInBounds_toArray, List.set_cons_zero, List.set_cons_succ]
          replace hCl := hCl'; clear hCl'
          refine T.qTake (i := 22) (d := (some 123)) (v := ?v157) rfl rfl (by kernel_rfl) (by decide) hCl (by kernel_rfl) (by kernel_rfl) (by kernel_rfl) (by rfl) ?hy157 (fun _ _ _ => trivial) (fun hCl' => ?_)
          case hy157 => (intro w hSw; refine T.qVal ?_ hSw; (have fF202 := F202.out w hSw; have fF203 := F203.out w hSw; have fF204 := F204.out w hSw; obtain ⟨z1, z2, z3, z4⟩ := HX.out w (Ux.trans hSw)); (try dsimp only [List.getElem_toArray, List.getElem_cons_succ, List.getElem_cons_zero]); go_simp; try with_reducible rfl)
          simp only [Act.put, List.setIfInBounds_toArray, List.set_cons_zero, List.set_cons_succ]
          replace hCl := hCl'; clear hCl'
          refine T.qTake (i := 26) (d := (some 127)) (v := ?v158) rfl rfl (by kernel_rfl) (by decide) hCl (by kernel_rfl) (by kernel_rfl) (by kernel_rfl) (by rfl) ?hy158 (fun _ _ _ => trivial) (fun hCl' => ?_)
          case hy158 => (intro w hSw; refine T.qVal ?_ hSw; (have fF202 := F202.out w hSw; have fF203 := F203.out w hSw; have fF204 := F204.out w hSw; obtain ⟨z1, z2, z3, z4⟩ := HX.out w (Ux.trans hSw)); (try dsimp only [List.getElem_toArray, List.getElem_cons_succ, List.getElem_cons_zero]); go_simp; try with_reducible rfl)
          simp only [Act.put, List.setIfInBounds_toArray, List.set_cons_zero, List.set_cons_succ]
          replace hCl := hCl'; clear hCl'
          refine T.qTake (i := 23) (d := (some 124)) (v := ?v159) rfl rfl (by kernel_rfl) (by decide) hCl (by kernel_rfl) (by kernel_rfl) (by kernel_rfl) (by rfl) ?hy159 (fun _ _ _ => trivial) (fun hCl' => ?_)
          case hy159 => (intro w hSw; refine T.qVal ?_ hSw; (have fF202 := F202.out w hSw; have fF203 := F203.out w hSw; have fF204 := F204.out w hSw; obtain ⟨z1, z2, z3, z4⟩ := HX.out w (Ux.trans hSw)); (try dsimp only [List.getElem_toArray, List.getElem_cons_succ, List.getElem_cons_zero]); go_simp; try with_reducible rfl)
          simp only [Act.put, List.setIfInBounds_toArray, List.set_cons_zero, List.set_cons_succ]
          replace hCl := hCl'; clear hCl'
          refine T.qTake (i := 27) (d := (some 128)) (v := ?v160) rfl rfl (by kernel_rfl) (by decide) hCl (by kernel_rfl) (by kernel_rfl) (by kernel_rfl) (by rfl) ?hy160 (fun _ _ _ => trivial) (fun hCl' => ?_)
          case hy160 => (intro w hSw; refine T.qVal ?_ hSw; (have fF202 := F202.out w hSw; have fF203 := F203.out w hSw; have fF204 := F204.out w hSw; obtain ⟨z1, z2, z3, z4⟩ := HX.out w (Ux.trans hSw)); (try dsimp only [List.getElem_toArray, List.getElem_cons_succ, List.getElem_cons_zero]); go_simp; try with_reducible rfl)
          simp only [Act.put, List.setIfInBounds_toArray, List.set_cons_zero, List.set_cons_succ]
          replace hCl := hCl'; clear hCl'
          refine T.qTake (i := 28) (d := (some 129)) (v := ?v161) rfl rfl (by kernel_rfl) (by decide) hCl (by kernel_rfl) (by kernel_rfl) (by kernel_rfl) (by rfl) ?hy161 (fun _ _ _ => trivial) (fun hCl' => ?_)
          case hy161 => (intro w hSw; refine T.qVal ?_ hSw; (have fF202 := F202.out w hSw; have fF203 := F203.out w hSw; have fF204 := F204.out w hSw; obtain ⟨z1, z2, z3, z4⟩ := HX.out w (Ux.trans hSw)); (try dsimp only [List.getElem_toArray, List.getElem_cons_succ, List.getElem_cons_zero]); go_simp; try with_reducible rfl)
          simp only [Act.put, List.setIfInBounds_toArray, List.set_cons_zero, List.set_cons_succ]
          replace hCl := hCl'; clear hCl'
          refine T.qTake (i := 29) (d := (some 130)) (v := ?v162) rfl rfl (by kernel_rfl) (by decide) hCl (by kernel_rfl) (by kernel_rfl) (by kernel_rfl) (by rfl) ?hy162 (fun _ _ _ => trivial) (fun hCl' => ?_)
          case hy162 => (intro w hSw; refine T.qVal ?_ hSw; (have fF202 := F202.out w hSw; have fF203 := F203.out w hSw; have fF204 := F204.out w hSw; obtain ⟨z1, z2, z3, z4⟩ := HX.out w (Ux.trans hSw)); (try dsimp only [List.getElem_toArray, List.getElem_cons_succ, List.getElem_cons_zero]); go_simp; try with_reducible rfl)
          simp only [Act.put, List.setIfInBounds_toArray, List.set_cons_zero, List.set_cons_succ]
          replace hCl := hCl'; clear hCl'
          refine T.qTake (i := 30) (d := (some 131)) (v := ?v163) rfl rfl (by kernel_rfl) (by decide) hCl (by kernel_rfl) (by kernel_rfl) (by kernel_rfl) (by rfl) ?hy163 (fun _ _ _ => trivial) (fun hCl' => ?_)
          case hy163 => (intro w hSw; refine T.qVal ?_ hSw; (have fF202 := F202.out w hSw; have fF203 := F203.out w hSw; have fF204 := F204.out w hSw; obtain ⟨z1, z2, z3, z4⟩ := HX.out w (Ux.trans hSw)); (try dsimp only [List.getElem_toArray, List.getElem_cons_succ, List.getElem_cons_zero]); go_simp; try with_reducible rfl)
          simp only [Act.put, List.setIfInBounds_toArray, List.set_cons_zero, List.set_cons_succ]
          replace hCl := hCl'; clear hCl'
          refine T.qTake (i := 31) (d := (some 132)) (v := ?v164) rfl rfl (by kernel_rfl) (by decide) hCl (by kernel_rfl) (by kernel_rfl) (by kernel_rfl) (by rfl) ?hy164 (fun _ _ _ => trivial) (fun hCl' => ?_)
          case hy164 => (intro w hSw; refine T.qVal ?_ hSw; (have fF202 := F202.out w hSw; have fF203 := F203.out w hSw; have fF204 := F204.out w hSw; obtain ⟨z1, z2, z3, z4⟩ := HX.out w (Ux.trans hSw)); (try dsimp only [List.getElem_toArray, List.getElem_cons_succ, List.getElem_cons_zero]); go_simp; try with_reducible rfl)
          simp only [Act.put, List.setIfInBounds_toArray, List.set_cons_zero, List.set_cons_succ]
          replace hCl := hCl'; clear hCl'
          refine T.qTake (i := 35) (d := (some 136)) (v := ?v165) rfl rfl (by kernel_rfl) (by decide) hCl (by kernel_rfl) (by kernel_rfl) (by kernel_rfl) (by rfl) ?hy165 (fun _ _ _ => trivial) (fun hCl' => ?_)
          case hy165 => (intro w hSw; refine T.qVal ?_ hSw; (have fF202 := F202.out w hSw; have fF203 := F203.out w hSw; have fF204 := F204.out w hSw; obtain ⟨z1, z2, z3, z4⟩ := HX.out w (Ux.trans hSw)); (try dsimp only [List.getElem_toArray, List.getElem_cons_succ, List.getElem_cons_zero]); go_simp; try with_reducible rfl)
          simp only [Act.put, List.setIfInBounds_toArray, List.set_cons_zero, List.set_cons_succ]
          replace hCl := hCl'; clear hCl'
          refine T.qTake (i := 32) (d := (some 133)) (v := ?v166) rfl rfl (by kernel_rfl) (by decide) hCl (by kernel_rfl) (by kernel_rfl) (by kernel_rfl) (by rfl) ?hy166 (fun _ _ _ => trivial) (fun hCl' => ?_)
          case hy166 => (intro w hSw; refine T.qVal ?_ hSw; (have fF202 := F202.out w hSw; have fF203 := F203.out w hSw; have fF204 := F204.out w hSw; obtain ⟨z1, z2, z3, z4⟩ := HX.out w (Ux.trans hSw)); (try dsimp only [List.getElem_toArray, List.getElem_cons_succ, List.getElem_cons_zero]); go_simp; try with_reducible rfl)
          simp only [Act.put, List.setIfInBounds_toArray, List.set_cons_zero, List.set_cons_succ]
          replace hCl := hCl'; clear hCl'
          refine T.qTake (i := 36) (d := (some 137)) (v := ?v167) rfl rfl (by kernel_rfl) (by decide) hCl (by kernel_rfl) (by kernel_rfl) (by kernel_rfl) (by rfl) ?hy167 (fun _ _ _ => trivial) (fun hCl' => ?_)
          case hy167 => (intro w hSw; refine T.qVal ?_ hSw; (have fF202 := F202.out w hSw; have fF203 := F203.out w hSw; have fF204 := F204.out w hSw; obtain ⟨z1, z2, z3, z4⟩ := HX.out w (Ux.trans hSw)); (try dsimp only [List.getElem_toArray, List.getElem_cons_succ, List.getElem_cons_zero]); go_simp; try with_reducible rfl)
          simp only [Act.put, List.setIfInBounds_toArray, List.set_cons_zero, List.set_cons_succ]
          replace hCl := hCl'; clear hCl'
          refine T.qTake (i := 33) (d := (some 134)) (v := ?v168) rfl rfl (by kernel_rfl) (by decide) hCl (by kernel_rfl) (by kernel_rfl) (by kernel_rfl) (by rfl) ?hy168 (fun _ _ _ => trivial) (fun hCl' => ?_)
          case hy168 => (intro w hSw; refine T.qVal ?_ hSw; (have fF202 := F202.out w hSw; have fF203 := F203.out w hSw; have fF204 := F204.out w hSw; obtain ⟨z1, z2, z3, z4⟩ := HX.out w (Ux.trans hSw)); (try dsimp only [List.getElem_toArray, List.getElem_cons_succ, List.getElem_cons_zero]); go_simp; try with_reducible rfl)
          simp only [Act.put, List.setIfInBounds_toArray, List.set_cons_zero, List.set_cons_succ]
          replace hCl := hCl'; clear hCl'
          refine T.qTake (i := 37) (d := (some 138)) (v := ?v169) rfl rfl (by kernel_rfl) (by decide) hCl (by kernel_rfl) (by kernel_rfl) (by kernel_rfl) (by rfl) ?hy169 (fun _ _ _ => trivial) (fun hCl' => ?_)
          case hy169 => (intro w hSw; refine T.qVal ?_ hSw; (have fF202 := F202.out w hSw; have fF203 := F203.out w hSw; have fF204 := F204.out w hSw; obtain ⟨z1, z2, z3, z4⟩ := HX.out w (Ux.trans hSw)); (try dsimp only [List.getElem_toArray, List.getElem_cons_succ, List.getElem_cons_zero]); go_simp; try with_reducible rfl)
          simp only [Act.put, List.setIfInBounds_toArray, List.set_cons_zero, List.set_cons_succ]
          replace hCl := hCl'; clear hCl'
          refine T.qTake (i := 34) (d := (some 135)) (v := ?v170) rfl rfl (by kernel_rfl) (by decide) hCl (by kernel_rfl) (by kernel_rfl) (by kernel_rfl) (by rfl) ?hy170 (fun _ _ _ => trivial) (fun hCl' => ?_)
          case hy170 => (intro w hSw; refine T.qVal ?_ hSw; (have fF202 := F202.out w hSw; have fF203 := F203.out w hSw; have fF204 := F204.out w hSw; obtain ⟨z1, z2, z3, z4⟩ := HX.out w (Ux.trans hSw)); (try dsimp only [List.getElem_toArray, List.getElem_cons_succ, List.getElem_cons_zero]); go_simp; try with_reducible rfl)
          simp only [Act.put, List.setIfInBounds_toArray, List.set_cons_zero, List.set_cons_succ]
          replace hCl := hCl'; clear hCl'
          refine T.qTake (i := 38) (d := (some 139)) (v := ?v171) rfl rfl (by kernel_rfl) (by decide) hCl (by kernel_rfl) (by kernel_rfl) (by kernel_rfl) (by rfl) ?hy171 (fun _ _ _ => trivial) (fun hCl' => ?_)
          case hy171 => (intro w hSw; refine T.qVal ?_ hSw; (have fF202 := F202.out w hSw; have fF203 := F203.out w hSw; have fF204 := F204.out w hSw; obtain ⟨z1, z2, z3, z4⟩ := HX.out w (Ux.trans hSw)); (try dsimp only [List.getElem_toArray, List.getElem_cons_succ, List.getElem_cons_zero]); go_simp; try with_reducible rfl)
          simp only [Act.put, List.setIfInBounds_toArray, List.set_cons_zero, List.set_cons_succ]
          replace hCl := hCl'; clear hCl'
          refine T.qTake (i := 39) (d := (some 140)) (v := ?v172) rfl rfl (by kernel_rfl) (by decide) hCl (by kernel_rfl) (by kernel_rfl) (by kernel_rfl) (by rfl) ?hy172 (fun _ _ _ => trivial) (fun hCl' => ?_)
          case hy172 => (intro w hSw; refine T.qVal ?_ hSw; (have fF202 := F202.out w hSw; have fF203 := F203.out w hSw; have fF204 := F204.out w hSw; obtain ⟨z1, z2, z3, z4⟩ := HX.out w (Ux.trans hSw)); (try dsimp only [List.getElem_toArray, List.getElem_cons_succ, List.getElem_cons_zero]); go_simp; try with_reducible rfl)
          simp only [Act.put, List.setIfInBounds_toArray, List.set_cons_zero, List.set_cons_succ]
          replace hCl := hCl'; clear hCl'
          refine T.qTake (i := 40) (d := (some 141)) (v := ?v173) rfl rfl (by kernel_rfl) (by decide) hCl (by kernel_rfl) (by kernel_rfl) (by kernel_rfl) (by rfl) ?hy173 (fun _ _ _ => trivial) (fun hCl' => ?_)
          case hy173 => (intro w hSw; refine T.qVal ?_ hSw; (have fF202 := F202.out w hSw; have fF203 := F203.out w hSw; have fF204 := F204.out w hSw; obtain ⟨z1, z2, z3, z4⟩ := HX.out w (Ux.trans hSw)); (try dsimp only [List.getElem_toArray, List.getElem_cons_succ, List.getElem_cons_zero]); go_simp; try with_reducible rfl)
          simp only [Act.put, List.setIfInBounds_toArray, List.set_cons_zero, List.set_cons_succ]
          replace hCl := hCl'; clear hCl'
          refine T.qTake (i := 41) (d := (some 142)) (v := ?v174) rfl rfl (by kernel_rfl) (by decide) hCl (by kernel_rfl) (by kernel_rfl) (by kernel_rfl) (by rfl) ?hy174 (fun _ _ _ => trivial) (fun hCl' => ?_)
          case hy174 => (intro w hSw; refine T.qVal ?_ hSw; (have fF202 := F202.out w hSw; have fF203 := F203.out w hSw; have fF204 := F204.out w hSw; obtain ⟨z1, z2, z3, z4⟩ := HX.out w (Ux.trans hSw)); (try dsimp only [List.getElem_toArray, List.getElem_cons_succ, List.getElem_cons_zero]); go_simp; try with_reducible rfl)
          simp only [Act.put, List.setIfInBounds_toArray, List.set_cons_zero, List.set_cons_succ]
          replace hCl := hCl'; clear hCl'
          refine T.qTake (i := 42) (d := (some 143)) (v := ?v175) rfl rfl (by kernel_rfl) (by decide) hCl (by kernel_rfl) (by kernel_rfl) (by kernel_rfl) (by rfl) ?hy175 (fun _ _ _ => trivial) (fun hCl' => ?_)
          case hy175 => (intro w hSw; refine T.qVal ?_ hSw; (have fF202 := F202.out w hSw; have fF203 := F203.out w hSw; have fF204 := F204.out w hSw; obtain ⟨z1, z2, z3, z4⟩ := HX.out w (Ux.trans hSw)); (try dsimp only [List.getElem_toArray, List.getElem_cons_succ, List.getElem_cons_zero]); go_simp; try with_reducible rfl)
          simp only [Act.put, List.setIfInBounds_toArray, List.set_cons_zero, List.set_cons_succ]
          replace hCl := hCl'; clear hCl'
          refine T.qTake (i := 43) (d := (some 144)) (v := ?v176) rfl rfl (by kernel_rfl) (by decide) hCl (by kernel_rfl) (by kernel_rfl) (by kernel_rfl) (by rfl) ?hy176 (fun _ _ _ => trivial) (fun hCl' => ?_)
          case hy176 => (intro w hSw; refine T.qVal ?_ hSw; (have fF202 := F202.out w hSw; have fF203 := F203.out w hSw; have fF204 := F204.out w hSw; obtain ⟨z1, z2, z3, z4⟩ := HX.out w (Ux.trans hSw)); (try dsimp only [List.getElem_toArray, List.getElem_cons_succ, List.getElem_cons_zero]); go_simp; try with_reducible rfl)
          simp only [Act.put, List.setIfInBounds_toArray, List.set_cons_zero, List.set_cons_succ]
          replace hCl := hCl'; clear hCl'
          refine T.qTake (i := 46) (d := (some 147)) (v := ?v177) rfl rfl (by kernel_rfl) (by decide) hCl (by kernel_rfl) (by kernel_rfl) (by kernel_rfl) (by rfl) ?hy177 (fun _ _ _ => trivial) (fun hCl' => ?_)
          case hy177 => (intro w hSw; refine T.qVal ?_ hSw; (have fF202 := F202.out w hSw; have fF203 := F203.out w hSw; have fF204 := F204.out w hSw; obtain ⟨z1, z2, z3, z4⟩ := HX.out w (Ux.trans hSw)); (try dsimp only [List.getElem_toArray, List.getElem_cons_succ, List.getElem_cons_zero]); go_simp; try with_reducible rfl)
          simp only [Act.put, List.setIfInBounds_toArray, List.set_cons_zero, List.set_cons_succ]
          replace hCl := hCl'; clear hCl'
          refine T.qTake (i := 44) (d := (some 145)) (v := ?v178) rfl rfl (by kernel_rfl) (by decide) hCl (by kernel_rfl) (by kernel_rfl) (by kernel_rfl) (by rfl) ?hy178 (fun _ _ _ => trivial) (fun hCl' => ?_)
          case hy178 => (intro w hSw; refine T.qVal ?_ hSw; (have fF202 := F202.out w hSw; have fF203 := F203.out w hSw; have fF204 := F204.out w hSw; obtain ⟨z1, z2, z3, z4⟩ := HX.out w (Ux.trans hSw)); (try dsimp only [List.getElem_toArray, List.getElem_cons_succ, List.getElem_cons_zero]); go_simp; try with_reducible rfl)
          simp only [Act.put, List.setIfInBounds_toArray, List.set_cons_zero, List.set_cons_succ]
          replace hCl := hCl'; clear hCl'
          refine T.qTake (i := 45) (d := (some 146)) (v := ?v179) rfl rfl (by kernel_rfl) (by decide) hCl (by kernel_rfl) (by kernel_rfl) (by kernel_rfl) (by rfl) ?hy179 (fun _ _ _ => trivial) (fun hCl' => ?_)
          case hy179 => (intro w hSw; refine T.qVal ?_ hSw; (have fF202 := F202.out w hSw; have fF203 := F203.out w hSw; have fF204 := F204.out w hSw; obtain ⟨z1, z2, z3, z4⟩ := HX.out w (Ux.trans hSw)); (try dsimp only [List.getElem_toArray, List.getElem_cons_succ, List.getElem_cons_zero]); go_simp; try with_reducible rfl)
          simp only [Act.put, List.setIfInBounds_toArray, List.set_cons_zero, List.set_cons_succ]
          replace hCl := hCl'; clear hCl'
          refine T.qTake (i := 47) (d := (some 148)) (v := ?v180) rfl rfl (by kernel_rfl) (by decide) hCl (by kernel_rfl) (by kernel_rfl) (by kernel_rfl) (by rfl) ?hy180 (fun _ _ _ => trivial) (fun hCl' => ?_)
          case hy180 => (intro w hSw; refine T.qVal ?_ hSw; (have fF202 := F202.out w hSw; have fF203 := F203.out w hSw; have fF204 := F204.out w hSw; obtain ⟨z1, z2, z3, z4⟩ := HX.out w (Ux.trans hSw)); (try dsimp only [List.getElem_toArray, List.getElem_cons_succ, List.getElem_cons_zero]); go_simp; try with_reducible rfl)
          simp only [Act.put, List.setIfInBounds_toArray, List.set_cons_zero, List.set_cons_succ]
          replace hCl := hCl'; clear hCl'
          refine T.qTake (i := 48) (d := (some 149)) (v := ?v181) rfl rfl (by kernel_rfl) (by decide) hCl (by kernel_rfl) (by kernel_rfl) (by kernel_rfl) (by rfl) ?hy181 (fun _ _ _ => trivial) (fun hCl' => ?_)
          case hy181 => (intro w hSw; refine T.qVal ?_ hSw; (have fF202 := F202.out w hSw; have fF203 := F203.out w hSw; have fF204 := F204.out w hSw; obtain ⟨z1, z2, z3, z4⟩ := HX.out w (Ux.trans hSw)); (try dsimp only [List.getElem_toArray, List.getElem_cons_succ, List.getElem_cons_zero]); go_simp; try with_reducible rfl)
          simp only [Act.put, List.setIfInBounds_toArray, List.set_cons_zero, List.set_cons_succ]
          replace hCl := hCl'; clear hCl'
          refine T.qTake (i := 49) (d := (some 150)) (v := ((.bool true))) rfl rfl (by kernel_rfl) (by decide) hCl (by kernel_rfl) (by kernel_rfl) (by kernel_rfl) (by rfl) ?hy182 (fun _ _ _ => trivial) (fun hCl' => ?_)
          case hy182 => (intro w hSw; (have fF202 := F202.out w hSw; have fF203 := F203.out w hSw; have fF204 := F204.out w hSw; obtain ⟨z1, z2, z3, z4⟩ := HX.out w (Ux.trans hSw)); (try dsimp only [List.getElem_toArray, List.getElem_cons_succ, List.getElem_cons_zero]); go_simp; (refine (callsIn_wide.2 (HHas.out _ w HP2.out)).mono ?_; rintro e w3 ⟨rfl, u3⟩; exact ⟨rfl, hSw.trans u3⟩))
          simp only [Act.put, List.setIfInBounds_toArray, List.set_cons_zero, List.set_cons_succ]
          replace hCl := hCl'; clear hCl'
          refine T.qTake (i := 50) (d := (some 151)) (v := ?v183) rfl rfl (by kernel_rfl) (by decide) hCl (by kernel_rfl) (by kernel_rfl) (by kernel_rfl) (by rfl) ?hy183 (fun _ _ _ => trivial) (fun hCl' => ?_)
          case hy183 => (intro w hSw; refine T.qVal ?_ hSw; (have fF202 := F202.out w hSw; have fF203 := F203.out w hSw; have fF204 := F204.out w hSw; obtain ⟨z1, z2, z3, z4⟩ := HX.out w (Ux.trans hSw)); (try dsimp only [List.getElem_toArray, List.getElem_cons_succ, List.getElem_cons_zero]); go_simp; try with_reducible rfl)
          simp only [Act.put, List.setIfInBounds_toArray, List.set_cons_zero, List.set_cons_succ]
          replace hCl := hCl'; clear hCl'
          refine T.tail_intro (by kernel_rfl) (fun Y201 hY201 => ?_)
          replace U := U.trans hY201
          replace kC := hY201.blk kC
          replace ks := hY201.blk ks
          replace kt := hY201.blk kt
          replace Ux := Ux.trans hY201
          clear F202 F203 F204 hY201
          refine lastG (i := 51) (by kernel_rfl) rfl (by rfl) (by decide) (fun K hK => ?_)
          go_simp
          refine hK.out _ _ ?_
          clear hK K
          refine doneG (by kernel_rfl) ?_ _
          refine S.nrm_intro ?_
          go_wp2_with fail
          have F206 := Lib.hid (fun w (u : Up Y201 w) => cellB (u.blk kC))
          have F207 := Lib.hid (fun w (u : Up Y201 w) => cellB (u.blk ks))
          have F208 := Lib.hid (fun w (u : Up Y201 w) => cellB (u.blk kt))
          refine (wpIn_wide (n := 5)).1 ?_
          refine wpIn_nrm ?_
          refine T.regionQ (fun w' => Up Y201 w') 29 1 hmx (by kernel_rfl) (by kernel_rfl) ((Up.refl Y201).drew) (fun hCl => ?_)
          refine T.qTake (i := 0) (d := (some 153)) (v := ?v184) rfl rfl (by kernel_rfl) (by decide) hCl (by kernel_rfl) (by kernel_rfl) (by kernel_rfl) (by rfl) ?hy184 (fun _ _ _ => trivial) (fun hCl' => ?_)
          case hy184 => (intro w hSw; refine T.qVal ?_ hSw; (have fF206 := F206.out w hSw; have fF207 := F207.out w hSw; have fF208 := F208.out w hSw; obtain ⟨z1, z2, z3, z4⟩ := HX.out w (Ux.trans hSw)); (try dsimp only [List.getElem_toArray, List.getElem_cons_succ, List.getElem_cons_zero]); go_simp; try with_reducible rfl)
          simp only [Act.put, List.setIfInBounds_toArray, List.set_cons_zero, List.set_cons_succ]
          replace hCl := hCl'; clear hCl'
          refine T.qTake (i := 1) (d := (some 154)) (v := ?v185) rfl rfl (by kernel_rfl) (by decide) hCl (by kernel_rfl) (by kernel_rfl) (by kernel_rfl) (by rfl) ?hy185 (fun _ _ _ => trivial) (fun hCl' => ?_)
          case hy185 => (intro w hSw; refine T.qVal ?_ hSw; (have fF206 := F206.out w hSw; have fF207 := F207.out w hSw; have fF208 := F208.out w hSw; obtain ⟨z1, z2, z3, z4⟩ := HX.out w (Ux.trans hSw)); (try dsimp only [List.getElem_toArray, List.getElem_cons_succ, List.getElem_cons_zero]); go_simp; try with_reducible rfl)
          simp only [Act.put, List.setIfInBounds_toArray, List.set_cons_zero, List.set_cons_succ]
          replace hCl := hCl'; clear hCl'
          refine T.qTake (i := 2) (d := (some 155)) (v := ?v186) rfl rfl (by kernel_rfl) (by decide) hCl (by kernel_rfl) (by kernel_rfl) (by kernel_rfl) (by rfl) ?hy186 (fun _ _ _ => trivial) (fun hCl' => ?_)
          case hy186 => (intro w hSw; refine T.qVal ?_ hSw; (have fF206 := F206.out w hSw; have fF207 := F207.out w hSw; have fF208 := F208.out w hSw; obtain ⟨z1, z2, z3, z4⟩ := HX.out w (Ux.trans hSw)); (try dsimp only [List.getElem_toArray, List.getElem_cons_succ, List.getElem_cons_zero]); go_simp; try with_reducible rfl)
          simp only [Act.put, List.setIfInBounds_toArray, List.set_cons_zero, List.set_cons_succ]
          replace hCl := hCl'; clear hCl'
          refine T.qSkip (i := 3) (d := (some 156)) rfl rfl (by kernel_rfl) (by decide) hCl (by kernel_rfl) (by kernel_rfl) (by kernel_rfl) (by rfl) (fun _ _ _ => trivial) (fun hCl' => ?_)
          simp only [Act.put, List.setIfInBounds_toArray, List.set_cons_zero, List.set_cons_succ]
          replace hCl := hCl'; clear hCl'
          refine T.qSkip (i := 4) (d := (some 157)) rfl rfl (by kernel_rfl) (by decide) hCl (by kernel_rfl) (by kernel_rfl) (by kernel_rfl) (by rfl) (fun _ _ _ => trivial) (fun hCl' => ?_)
          simp only [Act.put, List.setIfInBounds_toArray, List.set_cons_zero, List.set_cons_succ]
          replace hCl := hCl'; clear hCl'
          refine T.qSkip (i := 7) (d := (some 160)) rfl rfl (by kernel_rfl) (by decide) hCl (by kernel_rfl) (by kernel_rfl) (by kernel_rfl) (by rfl) (fun _ _ _ => trivial) (fun hCl' => ?_)
          simp only [Act.put, List.setIfInBounds_toArray, List.set_cons_zero, List.set_cons_succ]
          replace hCl := hCl'; clear hCl'
          refine T.qSkip (i := 10) (d := (some 163)) rfl rfl (by kernel_rfl) (by decide) hCl (by kernel_rfl) (by kernel_rfl) (by kernel_rfl) (by rfl) (fun _ _ _ => trivial) (fun hCl' => ?_)
          simp only [Act.put, List.setIfInBounds_toArray, List.set_cons_zero, List.set_cons_succ]
          replace hCl := hCl'; clear hCl'
          refine T.qSkip (i := 5) (d := (some 158)) rfl rfl (by kernel_rfl) (by decide) hCl (by kernel_rfl) (by kernel_rfl) (by kernel_rfl) (by rfl) (fun _ _ _ => trivial) (fun hCl' => ?_)
          simp only [Act.put, List.setIfInBounds_toArray, List.set_cons_zero, List.set_cons_succ]
          replace hCl := hCl'; clear hCl'
          refine T.qSkip (i := 11) (d := (some 164)) rfl rfl (by kernel_rfl) (by decide) hCl (by kernel_rfl) (by kernel_rfl) (by kernel_rfl) (by rfl) (fun _ _ _ => trivial) (fun hCl' => ?_)
          simp only [Act.put, List.setIfInBounds_toArray, List.set_cons_zero, List.set_cons_succ]
          replace hCl := hCl'; clear hCl'
          refine T.qSkip (i := 6) (d := (some 159)) rfl rfl (by kernel_rfl) (by decide) hCl (by kernel_rfl) (by kernel_rfl) (by kernel_rfl) (by rfl) (fun _ _ _ => trivial) (fun hCl' => ?_)
          simp only [Act.put, List.setIfInBounds_toArray, List.set_cons_zero, List.set_cons_succ]
          replace hCl := hCl'; clear hCl'
          refine T.qSkip (i := 8) (d := (some 161)) rfl rfl (by kernel_rfl) (by decide) hCl (by kernel_rfl) (by kernel_rfl) (by kernel_rfl) (by rfl) (fun _ _ _ => trivial) (fun hCl' => ?_)
          simp only [Act.put, List.setIfInBounds_toArray, List.set_cons_zero, List.set_cons_succ]
          replace hCl := hCl'; clear hCl'
          refine T.qSkip (i := 9) (d := (some 162)) rfl rfl (by kernel_rfl) (by decide) hCl (by kernel_rfl) (by kernel_rfl) (by kernel_rfl) (by rfl) (fun _ _ _ => trivial) (fun hCl' => ?_)
          simp only [Act.put, List.setIfInBounds_toArray, List.set_cons_zero, List.set_cons_succ]
          replace hCl := hCl'; clear hCl'
          refine T.qSkip (i := 12) (d := (some 165)) rfl rfl (by kernel_rfl) (by decide) hCl (by kernel_rfl) (by kernel_rfl) (by kernel_rfl) (by rfl) (fun _ _ _ => trivial) (fun hCl' => ?_)
          simp only [Act.put, List.setIfInBounds_toArray, List.set_cons_zero, List.set_cons_succ]
          replace hCl := hCl'; clear hCl'
          refine T.qTake (i := 13) (d := (some 166)) (v := ?v197) rfl rfl (by kernel_rfl) (by decide) hCl (by kernel_rfl) (by kernel_rfl) (by kernel_rfl) (by rfl) ?hy197 (fun _ _ _ => trivial) (fun hCl' => ?_)
          case hy197 => (intro w hSw; refine T.qVal ?_ hSw; (have fF206 := F206.out w hSw; have fF207 := F207.out w hSw; have fF208 := F208.out w hSw; obtain ⟨z1, z2, z3, z4⟩ := HX.out w (Ux.trans hSw)); (try dsimp only [List.getElem_toArray, List.getElem_cons_succ, List.getElem_cons_zero]); go_simp; try with_reducible rfl)
          simp only [Act.put, List.setIfInBounds_toArray, List.set_cons_zero, List.set_cons_succ]
          replace hCl := hCl'; clear hCl'
          refine T.qTake (i := 14) (d := (some 167)) (v := ?v198) rfl rfl (by kernel_rfl) (by decide) hCl (by kernel_rfl) (by kernel_rfl) (by kernel_rfl) (by rfl) ?hy198 (fun _ _ _ => trivial) (fun hCl' => ?_)
          case hy198 => (intro w hSw; refine T.qVal ?_ hSw; (have fF206 := F206.out w hSw; have fF207 := F207.out w hSw; have fF208 := F208.out w hSw; obtain ⟨z1, z2, z3, z4⟩ := HX.out w (Ux.trans hSw)); (try dsimp only [List.getElem_toArray, List.getElem_cons_succ, List.getElem_cons_zero]); go_simp; try with_reducible rfl)
          simp only [Act.put, List.setIfInBounds_toArray, List.set_cons_zero, List.set_cons_succ]
          replace hCl := hCl'; clear hCl'
          refine T.qTake (i := 15) (d := (some 168)) (v := ?v199) rfl rfl (by kernel_rfl) (by decide) hCl (by kernel_rfl) (by kernel_rfl) (by kernel_rfl) (by rfl) ?hy199 (fun _ _ _ => trivial) (fun hCl' => ?_)
          case hy199 => (intro w hSw; refine T.qVal ?_ hSw; (have fF206 := F206.out w hSw; have fF207 := F207.out w hSw; have fF208 := F208.out w hSw; obtain ⟨z1, z2, z3, z4⟩ := HX.out w (Ux.trans hSw)); (try dsimp only [List.getElem_toArray, List.getElem_cons_succ, List.getElem_cons_zero]); go_simp; try with_reducible rfl)
          simp only [Act.put, List.setIfInBounds_toArray, List.set_cons_zero, List.set_cons_succ]
          replace hCl := hCl'; clear hCl'
          refine T.qTake (i := 16) (d := (some 169)) (v := ?v200) rfl rfl (by kernel_rfl) (by decide) hCl (by kernel_rfl) (by kernel_rfl) (by kernel_rfl) (by rfl) ?hy200 (fun _ _ _ => trivial) (fun hCl' => ?_)
          case hy200 => (intro w hSw; refine T.qVal ?_ hSw; (have fF206 := F206.out w hSw; have fF207 := F207.out w hSw; have fF208 := F208.out w hSw; obtain ⟨z1, z2, z3, z4⟩ := HX.out w (Ux.trans hSw)); (try dsimp only [List.getElem_toArray, List.getElem_cons_succ, List.getElem_cons_zero]); go_simp; try with_reducible rfl)
          simp only [Act.put, List.setIfInBounds_toArray, List.set_cons_zero, List.set_cons_succ]
          replace hCl := hCl'; clear hCl'
          refine T.qTake (i := 17) (d := (some 170)) (v := ?v201) rfl rfl (by kernel_rfl) (by decide) hCl (by kernel_rfl) (by kernel_rfl) (by kernel_rfl) (by rfl) ?hy201 (fun _ _ _ => trivial) (fun hCl' => ?_)
          case hy201 => (intro w hSw; refine T.qVal ?_ hSw; (have fF206 := F206.out w hSw; have fF207 := F207.out w hSw; have fF208 := F208.out w hSw; obtain ⟨z1, z2, z3, z4⟩ := HX.out w (Ux.trans hSw)); (try dsimp only [List.getElem_toArray, List.getElem_cons_succ, List.getElem_cons_zero]); go_simp; try with_reducible rfl)
          simp only [Act.put, List.setIfInBounds_toArray, List.set_cons_zero, List.set_cons_succ]
          replace hCl := hCl'; clear hCl'
          refine T.qTake (i := 18) (d := (some 171)) (v := ?v202) rfl rfl (by kernel_rfl) (by decide) hCl (by kernel_rfl) (by kernel_rfl) (by kernel_rfl) (by rfl) ?hy202 (fun _ _ _ => trivial) (fun hCl' => ?_)
          case hy202 => (intro w hSw; refine T.qVal ?_ hSw; (have fF206 := F206.out w hSw; have fF207 := F207.out w hSw; have fF208 := F208.out w hSw; obtain ⟨z1, z2, z3, z4⟩ := HX.out w (Ux.trans hSw)); (try dsimp only [List.getElem_toArray, List.getElem_cons_succ, List.getElem_cons_zero]); go_simp; try with_reducible rfl)
          simp only [Act.put, List.setIfInBounds_toArray, List.set_cons_zero, List.set_cons_succ]
          replace hCl := hCl'; clear hCl'
          refine T.qTake (i := 19) (d := (some 172)) (v := ?v203) rfl rfl (by kernel_rfl) (by decide) hCl (by kernel_rfl) (by kernel_rfl) (by kernel_rfl) (by rfl) ?hy203 (fun _ _ _ => trivial) (fun hCl' => ?_)
          case hy203 => (intro w hSw; refine T.qVal ?_ hSw; (have fF206 := F206.out w hSw; have fF207 := F207.out w hSw; have fF208 := F208.out w hSw; obtain ⟨z1, z2, z3, z4⟩ := HX.out w (Ux.trans hSw)); (try dsimp only [List.getElem_toArray, List.getElem_cons_succ, List.getElem_cons_zero]); go_simp; try with_reducible rfl)
          simp only [Act.put, List.setIfInBounds_toArray, List.set_cons_zero, List.set_cons_succ]
          replace hCl := hCl'; clear hCl'
          refine T.qTake (i := 22) (d := (some 175)) (v := ?v204) rfl rfl (by kernel_rfl) (by decide) hCl (by kernel_rfl) (by kernel_rfl) (by kernel_rfl) (by rfl) ?hy204 (fun _ _ _ => trivial) (fun hCl' => ?_)
          case hy204 => (intro w hSw; refine T.qVal ?_ hSw; (have fF206 := F206.out w hSw; have fF207 := F207.out w hSw; have fF208 := F208.out w hSw; obtain ⟨z1, z2, z3, z4⟩ := HX.out w (Ux.trans hSw)); (try dsimp only [List.getElem_toArray, List.getElem_cons_succ, List.getElem_cons_zero]); go_simp; try with_reducible rfl)
          simp only [Act.put, List.setIfInBounds_toArray, List.set_cons_zero, List.set_cons_succ]
          replace hCl := hCl'; clear hCl'
          refine T.qTake (i := 25) (d := (some 178)) (v := ?v205) rfl rfl (by kernel_rfl) (by decide) hCl (by kernel_rfl) (by kernel_rfl) (by kernel_rfl) (by rfl) ?hy205 (fun _ _ _ => trivial) (fun hCl' => ?_)
          case hy205 => (intro w hSw; refine T.qVal ?_ hSw; (have fF206 := F206.out w hSw; have fF207 := F207.out w hSw; have fF208 := F208.out w hSw; obtain ⟨z1, z2, z3, z4⟩ := HX.out w (Ux.trans hSw)); (try dsimp only [List.getElem_toArray, List.getElem_cons_succ, List.getElem_cons_zero]); go_simp; try with_reducible rfl)
          simp only [Act.put, List.setIfInBounds_toArray, List.set_cons_zero, List.set_cons_succ]
          replace hCl := hCl'; clear hCl'
          refine T.qTake (i := 20) (d := (some 173)) (v := ?v206) rfl rfl (by kernel_rfl) (by decide) hCl (by kernel_rfl) (by kernel_rfl) (by kernel_rfl) (by rfl) ?hy206 (fun _ _ _ => trivial) (fun hCl' => ?_)
          case hy206 => (intro w hSw; refine T.qVal ?_ hSw; (have fF206 := F206.out w hSw; have fF207 := F207.out w hSw; have fF208 := F208.out w hSw; obtain ⟨z1, z2, z3, z4⟩ := HX.out w (Ux.trans hSw)); (try dsimp only [List.getElem_toArray, List.getElem_cons_succ, List.getElem_cons_zero]); go_simp; try with_reducible rfl)
          simp only [Act.put, List.setIfInBounds_toArray, List.set_cons_zero, List.set_cons_succ]
          replace hCl := hCl'; clear hCl'
          refine T.qTake (i := 26) (d := (some 179)) (v := ?v207) rfl rfl (by kernel_rfl) (by decide) hCl (by kernel_rfl) (by kernel_rfl) (by kernel_rfl) (by rfl) ?hy207 (fun _ _ _ => trivial) (fun hCl' => ?_)
          case hy207 => (intro w hSw; refine T.qVal ?_ hSw; (have fF206 := F206.out w hSw; have fF207 := F207.out w hSw; have fF208 := F208.out w hSw; obtain ⟨z1, z2, z3, z4⟩ := HX.out w (Ux.trans hSw)); (try dsimp only [List.getElem_toArray, List.getElem_cons_succ, List.getElem_cons_zero]); go_simp; try with_reducible rfl)
          simp only [Act.put, List.setIfInBounds_toArray, List.set_cons_zero, List.set_cons_succ]
          replace hCl := hCl'; clear hCl'
          refine T.qTake (i := 21) (d := (some 174)) (v := ?v208) rfl rfl (by kernel_rfl) (by decide) hCl (by kernel_rfl) (by kernel_rfl) (by kernel_rfl) (by rfl) ?hy208 (fun _ _ _ => trivial) (fun hCl' => ?_)
          case hy208 => (intro w hSw; refine T.qVal ?_ hSw; (have fF206 := F206.out w hSw; have fF207 := F207.out w hSw; have fF208 := F208.out w hSw; obtain ⟨z1, z2, z3, z4⟩ := HX.out w (Ux.trans hSw)); (try dsimp only [List.getElem_toArray, List.getElem_cons_succ, List.getElem_cons_zero]); go_simp; try with_reducible rfl)
          simp only [Act.put, List.setIfInBounds_toArray, List.set_cons_zero, List.set_cons_succ]
          replace hCl := hCl'; clear hCl'
          refine T.qTake (i := 23) (d := (some 176)) (v := ?v209) rfl rfl (by kernel_rfl) (by decide) hCl (by kernel_rfl) (by kernel_rfl) (by kernel_rfl) (by rfl) ?hy209 (fun _ _ _ => trivial) (fun hCl' => ?_)
          case hy209 => (intro w hSw; refine T.qVal ?_ hSw; (have fF206 := F206.out w hSw; have fF207 := F207.out w hSw; have fF208 := F208.out w hSw; obtain ⟨z1, z2, z3, z4⟩ := HX.out w (Ux.trans hSw)); (try dsimp only [List.getElem_toArray, List.getElem_cons_succ, List.getElem_cons_zero]); go_simp; try with_reducible rfl)
          simp only [Act.put, List.setIfInBounds_toArray, List.set_cons_zero, List.set_cons_succ]
          replace hCl := hCl'; clear hCl'
          refine T.qTake (i := 24) (d := (some 177)) (v := ?v210) rfl rfl (by kernel_rfl) (by decide) hCl (by kernel_rfl) (by kernel_rfl) (by kernel_rfl) (by rfl) ?hy210 (fun _ _ _ => trivial) (fun hCl' => ?_)
          case hy210 => (intro w hSw; refine T.qVal ?_ hSw; (have fF206 := F206.out w hSw; have fF207 := F207.out w hSw; have fF208 := F208.out w hSw; obtain ⟨z1, z2, z3, z4⟩ := HX.out w (Ux.trans hSw)); (try dsimp only [List.getElem_toArray, List.getElem_cons_succ, List.getElem_cons_zero]); go_simp; try with_reducible rfl)
          simp only [Act.put, List.setIfInBounds_toArray, List.set_cons_zero, List.set_cons_succ]
          replace hCl := hCl'; clear hCl'
          refine T.qTake (i := 27) (d := (some 180)) (v := ?v211) rfl rfl (by kernel_rfl) (by decide) hCl (by kernel_rfl) (by kernel_rfl) (by kernel_rfl) (by rfl) ?hy211 (fun _ _ _ => trivial) (fun hCl' => ?_)
          case hy211 => (intro w hSw; refine T.qVal ?_ hSw; (have fF206 := F206.out w hSw; have fF207 := F207.out w hSw; have fF208 := F208.out w hSw; obtain ⟨z1, z2, z3, z4⟩ := HX.out w (Ux.trans hSw)); (try dsimp only [List.getElem_toArray, List.getElem_cons_succ, List.getElem_cons_zero]); go_simp; try with_reducible rfl)
          simp only [Act.put, List.setIfInBounds_toArray, List.set_cons_zero, List.set_cons_succ]
          replace hCl := hCl'; clear hCl'
          refine T.qTake (i := 28) (d := (some 181)) (v := ?v212) rfl rfl (by kernel_rfl) (by decide) hCl (by kernel_rfl) (by kernel_rfl) (by kernel_rfl) (by rfl) ?hy212 (fun _ _ _ => trivial) (fun hCl' => ?_)
          case hy212 => (intro w hSw; refine T.qVal ?_ hSw; (have fF206 := F206.out w hSw; have fF207 := F207.out w hSw; have fF208 := F208.out w hSw; obtain ⟨z1, z2, z3, z4⟩ := HX.out w (Ux.trans hSw)); (try dsimp only [List.getElem_toArray, List.getElem_cons_succ, List.getElem_cons_zero]); go_simp; try with_reducible rfl)
          simp only [Act.put, List.setIfInBounds_toArray, List.set_cons_zero, List.set_cons_succ]
          replace hCl := hCl'; clear hCl'
          refine T.tail_intro (by kernel_rfl) (fun Y205 hY205 => ?_)
          replace U := U.trans hY205
          replace kC := hY205.blk kC
          replace ks := hY205.blk ks
          replace kt := hY205.blk kt
          replace Ux := Ux.trans hY205
          clear F206 F207 F208 hY205
          refine lastG (i := 29) (by kernel_rfl) rfl (by rfl) (by decide) (fun K hK => ?_)
          go_simp
          refine hK.out _ _ ?_
          clear hK K
          refine doneG (by kernel_rfl) ?_ _
          refine S.nrm_intro ?_
          go_wp2_with fail
          go_roundw
          case rel => exact ⟨2, .inr (.inr rfl), by go_num, U, kC, ks, kt⟩
          case measure => (simp [intOf])
        · go_wp2_with fail
          refine (HW.out _).mono ?_
          rintro e x ⟨rfl, u⟩
          go_wp2
          go_ret
          exact ⟨rfl, U.trans u⟩
end

end Go.Proofs.Ytoipfakcmnjenaa
