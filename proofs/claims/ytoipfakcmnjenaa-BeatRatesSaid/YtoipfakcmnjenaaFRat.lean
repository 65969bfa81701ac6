import Derived.Test.YtoipfakcmnjenaaRte
import Derived.Test.YtoipfakcmnjenaaLsy
import Derived.Test.YtoipfakcmnjenaaMay
import Derived.Test.YtoipfakcmnjenaaFst
import Derived.Test.YtoipfakcmnjenaaAp2
/- The law BeatRates. -/
namespace Go.Proofs.Ytoipfakcmnjenaa
open Go.RowKit Go.Shelf
attribute [local go_sem] Oper.semAt_some

section
variable {aR aO aP : Option Addr} {nR cR nO cO nP cP : Nat} {rs : T.LR} {os : T.LO} {ps : T.LP}
set_option maxRecDepth 100000 in
set_option maxHeartbeats 8000000 in
theorem beatRates_any {Hi n0 n1 : Int} {w : World} (I : Sps w (.slice aR nR cR) rs) (IO : Ops w (.slice aO nO cO) os) (IP : Prs w (.slice aP nP cP) ps) :
    Calls Try.prog 13 #[ClV Hi (.slice aR nR cR) (.slice aO nO cO) (.slice aP nP cP), .agg #[.int .i64 n0, .int .i64 n1]] w fun e w' => e = .returned (.bool true) ∧ Up w w' := by
  have U := ((Up.refl w).alloc (.cells #[.int .i64 Hi, .slice aR nR cR, .slice aO nO cO, .slice aP nP cP] 26)).alloc (.cells #[.int .i64 n0, .int .i64 n1] 28)
  have HW := Lib.hid (fun w => l_works_any w)
  cases hv : T.valid Hi rs os ps with
  | false =>
    have HS := Lib.hid (fun w' (u : Up w w') => l_sound_no (I.up u) (IO.up u) (IP.up u) hv)
    clear hv I IO IP
    go_enter Try.func13, Try.ntmps13
    go_wp2_with fail
    refine (HS.out _ U).mono ?_
    rintro e w1 ⟨rfl, u1⟩
    go_wp2_with fail
    refine (HW.out _).mono ?_
    rintro e w2 ⟨rfl, u2⟩
    go_wp2
    go_ret
    exact ⟨rfl, (U.trans u1).trans u2⟩
  | true =>
    obtain ⟨H, rfl⟩ := T.valid_nat hv
    have G := T.valid_good.1 hv
    have hn := I.len
    subst hn
    have hno := IO.len
    subst hno
    have q1 := G.h1
    have q2 := G.h2
    have q3 := G.r1
    have q4 := G.r2
    have q5 := G.o6
    obtain ⟨a', c', e', _, _, hm⟩ := I.is
    injection e' with ea eb ec
    clear eb ec
    obtain ⟨gR, oR, ga, glR, hxR⟩ := hm (by omega)
    subst ea ga
    clear hm
    have HS := Lib.hid (fun w' (u : Up w w') => l_sound_yes (I.up u) (IO.up u) (IP.up u) hv)
    have HI := Lib.hid (fun w' (u : Up w w') => I.up u)
    have HO := Lib.hid (fun w' (u : Up w w') => IO.up u)
    have HP := Lib.hid (fun w' (u : Up w w') => IP.up u)
    have HRk := Lib.hid (fun w => B_Rest_any n0 (rs.length : Int) w (by omega) (by omega))
    have ak := Int.emod_nonneg n0 (b := (rs.length : Int)) (by omega)
    have bk := Int.emod_lt_of_pos n0 (b := (rs.length : Int)) (by omega)
    generalize n0 % (rs.length : Int) = k at *
    obtain ⟨k, rfl⟩ := Int.eq_ofNat_of_zero_le ak
    have HRh := Lib.hid (fun w => B_Rest_any n1 (H : Int) w (by omega) (by omega))
    have ah := Int.emod_nonneg n1 (b := (H : Int)) (by omega)
    have bh := Int.emod_lt_of_pos n1 (b := (H : Int)) (by omega)
    generalize n1 % (H : Int) = h at *
    obtain ⟨h, rfl⟩ := Int.eq_ofNat_of_zero_le ah
    have bk' : k < rs.length := by omega
    have hgb := fun j hj => T.gto_bd G k h (show (k : Int).toNat < rs.length from bk') j hj
    obtain ⟨s0, hs0⟩ : ∃ x, (T.gto rs os k h 0).1 = x := ⟨_, rfl⟩
    obtain ⟨s1, hs1⟩ : ∃ x, (T.gto rs os k h 0).2 = x := ⟨_, rfl⟩
    have HcR := Lib.hid (fun w' (u : Up w w') => And.intro (show w'.cell? ⟨gR, oR + k * 2, none⟩ = some (.int .i64 s0) by rw [← hs0]; exact (u.facts.1 gR _ glR).trans (hxR k bk' 0 (by omega))) (show w'.cell? ⟨gR, oR + k * 2 + 1, none⟩ = some (.int .i64 s1) by rw [← hs1]; exact (u.facts.1 gR _ glR).trans (hxR k bk' 1 (by omega))))
    have wh : IntKind.i64.wrap ((h : Int) + 1) = (h : Int) + 1 := IntWalk.i64_in _ (by omega)
    have hmx : Try.prog.follows .mixedOrders = true := by kernel_rfl
    have mk1 := T.mom_in (n := rs.length) (H := H) (k := k) (h := (h : Int) + 1) ⟨ak, bk⟩ ⟨by omega, by omega⟩
    have mk0 := T.mom_in (n := rs.length) (H := H) (k := k) (h := h) ⟨ak, bk⟩ ⟨ah, by omega⟩
    obtain ⟨ld, hd, ed, td⟩ := T.Tells.ex (m1 := ((k : Int), (h : Int) + 1)) (m2 := ((k : Int), (h : Int))) G mk1 mk0
    obtain ⟨lo, ho, eo, to⟩ := T.Tells.ex (m1 := ((k : Int), (h : Int))) (m2 := (-1, 0)) G mk0 T.mom_0
    obtain rfl := td.same to
    have Cd := Lib.hid (fun w' (u : Up w w') => Drift_tells G ⟨ak, bk⟩ ⟨ah, (show (h : Int) ≤ H by omega)⟩ ⟨(show 0 ≤ (h : Int) + 1 by omega), (show (h : Int) + 1 ≤ H by omega)⟩ td (I.up u) (IO.up u) (IP.up u))
    have Co := Lib.hid (fun w' (u : Up w w') => Offset_tells G ⟨ak, bk⟩ ⟨ah, (show (h : Int) ≤ H by omega)⟩ to (I.up u) (IO.up u) (IP.up u))
    have HG := Lib.hid (And.intro G (And.intro td to))
    have HTo := Lib.hid (fun l h w => B_To_any l h w)
    have HB := Lib.hid hgb
    have HQ := Lib.hid (And.intro (And.intro ak bk) (And.intro ah bh))
    have HM := Lib.hid (And.intro mk1 mk0)
    have HS01 := Lib.hid (And.intro hs0.symm hs1.symm)
    clear td to hgb hxR hs0 hs1 mk1 mk0 hv G
    clear I IO IP q1 q3
    go_enter Try.func13, Try.ntmps13
    obtain ⟨q0, e0⟩ : ∃ x, w.heap.size = x := ⟨_, rfl⟩
    have kC := blk_keep (.cells #[.int .i64 n0, .int .i64 n1] 28) (blk_new w (.cells #[.int .i64 H, .slice (some ⟨gR, oR, none⟩) rs.length cR, .slice aO os.length cO, .slice aP nP cP] 26) q0 e0.symm)
    have kN := blk_new (w.alloc (.cells #[.int .i64 H, .slice (some ⟨gR, oR, none⟩) rs.length cR, .slice aO os.length cO, .slice aP nP cP] 26)) (.cells #[.int .i64 n0, .int .i64 n1] 28) (q0 + 1) (by simp [e0])
    go_wp2_with fail
    refine (HS.out _ U).mono ?_
    rintro e x1 ⟨rfl, u2⟩
    replace U := U.trans u2
    replace kC := u2.blk kC
    replace kN := u2.blk kN
    clear u2 HS
    go_wp2_with fail
    have F4 := Lib.hid (fun w (u : Up x1 w) => cellB (u.blk kC))
    have F5 := Lib.hid (fun w (u : Up x1 w) => cellB (u.blk kN))
    refine (wpIn_wide (n := 5)).1 ?_
    refine wpIn_nrm ?_
    refine T.regionQ (fun w' => Up x1 w') 12 1 hmx (by kernel_rfl) (by kernel_rfl) ((Up.refl x1).drew) (fun hCl => ?_)
    refine T.qTake (i := 0) (d := (some 26)) (v := ?v1) rfl rfl (by kernel_rfl) (by decide) hCl (by kernel_rfl) (by kernel_rfl) (by kernel_rfl) (by rfl) ?hy1 (fun _ _ _ => trivial) (fun hCl' => ?_)
    case hy1 => (intro w hSw; refine T.qVal ?_ hSw; (have fF4 := F4.out w hSw; have fF5 := F5.out w hSw); (try dsimp only [List.getElem_toArray, List.getElem_cons_succ, List.getElem_cons_zero]); go_simp; try with_reducible rfl)
    simp only [Act.put, List.setIfInBounds_toArray, List.set_cons_zero, List.set_cons_succ]
    replace hCl := hCl'; clear hCl'
    refine T.qTake (i := 2) (d := (some 28)) (v := ?v2) rfl rfl (by kernel_rfl) (by decide) hCl (by kernel_rfl) (by kernel_rfl) (by kernel_rfl) (by rfl) ?hy2 (fun _ _ _ => trivial) (fun hCl' => ?_)
    case hy2 => (intro w hSw; refine T.qVal ?_ hSw; (have fF4 := F4.out w hSw; have fF5 := F5.out w hSw); (try dsimp only [List.getElem_toArray, List.getElem_cons_succ, List.getElem_cons_zero]); go_simp; try with_reducible rfl)
    simp only [Act.put, List.setIfInBounds_toArray, List.set_cons_zero, List.set_cons_succ]
    replace hCl := hCl'; clear hCl'
    refine T.qTake (i := 6) (d := (some 32)) (v := ?v3) rfl rfl (by kernel_rfl) (by decide) hCl (by kernel_rfl) (by kernel_rfl) (by kernel_rfl) (by rfl) ?hy3 (fun _ _ _ => trivial) (fun hCl' => ?_)
    case hy3 => (intro w hSw; refine T.qVal ?_ hSw; (have fF4 := F4.out w hSw; have fF5 := F5.out w hSw); (try dsimp only [List.getElem_toArray, List.getElem_cons_succ, List.getElem_cons_zero]); go_simp; try with_reducible rfl)
    simp only [Act.put, List.setIfInBounds_toArray, List.set_cons_zero, List.set_cons_succ]
    replace hCl := hCl'; clear hCl'
    refine T.qTake (i := 8) (d := (some 34)) (v := ?v4) rfl rfl (by kernel_rfl) (by decide) hCl (by kernel_rfl) (by kernel_rfl) (by kernel_rfl) (by rfl) ?hy4 (fun _ _ _ => trivial) (fun hCl' => ?_)
    case hy4 => (intro w hSw; refine T.qVal ?_ hSw; (have fF4 := F4.out w hSw; have fF5 := F5.out w hSw); (try dsimp only [List.getElem_toArray, List.getElem_cons_succ, List.getElem_cons_zero]); go_simp; try with_reducible rfl)
    simp only [Act.put, List.setIfInBounds_toArray, List.set_cons_zero, List.set_cons_succ]
    replace hCl := hCl'; clear hCl'
    refine T.qTake (i := 1) (d := (some 27)) (v := ?v5) rfl rfl (by kernel_rfl) (by decide) hCl (by kernel_rfl) (by kernel_rfl) (by kernel_rfl) (by rfl) ?hy5 (fun _ _ _ => trivial) (fun hCl' => ?_)
    case hy5 => (intro w hSw; refine T.qVal ?_ hSw; (have fF4 := F4.out w hSw; have fF5 := F5.out w hSw); (try dsimp only [List.getElem_toArray, List.getElem_cons_succ, List.getElem_cons_zero]); go_simp; try with_reducible rfl)
    simp only [Act.put, List.setIfInBounds_toArray, List.set_cons_zero, List.set_cons_succ]
    replace hCl := hCl'; clear hCl'
    refine T.qTake (i := 3) (d := (some 29)) (v := ?v6) rfl rfl (by kernel_rfl) (by decide) hCl (by kernel_rfl) (by kernel_rfl) (by kernel_rfl) (by rfl) ?hy6 (fun _ _ _ => trivial) (fun hCl' => ?_)
    case hy6 => (intro w hSw; refine T.qVal ?_ hSw; (have fF4 := F4.out w hSw; have fF5 := F5.out w hSw); (try dsimp only [List.getElem_toArray, List.getElem_cons_succ, List.getElem_cons_zero]); go_simp; try with_reducible rfl)
    simp only [Act.put, List.setIfInBounds_toArray, List.set_cons_zero, List.set_cons_succ]
    replace hCl := hCl'; clear hCl'
    refine T.qTake (i := 7) (d := (some 33)) (v := ?v7) rfl rfl (by kernel_rfl) (by decide) hCl (by kernel_rfl) (by kernel_rfl) (by kernel_rfl) (by rfl) ?hy7 (fun _ _ _ => trivial) (fun hCl' => ?_)
    case hy7 => (intro w hSw; refine T.qVal ?_ hSw; (have fF4 := F4.out w hSw; have fF5 := F5.out w hSw); (try dsimp only [List.getElem_toArray, List.getElem_cons_succ, List.getElem_cons_zero]); go_simp; try with_reducible rfl)
    simp only [Act.put, List.setIfInBounds_toArray, List.set_cons_zero, List.set_cons_succ]
    replace hCl := hCl'; clear hCl'
    refine T.qTake (i := 9) (d := (some 35)) (v := ?v8) rfl rfl (by kernel_rfl) (by decide) hCl (by kernel_rfl) (by kernel_rfl) (by kernel_rfl) (by rfl) ?hy8 (fun _ _ _ => trivial) (fun hCl' => ?_)
    case hy8 => (intro w hSw; refine T.qVal ?_ hSw; (have fF4 := F4.out w hSw; have fF5 := F5.out w hSw); (try dsimp only [List.getElem_toArray, List.getElem_cons_succ, List.getElem_cons_zero]); go_simp; try with_reducible rfl)
    simp only [Act.put, List.setIfInBounds_toArray, List.set_cons_zero, List.set_cons_succ]
    replace hCl := hCl'; clear hCl'
    refine T.qTake (i := 4) (d := (some 30)) (v := ?v9) rfl rfl (by kernel_rfl) (by decide) hCl (by kernel_rfl) (by kernel_rfl) (by kernel_rfl) (by rfl) ?hy9 (fun _ _ _ => trivial) (fun hCl' => ?_)
    case hy9 => (intro w hSw; refine T.qVal ?_ hSw; (have fF4 := F4.out w hSw; have fF5 := F5.out w hSw); (try dsimp only [List.getElem_toArray, List.getElem_cons_succ, List.getElem_cons_zero]); go_simp; try with_reducible rfl)
    simp only [Act.put, List.setIfInBounds_toArray, List.set_cons_zero, List.set_cons_succ]
    replace hCl := hCl'; clear hCl'
    refine T.qTake (i := 5) (d := (some 31)) (v := ((.int .i64 (k : Int)))) rfl rfl (by kernel_rfl) (by decide) hCl (by kernel_rfl) (by kernel_rfl) (by kernel_rfl) (by rfl) ?hy10 (fun _ _ _ => trivial) (fun hCl' => ?_)
    case hy10 => (intro w hSw; (have fF4 := F4.out w hSw; have fF5 := F5.out w hSw); (try dsimp only [List.getElem_toArray, List.getElem_cons_succ, List.getElem_cons_zero]); go_simp; (refine (callsIn_wide.2 (HRk.out w)).mono ?_; rintro e w3 ⟨rfl, rfl⟩; exact ⟨rfl, hSw⟩))
    simp only [Act.put, List.setIfInBounds_toArray, List.set_cons_zero, List.set_cons_succ]
    replace hCl := hCl'; clear hCl'
    refine T.qTake (i := 10) (d := (some 36)) (v := ((.int .i64 (h : Int)))) rfl rfl (by kernel_rfl) (by decide) hCl (by kernel_rfl) (by kernel_rfl) (by kernel_rfl) (by rfl) ?hy11 (fun _ _ _ => trivial) (fun hCl' => ?_)
    case hy11 => (intro w hSw; (have fF4 := F4.out w hSw; have fF5 := F5.out w hSw); (try dsimp only [List.getElem_toArray, List.getElem_cons_succ, List.getElem_cons_zero]); go_simp; (refine (callsIn_wide.2 (HRh.out w)).mono ?_; rintro e w3 ⟨rfl, rfl⟩; exact ⟨rfl, hSw⟩))
    simp only [Act.put, List.setIfInBounds_toArray, List.set_cons_zero, List.set_cons_succ]
    replace hCl := hCl'; clear hCl'
    refine T.qTake (i := 11) (d := (some 5)) (v := ?v12) rfl rfl (by kernel_rfl) (by decide) hCl (by kernel_rfl) (by kernel_rfl) (by kernel_rfl) (by rfl) ?hy12 (fun _ _ _ => trivial) (fun hCl' => ?_)
    case hy12 => (intro w hSw; refine T.qVal ?_ hSw; (have fF4 := F4.out w hSw; have fF5 := F5.out w hSw); (try dsimp only [List.getElem_toArray, List.getElem_cons_succ, List.getElem_cons_zero]); go_simp; try with_reducible rfl)
    simp only [Act.put, List.setIfInBounds_toArray, List.set_cons_zero, List.set_cons_succ]
    replace hCl := hCl'; clear hCl'
    refine T.tail_intro (by kernel_rfl) (fun Y3 hY3 => ?_)
    replace U := U.trans hY3
    replace kC := hY3.blk kC
    replace kN := hY3.blk kN
    clear F4 F5 hY3
    refine lastG (i := 12) (by kernel_rfl) rfl (by rfl) (by decide) (fun K hK => ?_)
    go_simp
    refine hK.out _ _ ?_
    clear hK K
    refine doneG (by kernel_rfl) ?_ _
    refine S.nrm_intro ?_
    clear HRk HRh
    clear kN
    obtain ⟨c0, c1⟩ := HcR.out _ U
    have i0 := kC
    have dkCks := blk_lt kC
    have gks := U.size
    have ks := blk_new Y3 (.cells #[.int .i64 s0, .int .i64 s1] 34) _ rfl
    replace kC := blk_keep (.cells #[.int .i64 s0, .int .i64 s1] 34) kC
    replace U := U.alloc (.cells #[.int .i64 s0, .int .i64 s1] 34)
    obtain ⟨pks, hpks⟩ : ∃ z, Y3.heap.size = z := ⟨_, rfl⟩
    obtain ⟨W6, hW6⟩ : ∃ z, Y3.alloc (.cells #[.int .i64 s0, .int .i64 s1] 34) = z := ⟨_, rfl⟩
    rw [hpks] at ks dkCks gks
    rw [hW6] at ks U kC
    go_wp2_with fail
    clear hpks hW6
    clear c0 c1 i0 HcR
    go_loopw [8] (fun i wr => ∃ (j : Nat) (u v : Int), j ≤ os.length ∧ Hid (u = (T.gto rs os k h j).1 ∧ v = (T.gto rs os k h j).2) ∧ i = .int .i64 j ∧ Up w wr ∧ mblk wr q0 = some (.cells #[.int .i64 H, .slice (some ⟨gR, oR, none⟩) rs.length cR, .slice aO os.length cO, .slice aP nP cP] 26 (0, 0)) ∧ mblk wr pks = some (.cells #[.int .i64 u, .int .i64 v] 34 (0, 0))) (fun i _ => os.length - (intOf i).toNat)
    case atStart => exact ⟨0, s0, s1, Nat.zero_le _, Lib.hid HS01.out, rfl, U, kC, ks⟩
    case round =>
      clear U kC ks
      obtain ⟨j, u, v, hj, hu, rfl, U, kC, ks⟩ := hrel
      by_cases hlt : j < os.length
      · skip
        have ew : IntKind.i64.wrap ((j : Int) + 1) = (j : Int) + 1 := IntWalk.i64_in _ (by omega)
        have dk : decide ((j : Int) < (os.length : Int)) = true := decide_eq_true (by omega)
        have ilt : (j : Int) < (os.length : Int) := by omega
        obtain ⟨a', c', e', _, _, hm⟩ := (HO.out _ U).is
        injection e' with ea eb ec
        clear eb ec
        obtain ⟨g, off, ga, gl, hx⟩ := hm (by omega)
        subst ea ga
        have cc0 := hx j hlt 0 (by omega)
        have cc1 := hx j hlt 1 (by omega)
        have cc2 := hx j hlt 2 (by omega)
        have cc3 := hx j hlt 3 (by omega)
        have hsu := T.gto_succ (rs := rs) (os := os) k h hlt
        have hbo := HG.out.1.osB (os.getD j (0, 0, 0, 0)) (by
          rw [List.getD_eq_getElem?_getD, List.getElem?_eq_getElem hlt]
          exact List.getElem_mem _)
        obtain ⟨⟨x0, x1, x2, x3⟩, hss⟩ : ∃ s, os.getD j (0, 0, 0, 0) = s := ⟨_, rfl⟩
        rw [hss] at cc0 cc1 cc2 cc3 hsu hbo
        replace cc0 : wr.cell? ⟨g, off + j * 4, none⟩ = some (.int .i64 x0) := cc0
        replace cc1 : wr.cell? ⟨g, off + j * 4 + 1, none⟩ = some (.int .i64 x1) := cc1
        replace cc2 : wr.cell? ⟨g, off + j * 4 + 2, none⟩ = some (.int .i64 x2) := cc2
        replace cc3 : wr.cell? ⟨g, off + j * 4 + 3, none⟩ = some (.int .i64 x3) := cc3
        have hb0 := HB.out j (by omega)
        rw [← hu.out.1, ← hu.out.2] at hb0
        have z0 : IntKind.i64.wrap (u + x2) = u + x2 := IntWalk.i64_in _ (by have := hbo.2.2.1.1; have := hbo.2.2.2; simp only at *; omega)
        have z1 : IntKind.i64.wrap (v + x3) = v + x3 := IntWalk.i64_in _ (by have := hbo.2.2.1.2; have := hbo.2.2.2; simp only at *; omega)
        have HSU := Lib.hid hsu
        clear hx hss hm hsu hbo hb0
        have i0 := kC
        have i1 := ks
        have dkC := blk_lt kC
        have dks := blk_lt ks
        have gb := U.size
        have kb := blk_new wr (.cells #[.int .i64 x0, .int .i64 x1, .int .i64 x2, .int .i64 x3] 63) _ rfl
        replace kC := blk_keep (.cells #[.int .i64 x0, .int .i64 x1, .int .i64 x2, .int .i64 x3] 63) kC
        replace ks := blk_keep (.cells #[.int .i64 x0, .int .i64 x1, .int .i64 x2, .int .i64 x3] 63) ks
        replace U := U.alloc (.cells #[.int .i64 x0, .int .i64 x1, .int .i64 x2, .int .i64 x3] 63)
        obtain ⟨pb, hpb⟩ : ∃ z, wr.heap.size = z := ⟨_, rfl⟩
        obtain ⟨W9, hW9⟩ : ∃ z, wr.alloc (.cells #[.int .i64 x0, .int .i64 x1, .int .i64 x2, .int .i64 x3] 63) = z := ⟨_, rfl⟩
        rw [hpb] at kb dkC dks gb
        rw [hW9] at kb kC ks U
        by_cases hc0 : x0 = (k : Int)
        · subst hc0
          by_cases hc1 : x1 = (h : Int)
          · subst hc1
            go_wp2_with fail
            clear hpb hW9 i0 i1 cc0 cc1 cc2 cc3
            refine (HTo.out _ _ _).mono ?_
            rintro e w9 ⟨rfl, u9⟩
            replace U := U.trans u9
            replace kC := u9.blk kC
            replace ks := u9.blk ks
            clear u9 kb
            have zf := frozB ks
            have i1 := ks
            have U1 := (U.set (p := ⟨pks, 0, none⟩) (show w.heap.size ≤ pks by omega) (.int .i64 (u + x2))).set (p := ⟨pks, 1, none⟩) (show w.heap.size ≤ pks by omega) (.int .i64 (v + x3))
            have jC := kC
            rw [← blk_set w9 ⟨pks, 0, none⟩ (.int .i64 (u + x2)) q0 (by show q0 ≠ pks; omega), ← blk_set (w9.setCell ⟨pks, 0, none⟩ (.int .i64 (u + x2))) ⟨pks, 1, none⟩ (.int .i64 (v + x3)) q0 (by show q0 ≠ pks; omega)] at jC
            have js : mblk ((w9.setCell ⟨pks, 0, none⟩ (.int .i64 (u + x2))).setCell ⟨pks, 1, none⟩ (.int .i64 (v + x3))) pks = some (.cells #[.int .i64 (u + x2), .int .i64 (v + x3)] 34 (0, 0)) := blk_put (blk_put ks 0 _) 1 _
            obtain ⟨W8, hW8⟩ : ∃ z, (w9.setCell ⟨pks, 0, none⟩ (.int .i64 (u + x2))).setCell ⟨pks, 1, none⟩ (.int .i64 (v + x3)) = z := ⟨_, rfl⟩
            rw [hW8] at jC js U1
            clear kC ks U
            go_wp2_with fail
            clear hW8 zf i1
            have hnx : Hid (u + x2 = (T.gto rs os k h (j + 1)).1 ∧ v + x3 = (T.gto rs os k h (j + 1)).2) := Lib.hid (by
              rw [HSU.out]
              unfold T.plus
              rw [if_pos ⟨rfl, rfl⟩, hu.out.1, hu.out.2]
              exact ⟨rfl, rfl⟩)
            go_roundw
            case rel => exact ⟨j + 1, u + x2, v + x3, by omega, hnx, by go_num, U1, jC, js⟩
            case measure => (simp only [intOf]; omega)
          · have f1 : (x1 == (h : Int)) = false := by simpa using hc1
            go_wp2_with fail
            clear hpb hW9 i0 i1 cc0 cc1 cc2 cc3
            have hnx : Hid (u = (T.gto rs os k h (j + 1)).1 ∧ v = (T.gto rs os k h (j + 1)).2) := Lib.hid (by
              rw [HSU.out]
              unfold T.plus
              rw [if_neg (fun q => hc1 q.2)]
              exact hu.out)
            go_roundw
            case rel => exact ⟨j + 1, u, v, by omega, hnx, by go_num, U, kC, ks⟩
            case measure => (simp only [intOf]; omega)
        · have f0 : (x0 == (k : Int)) = false := by simpa using hc0
          go_wp2_with fail
          clear hpb hW9 i0 i1 cc0 cc1 cc2 cc3
          have hnx : Hid (u = (T.gto rs os k h (j + 1)).1 ∧ v = (T.gto rs os k h (j + 1)).2) := Lib.hid (by
            rw [HSU.out]
            unfold T.plus
            rw [if_neg (fun q => hc0 q.1)]
            exact hu.out)
          go_roundw
          case rel => exact ⟨j + 1, u, v, by omega, hnx, by go_num, U, kC, ks⟩
          case measure => (simp only [intOf]; omega)
      · skip
        have hje : j = os.length := by omega
        subst hje
        have dk : decide ((os.length : Int) < (os.length : Int)) = false := decide_eq_false (by omega)
        clear hlt hj
        obtain ⟨G, td, to⟩ := HG.out
        have hu2 := hu.out
        rw [T.gto_all] at hu2
        clear hu HTo HB
        rcases td.err with rfl | ⟨rfl, rfl, rfl⟩
        · skip
          have gn := td.gain HQ.out.1 HQ.out.2
          have bo := to.bd G HM.out.2 T.mom_0
          obtain ⟨b, lb, hb, b1, tb, bmin, HBc⟩ := Best_tells (aR := some ⟨gR, oR, none⟩) (nR := rs.length) (cR := cR) (aO := aO) (nO := os.length) (cO := cO) (aP := aP) (nP := nP) (cP := cP) G ⟨HQ.out.2.1, (show (h : Int) ≤ H by have := HQ.out.2.2; omega)⟩ (by obtain ⟨y, hy, _⟩ := td.yes.2.1; exact ⟨y, hy⟩)
          have bb := tb.bd G (T.mom_in ⟨by omega, by omega⟩ ⟨HQ.out.2.1, (show (h : Int) ≤ H by have := HQ.out.2.2; omega)⟩) T.mom_0
          obtain ⟨m1, m2⟩ := bmin k lo ho (by have := HQ.out.1.2; omega) to
          have HBy := Lib.hid (fun w' (u : Up w w') => HBc w' (HI.out _ u) (HO.out _ u) (HP.out _ u))
          have Cp := Lib.hid (fun w' (u : Up w w') => Offset_tells G (show 0 ≤ (b : Int) ∧ (b : Int) < rs.length from ⟨by omega, by omega⟩) ⟨HQ.out.2.1, (show (h : Int) ≤ H by have := HQ.out.2.2; omega)⟩ tb (HI.out _ u) (HO.out _ u) (HP.out _ u))
          have HWi := Lib.hid (fun w => show Calls Try.prog 36 #[SpV ld hd, SpV u v] w fun e w' => e = .returned (.bool true) ∧ Up w w' by rw [← decide_eq_true (show u ≤ ld ∧ hd ≤ v by rw [hu2.1, hu2.2]; exact gn)]; exact B_Within_any _ _ _ _ w)
          have z2 : IntKind.i64.wrap (ho - lo) = ho - lo := IntWalk.i64_in _ (by omega)
          have z3 : IntKind.i64.wrap (hb - lb) = hb - lb := IntWalk.i64_in _ (by omega)
          have n1 : ¬ ho - lo < hb - lb := by omega
          have n1' : decide (ho - lo < hb - lb) = false := decide_eq_false n1
          have hkb : (k < b ∧ (ho - lo == hb - lb) = false ∧ ((k : Int) < (b : Int)) ∧ decide ((k : Int) < (b : Int)) = true) ∨ (¬ (k : Int) < (b : Int) ∧ decide ((k : Int) < (b : Int)) = false) := by
            by_cases c : k < b
            · have := m2 c
              exact .inl ⟨c, by rw [beq_eq_false_iff_ne]; omega, by omega, decide_eq_true (by omega)⟩
            · exact .inr ⟨by omega, decide_eq_false (by omega)⟩
          have HY := Lib.hid (fun (o6 : os.length < 6) => And.intro (T.good_snoc G HQ.out.1 HQ.out.2 o6) (And.intro (td.move (T.good_snoc G HQ.out.1 HQ.out.2 o6) T.tr_zero HM.out.1 HM.out.2) (to.move (T.good_snoc G HQ.out.1 HQ.out.2 o6) T.tr_zero HM.out.2 T.mom_0)))
          clear td to tb bmin HBc bo bb m1 m2 gn hu2 HG G
          rcases hkb with ⟨_, f1, f2, f3⟩ | ⟨f2, f3⟩
          · skip
            go_wp2_with fail
            refine (Cd.out _ U).mono ?_
            rintro e x301 ⟨rfl, u302⟩
            replace U := U.trans u302
            replace kC := u302.blk kC
            replace ks := u302.blk ks
            clear u302 
            have dkCkd := blk_lt kC
            have dkskd := blk_lt ks
            have gkd := U.size
            have kd := blk_new x301 (.cells #[.int .i64 ld, .int .i64 hd] 34) _ rfl
            replace kC := blk_keep (.cells #[.int .i64 ld, .int .i64 hd] 34) kC
            replace ks := blk_keep (.cells #[.int .i64 ld, .int .i64 hd] 34) ks
            replace U := U.alloc (.cells #[.int .i64 ld, .int .i64 hd] 34)
            obtain ⟨pkd, hpkd⟩ : ∃ z, x301.heap.size = z := ⟨_, rfl⟩
            obtain ⟨W303, hW303⟩ : ∃ z, x301.alloc (.cells #[.int .i64 ld, .int .i64 hd] 34) = z := ⟨_, rfl⟩
            rw [hpkd] at kd dkCkd dkskd gkd
            rw [hW303] at kd U kC ks
            go_wp2_with fail
            clear hpkd hW303
            refine (Co.out _ U).mono ?_
            rintro e x304 ⟨rfl, u305⟩
            replace U := U.trans u305
            replace kC := u305.blk kC
            replace ks := u305.blk ks
            replace kd := u305.blk kd
            clear u305 
            have dkCko := blk_lt kC
            have dksko := blk_lt ks
            have dkdko := blk_lt kd
            have gko := U.size
            have ko := blk_new x304 (.cells #[.int .i64 lo, .int .i64 ho] 34) _ rfl
            replace kC := blk_keep (.cells #[.int .i64 lo, .int .i64 ho] 34) kC
            replace ks := blk_keep (.cells #[.int .i64 lo, .int .i64 ho] 34) ks
            replace kd := blk_keep (.cells #[.int .i64 lo, .int .i64 ho] 34) kd
            replace U := U.alloc (.cells #[.int .i64 lo, .int .i64 ho] 34)
            obtain ⟨pko, hpko⟩ : ∃ z, x304.heap.size = z := ⟨_, rfl⟩
            obtain ⟨W306, hW306⟩ : ∃ z, x304.alloc (.cells #[.int .i64 lo, .int .i64 ho] 34) = z := ⟨_, rfl⟩
            rw [hpko] at ko dkCko dksko dkdko gko
            rw [hW306] at ko U kC ks kd
            go_wp2_with fail
            clear hpko hW306
            refine (HBy.out _ U).mono ?_
            rintro e x307 ⟨rfl, u308⟩
            replace U := U.trans u308
            replace kC := u308.blk kC
            replace ks := u308.blk ks
            replace kd := u308.blk kd
            replace ko := u308.blk ko
            clear u308 
            go_wp2_with fail
            refine (Cp.out _ U).mono ?_
            rintro e x309 ⟨rfl, u310⟩
            replace U := U.trans u310
            replace kC := u310.blk kC
            replace ks := u310.blk ks
            replace kd := u310.blk kd
            replace ko := u310.blk ko
            clear u310 
            have dkCkp := blk_lt kC
            have dkskp := blk_lt ks
            have dkdkp := blk_lt kd
            have dkokp := blk_lt ko
            have gkp := U.size
            have kp := blk_new x309 (.cells #[.int .i64 lb, .int .i64 hb] 34) _ rfl
            replace kC := blk_keep (.cells #[.int .i64 lb, .int .i64 hb] 34) kC
            replace ks := blk_keep (.cells #[.int .i64 lb, .int .i64 hb] 34) ks
            replace kd := blk_keep (.cells #[.int .i64 lb, .int .i64 hb] 34) kd
            replace ko := blk_keep (.cells #[.int .i64 lb, .int .i64 hb] 34) ko
            replace U := U.alloc (.cells #[.int .i64 lb, .int .i64 hb] 34)
            obtain ⟨pkp, hpkp⟩ : ∃ z, x309.heap.size = z := ⟨_, rfl⟩
            obtain ⟨W311, hW311⟩ : ∃ z, x309.alloc (.cells #[.int .i64 lb, .int .i64 hb] 34) = z := ⟨_, rfl⟩
            rw [hpkp] at kp dkCkp dkskp dkdkp dkokp gkp
            rw [hW311] at kp U kC ks kd ko
            go_wp2_with fail
            clear hpkp hW311
            refine (HWi.out _).mono ?_
            rintro e x312 ⟨rfl, u313⟩
            replace U := U.trans u313
            replace kC := u313.blk kC
            replace ks := u313.blk ks
            replace kd := u313.blk kd
            replace ko := u313.blk ko
            replace kp := u313.blk kp
            clear u313 
            by_cases o6 : os.length = 6
            · skip
              have d6 : ((os.length : Int) == 6) = true := by rw [beq_iff_eq]; omega
              go_wp2_with fail
              refine (HW.out _).mono ?_
              rintro e x364 ⟨rfl, u365⟩
              replace U := U.trans u365
              replace kC := u365.blk kC
              replace ks := u365.blk ks
              replace kd := u365.blk kd
              replace ko := u365.blk ko
              replace kp := u365.blk kp
              clear u365 
              go_wp2
              go_ret
              exact ⟨rfl, U⟩
            · skip
              have d6 : ((os.length : Int) == 6) = false := by rw [beq_eq_false_iff_ne]; omega
              obtain ⟨G', td', to'⟩ := HY.out (by omega)
              have i0 := kC
              have i1 := ko
              have i2 := kp
              have i3 := ks
              clear HY kp ks
              have dkCkx := blk_lt kC
              have dkdkx := blk_lt kd
              have dkokx := blk_lt ko
              have gkx := U.size
              have kx := blk_new x312 (.cells #[.int .i64 H, .slice (some ⟨gR, oR, none⟩) rs.length cR, .slice aO os.length cO, .slice aP nP cP] 26) _ rfl
              replace kC := blk_keep (.cells #[.int .i64 H, .slice (some ⟨gR, oR, none⟩) rs.length cR, .slice aO os.length cO, .slice aP nP cP] 26) kC
              replace kd := blk_keep (.cells #[.int .i64 H, .slice (some ⟨gR, oR, none⟩) rs.length cR, .slice aO os.length cO, .slice aP nP cP] 26) kd
              replace ko := blk_keep (.cells #[.int .i64 H, .slice (some ⟨gR, oR, none⟩) rs.length cR, .slice aO os.length cO, .slice aP nP cP] 26) ko
              replace U := U.alloc (.cells #[.int .i64 H, .slice (some ⟨gR, oR, none⟩) rs.length cR, .slice aO os.length cO, .slice aP nP cP] 26)
              obtain ⟨pkx, hpkx⟩ : ∃ z, x312.heap.size = z := ⟨_, rfl⟩
              obtain ⟨W384, hW384⟩ : ∃ z, x312.alloc (.cells #[.int .i64 H, .slice (some ⟨gR, oR, none⟩) rs.length cR, .slice aO os.length cO, .slice aP nP cP] 26) = z := ⟨_, rfl⟩
              rw [hpkx] at kx dkCkx dkdkx dkokx gkx
              rw [hW384] at kx U kC kd ko
              skip
              have dkx := blk_lt kx
              have own0 := World.ownsRow_lit (base := W384.heap.size) (e := 63) (size := 4) W384 #[] 0 (Nat.le_refl _) (by unfold maxLen; omega) rfl
              obtain ⟨pe, hpe⟩ : ∃ z, W384.heap.size = z := ⟨_, rfl⟩
              have IO1 := HO.out _ (U.alloc (.cells #[] 63))
              have U1 := U.alloc (.cells #[] 63)
              have jC := blk_keep (.cells #[] 63) kC
              have jx := blk_keep (.cells #[] 63) kx
              have jd := blk_keep (.cells #[] 63) kd
              have jo := blk_keep (.cells #[] 63) ko
              have lq := blk_lt kC
              have lx := blk_lt kx
              have ld' := blk_lt kd
              have lo' := blk_lt ko
              rw [hpe] at own0 lq lx ld' lo'
              have gw := U.size
              rw [hpe] at gw
              have hO := IO1.len
              go_wp2_with (first
                | (at_builtin; refine T.wpList_app (ys := []) T.elO rfl (.tmp 186) (.tmp 188) rfl IO1 rfl pe _ 0 rfl own0 (by omega) (by omega) (by simp [hpe]) ?_; intro v1 w1 own1 grow1; have rC := grown_blk grow1 jC (row_block own0 lq); have rx := grown_blk grow1 jx (row_block own0 lx); have rd := grown_blk grow1 jd (row_block own0 ld'); have ro := grown_blk grow1 jo (row_block own0 lo'); have U2 : Up w w1 := U1.grown grow1 (fun k e => by (have := row_base own0 k e; omega)); have IN := T.one_open w1 k h 0 0; have own1' := own1.alloc (.cells #[.int .i64 k, .int .i64 h, .int .i64 0, .int .i64 0] 63); have hb1 : pe ≤ w1.heap.size := (by have := grow1.size; simp [hpe] at this; omega))
                | (at_builtin; refine T.wpList_app T.elO rfl (.tmp 189) (.tmp 193) rfl IN rfl pe _ (0 + os.length) rfl own1' (by omega) (by simp) (by simp; omega) ?_; intro v2 w2 own2 grow2; rw [Nat.zero_add] at own2; have rx2 := grown_blk grow2 (blk_keep (.cells #[.int .i64 k, .int .i64 h, .int .i64 0, .int .i64 0] 63) rx) (row_block own1' lx); have rd2 := grown_blk grow2 (blk_keep (.cells #[.int .i64 k, .int .i64 h, .int .i64 0, .int .i64 0] 63) rd) (row_block own1' ld'); have ro2 := grown_blk grow2 (blk_keep (.cells #[.int .i64 k, .int .i64 h, .int .i64 0, .int .i64 0] 63) ro) (row_block own1' lo'); have U3 : Up w w2 := (U2.alloc (.cells #[.int .i64 k, .int .i64 h, .int .i64 0, .int .i64 0] 63)).grown grow2 (fun k e => by (have := row_base own1' k e; omega)); obtain ⟨a2, c2, rfl, hc2, hm2⟩ := row_val own2; have zx := frozB rx2; have x3 := blk_put rx2 2 (.slice a2 (os.length + 1) c2)))
              obtain ⟨W9, hW9⟩ : ∃ z, w2.setCell ⟨pkx, 2, none⟩ (.slice a2 (os.length + 1) c2) = z := ⟨_, rfl⟩
              have own3 : W9.ownsRow pe 63 4 (.slice a2 (os.length + 1) c2) (os.length + 1) (T.flat 4 T.encO (os ++ [((k : Int), (h : Int), (0 : Int), (0 : Int))])) := by
                rw [← hW9]
                exact row_other own2 (grown_set w2 pkx 2 _) (row_block own2 lx)
              have IO4 : Ops W9 (.slice a2 (os.length + 1) c2) (os ++ [((k : Int), (h : Int), (0 : Int), (0 : Int))]) := Tab.of_row own3 (by decide) (by omega)
              have U4 : Up w W9 := by rw [← hW9]; exact U3.set (p := ⟨pkx, 2, none⟩) (show w.heap.size ≤ pkx by omega) _
              have jx4 : mblk W9 pkx = some (.cells #[.int .i64 H, .slice (some ⟨gR, oR, none⟩) rs.length cR, .slice a2 (os.length + 1) c2, .slice aP nP cP] 26 (0, 0)) := by rw [← hW9]; exact x3
              have jd4 : mblk W9 pkd = some (.cells #[.int .i64 ld, .int .i64 hd] 34 (0, 0)) := by rw [← hW9, blk_set _ _ _ _ (by show pkd ≠ pkx; omega)]; exact rd2
              have jo4 : mblk W9 pko = some (.cells #[.int .i64 lo, .int .i64 ho] 34 (0, 0)) := by rw [← hW9, blk_set _ _ _ _ (by show pko ≠ pkx; omega)]; exact ro2
              rw [hW9]
              clear hW9 x3 zx rx2 rd2 ro2 own3 own2 U3 own1' IN own1 rC rx rd ro U2 U1 own0 jC jx jd jo IO1 kC kd ko kx i0 i1 i2 i3 U grow1 grow2 hc2 hm2
              have CD := Lib.hid (fun w' (u : Up W9 w') => Drift_tells G' HQ.out.1 ⟨HQ.out.2.1, (show (h : Int) ≤ H by have := HQ.out.2.2; omega)⟩ ⟨(show 0 ≤ (h : Int) + 1 by omega), (show (h : Int) + 1 ≤ H by have := HQ.out.2.2; omega)⟩ td' (HI.out _ (U4.trans u)) (IO4.up u) (HP.out _ (U4.trans u)))
              have CO := Lib.hid (fun w' (u : Up W9 w') => Offset_tells G' HQ.out.1 ⟨HQ.out.2.1, (show (h : Int) ≤ H by have := HQ.out.2.2; omega)⟩ to' (HI.out _ (U4.trans u)) (IO4.up u) (HP.out _ (U4.trans u)))
              have U := U4
              have Uz := Up.refl W9
              have kx := jx4
              have kd := jd4
              have ko := jo4
              clear U4 jx4 jd4 jo4 td' to' G' IO4
              refine (CD.out _ Uz).mono ?_
              rintro e x385 ⟨rfl, u386⟩
              replace U := U.trans u386
              replace kx := u386.blk kx
              replace kd := u386.blk kd
              replace ko := u386.blk ko
              replace Uz := Uz.trans u386
              clear u386 
              have dkxke := blk_lt kx
              have dkdke := blk_lt kd
              have dkoke := blk_lt ko
              have gke := U.size
              have ke := blk_new x385 (.cells #[.int .i64 ld, .int .i64 hd] 34) _ rfl
              replace kx := blk_keep (.cells #[.int .i64 ld, .int .i64 hd] 34) kx
              replace kd := blk_keep (.cells #[.int .i64 ld, .int .i64 hd] 34) kd
              replace ko := blk_keep (.cells #[.int .i64 ld, .int .i64 hd] 34) ko
              replace U := U.alloc (.cells #[.int .i64 ld, .int .i64 hd] 34)
              replace Uz := Uz.alloc (.cells #[.int .i64 ld, .int .i64 hd] 34)
              obtain ⟨pke, hpke⟩ : ∃ z, x385.heap.size = z := ⟨_, rfl⟩
              obtain ⟨W387, hW387⟩ : ∃ z, x385.alloc (.cells #[.int .i64 ld, .int .i64 hd] 34) = z := ⟨_, rfl⟩
              rw [hpke] at ke dkxke dkdke dkoke gke
              rw [hW387] at ke U kx kd ko Uz
              go_wp2_with fail
              clear hpke hW387
              refine (CO.out _ Uz).mono ?_
              rintro e x388 ⟨rfl, u389⟩
              replace U := U.trans u389
              replace kx := u389.blk kx
              replace kd := u389.blk kd
              replace ko := u389.blk ko
              replace ke := u389.blk ke
              replace Uz := Uz.trans u389
              clear u389 
              have dkxkf := blk_lt kx
              have dkdkf := blk_lt kd
              have dkokf := blk_lt ko
              have dkekf := blk_lt ke
              have gkf := U.size
              have kf := blk_new x388 (.cells #[.int .i64 lo, .int .i64 ho] 34) _ rfl
              replace kx := blk_keep (.cells #[.int .i64 lo, .int .i64 ho] 34) kx
              replace kd := blk_keep (.cells #[.int .i64 lo, .int .i64 ho] 34) kd
              replace ko := blk_keep (.cells #[.int .i64 lo, .int .i64 ho] 34) ko
              replace ke := blk_keep (.cells #[.int .i64 lo, .int .i64 ho] 34) ke
              replace U := U.alloc (.cells #[.int .i64 lo, .int .i64 ho] 34)
              replace Uz := Uz.alloc (.cells #[.int .i64 lo, .int .i64 ho] 34)
              obtain ⟨pkf, hpkf⟩ : ∃ z, x388.heap.size = z := ⟨_, rfl⟩
              obtain ⟨W390, hW390⟩ : ∃ z, x388.alloc (.cells #[.int .i64 lo, .int .i64 ho] 34) = z := ⟨_, rfl⟩
              rw [hpkf] at kf dkxkf dkdkf dkokf dkekf gkf
              rw [hW390] at kf U kx kd ko ke Uz
              go_wp2_with fail
              clear hpkf hW390
              refine (HW.out _).mono ?_
              rintro e x391 ⟨rfl, u392⟩
              replace U := U.trans u392
              replace kx := u392.blk kx
              replace kd := u392.blk kd
              replace ko := u392.blk ko
              replace ke := u392.blk ke
              replace kf := u392.blk kf
              replace Uz := Uz.trans u392
              clear u392 
              go_wp2
              go_ret
              exact ⟨rfl, U⟩
          · skip
            go_wp2_with fail
            refine (Cd.out _ U).mono ?_
            rintro e x301 ⟨rfl, u302⟩
            replace U := U.trans u302
            replace kC := u302.blk kC
            replace ks := u302.blk ks
            clear u302 
            have dkCkd := blk_lt kC
            have dkskd := blk_lt ks
            have gkd := U.size
            have kd := blk_new x301 (.cells #[.int .i64 ld, .int .i64 hd] 34) _ rfl
            replace kC := blk_keep (.cells #[.int .i64 ld, .int .i64 hd] 34) kC
            replace ks := blk_keep (.cells #[.int .i64 ld, .int .i64 hd] 34) ks
            replace U := U.alloc (.cells #[.int .i64 ld, .int .i64 hd] 34)
            obtain ⟨pkd, hpkd⟩ : ∃ z, x301.heap.size = z := ⟨_, rfl⟩
            obtain ⟨W303, hW303⟩ : ∃ z, x301.alloc (.cells #[.int .i64 ld, .int .i64 hd] 34) = z := ⟨_, rfl⟩
            rw [hpkd] at kd dkCkd dkskd gkd
            rw [hW303] at kd U kC ks
            go_wp2_with fail
            clear hpkd hW303
            refine (Co.out _ U).mono ?_
            rintro e x304 ⟨rfl, u305⟩
            replace U := U.trans u305
            replace kC := u305.blk kC
            replace ks := u305.blk ks
            replace kd := u305.blk kd
            clear u305 
            have dkCko := blk_lt kC
            have dksko := blk_lt ks
            have dkdko := blk_lt kd
            have gko := U.size
            have ko := blk_new x304 (.cells #[.int .i64 lo, .int .i64 ho] 34) _ rfl
            replace kC := blk_keep (.cells #[.int .i64 lo, .int .i64 ho] 34) kC
            replace ks := blk_keep (.cells #[.int .i64 lo, .int .i64 ho] 34) ks
            replace kd := blk_keep (.cells #[.int .i64 lo, .int .i64 ho] 34) kd
            replace U := U.alloc (.cells #[.int .i64 lo, .int .i64 ho] 34)
            obtain ⟨pko, hpko⟩ : ∃ z, x304.heap.size = z := ⟨_, rfl⟩
            obtain ⟨W306, hW306⟩ : ∃ z, x304.alloc (.cells #[.int .i64 lo, .int .i64 ho] 34) = z := ⟨_, rfl⟩
            rw [hpko] at ko dkCko dksko dkdko gko
            rw [hW306] at ko U kC ks kd
            go_wp2_with fail
            clear hpko hW306
            refine (HBy.out _ U).mono ?_
            rintro e x307 ⟨rfl, u308⟩
            replace U := U.trans u308
            replace kC := u308.blk kC
            replace ks := u308.blk ks
            replace kd := u308.blk kd
            replace ko := u308.blk ko
            clear u308 
            go_wp2_with fail
            refine (Cp.out _ U).mono ?_
            rintro e x309 ⟨rfl, u310⟩
            replace U := U.trans u310
            replace kC := u310.blk kC
            replace ks := u310.blk ks
            replace kd := u310.blk kd
            replace ko := u310.blk ko
            clear u310 
            have dkCkp := blk_lt kC
            have dkskp := blk_lt ks
            have dkdkp := blk_lt kd
            have dkokp := blk_lt ko
            have gkp := U.size
            have kp := blk_new x309 (.cells #[.int .i64 lb, .int .i64 hb] 34) _ rfl
            replace kC := blk_keep (.cells #[.int .i64 lb, .int .i64 hb] 34) kC
            replace ks := blk_keep (.cells #[.int .i64 lb, .int .i64 hb] 34) ks
            replace kd := blk_keep (.cells #[.int .i64 lb, .int .i64 hb] 34) kd
            replace ko := blk_keep (.cells #[.int .i64 lb, .int .i64 hb] 34) ko
            replace U := U.alloc (.cells #[.int .i64 lb, .int .i64 hb] 34)
            obtain ⟨pkp, hpkp⟩ : ∃ z, x309.heap.size = z := ⟨_, rfl⟩
            obtain ⟨W311, hW311⟩ : ∃ z, x309.alloc (.cells #[.int .i64 lb, .int .i64 hb] 34) = z := ⟨_, rfl⟩
            rw [hpkp] at kp dkCkp dkskp dkdkp dkokp gkp
            rw [hW311] at kp U kC ks kd ko
            go_wp2_with fail
            clear hpkp hW311
            refine (HWi.out _).mono ?_
            rintro e x312 ⟨rfl, u313⟩
            replace U := U.trans u313
            replace kC := u313.blk kC
            replace ks := u313.blk ks
            replace kd := u313.blk kd
            replace ko := u313.blk ko
            replace kp := u313.blk kp
            clear u313 
            by_cases o6 : os.length = 6
            · skip
              have d6 : ((os.length : Int) == 6) = true := by rw [beq_iff_eq]; omega
              go_wp2_with fail
              refine (HW.out _).mono ?_
              rintro e x364 ⟨rfl, u365⟩
              replace U := U.trans u365
              replace kC := u365.blk kC
              replace ks := u365.blk ks
              replace kd := u365.blk kd
              replace ko := u365.blk ko
              replace kp := u365.blk kp
              clear u365 
              go_wp2
              go_ret
              exact ⟨rfl, U⟩
            · skip
              have d6 : ((os.length : Int) == 6) = false := by rw [beq_eq_false_iff_ne]; omega
              obtain ⟨G', td', to'⟩ := HY.out (by omega)
              have i0 := kC
              have i1 := ko
              have i2 := kp
              have i3 := ks
              clear HY kp ks
              have dkCkx := blk_lt kC
              have dkdkx := blk_lt kd
              have dkokx := blk_lt ko
              have gkx := U.size
              have kx := blk_new x312 (.cells #[.int .i64 H, .slice (some ⟨gR, oR, none⟩) rs.length cR, .slice aO os.length cO, .slice aP nP cP] 26) _ rfl
              replace kC := blk_keep (.cells #[.int .i64 H, .slice (some ⟨gR, oR, none⟩) rs.length cR, .slice aO os.length cO, .slice aP nP cP] 26) kC
              replace kd := blk_keep (.cells #[.int .i64 H, .slice (some ⟨gR, oR, none⟩) rs.length cR, .slice aO os.length cO, .slice aP nP cP] 26) kd
              replace ko := blk_keep (.cells #[.int .i64 H, .slice (some ⟨gR, oR, none⟩) rs.length cR, .slice aO os.length cO, .slice aP nP cP] 26) ko
              replace U := U.alloc (.cells #[.int .i64 H, .slice (some ⟨gR, oR, none⟩) rs.length cR, .slice aO os.length cO, .slice aP nP cP] 26)
              obtain ⟨pkx, hpkx⟩ : ∃ z, x312.heap.size = z := ⟨_, rfl⟩
              obtain ⟨W384, hW384⟩ : ∃ z, x312.alloc (.cells #[.int .i64 H, .slice (some ⟨gR, oR, none⟩) rs.length cR, .slice aO os.length cO, .slice aP nP cP] 26) = z := ⟨_, rfl⟩
              rw [hpkx] at kx dkCkx dkdkx dkokx gkx
              rw [hW384] at kx U kC kd ko
              skip
              have dkx := blk_lt kx
              have own0 := World.ownsRow_lit (base := W384.heap.size) (e := 63) (size := 4) W384 #[] 0 (Nat.le_refl _) (by unfold maxLen; omega) rfl
              obtain ⟨pe, hpe⟩ : ∃ z, W384.heap.size = z := ⟨_, rfl⟩
              have IO1 := HO.out _ (U.alloc (.cells #[] 63))
              have U1 := U.alloc (.cells #[] 63)
              have jC := blk_keep (.cells #[] 63) kC
              have jx := blk_keep (.cells #[] 63) kx
              have jd := blk_keep (.cells #[] 63) kd
              have jo := blk_keep (.cells #[] 63) ko
              have lq := blk_lt kC
              have lx := blk_lt kx
              have ld' := blk_lt kd
              have lo' := blk_lt ko
              rw [hpe] at own0 lq lx ld' lo'
              have gw := U.size
              rw [hpe] at gw
              have hO := IO1.len
              go_wp2_with (first
                | (at_builtin; refine T.wpList_app (ys := []) T.elO rfl (.tmp 186) (.tmp 188) rfl IO1 rfl pe _ 0 rfl own0 (by omega) (by omega) (by simp [hpe]) ?_; intro v1 w1 own1 grow1; have rC := grown_blk grow1 jC (row_block own0 lq); have rx := grown_blk grow1 jx (row_block own0 lx); have rd := grown_blk grow1 jd (row_block own0 ld'); have ro := grown_blk grow1 jo (row_block own0 lo'); have U2 : Up w w1 := U1.grown grow1 (fun k e => by (have := row_base own0 k e; omega)); have IN := T.one_open w1 k h 0 0; have own1' := own1.alloc (.cells #[.int .i64 k, .int .i64 h, .int .i64 0, .int .i64 0] 63); have hb1 : pe ≤ w1.heap.size := (by have := grow1.size; simp [hpe] at this; omega))
                | (at_builtin; refine T.wpList_app T.elO rfl (.tmp 189) (.tmp 193) rfl IN rfl pe _ (0 + os.length) rfl own1' (by omega) (by simp) (by simp; omega) ?_; intro v2 w2 own2 grow2; rw [Nat.zero_add] at own2; have rx2 := grown_blk grow2 (blk_keep (.cells #[.int .i64 k, .int .i64 h, .int .i64 0, .int .i64 0] 63) rx) (row_block own1' lx); have rd2 := grown_blk grow2 (blk_keep (.cells #[.int .i64 k, .int .i64 h, .int .i64 0, .int .i64 0] 63) rd) (row_block own1' ld'); have ro2 := grown_blk grow2 (blk_keep (.cells #[.int .i64 k, .int .i64 h, .int .i64 0, .int .i64 0] 63) ro) (row_block own1' lo'); have U3 : Up w w2 := (U2.alloc (.cells #[.int .i64 k, .int .i64 h, .int .i64 0, .int .i64 0] 63)).grown grow2 (fun k e => by (have := row_base own1' k e; omega)); obtain ⟨a2, c2, rfl, hc2, hm2⟩ := row_val own2; have zx := frozB rx2; have x3 := blk_put rx2 2 (.slice a2 (os.length + 1) c2)))
              obtain ⟨W9, hW9⟩ : ∃ z, w2.setCell ⟨pkx, 2, none⟩ (.slice a2 (os.length + 1) c2) = z := ⟨_, rfl⟩
              have own3 : W9.ownsRow pe 63 4 (.slice a2 (os.length + 1) c2) (os.length + 1) (T.flat 4 T.encO (os ++ [((k : Int), (h : Int), (0 : Int), (0 : Int))])) := by
                rw [← hW9]
                exact row_other own2 (grown_set w2 pkx 2 _) (row_block own2 lx)
              have IO4 : Ops W9 (.slice a2 (os.length + 1) c2) (os ++ [((k : Int), (h : Int), (0 : Int), (0 : Int))]) := Tab.of_row own3 (by decide) (by omega)
              have U4 : Up w W9 := by rw [← hW9]; exact U3.set (p := ⟨pkx, 2, none⟩) (show w.heap.size ≤ pkx by omega) _
              have jx4 : mblk W9 pkx = some (.cells #[.int .i64 H, .slice (some ⟨gR, oR, none⟩) rs.length cR, .slice a2 (os.length + 1) c2, .slice aP nP cP] 26 (0, 0)) := by rw [← hW9]; exact x3
              have jd4 : mblk W9 pkd = some (.cells #[.int .i64 ld, .int .i64 hd] 34 (0, 0)) := by rw [← hW9, blk_set _ _ _ _ (by show pkd ≠ pkx; omega)]; exact rd2
              have jo4 : mblk W9 pko = some (.cells #[.int .i64 lo, .int .i64 ho] 34 (0, 0)) := by rw [← hW9, blk_set _ _ _ _ (by show pko ≠ pkx; omega)]; exact ro2
              rw [hW9]
              clear hW9 x3 zx rx2 rd2 ro2 own3 own2 U3 own1' IN own1 rC rx rd ro U2 U1 own0 jC jx jd jo IO1 kC kd ko kx i0 i1 i2 i3 U grow1 grow2 hc2 hm2
              have CD := Lib.hid (fun w' (u : Up W9 w') => Drift_tells G' HQ.out.1 ⟨HQ.out.2.1, (show (h : Int) ≤ H by have := HQ.out.2.2; omega)⟩ ⟨(show 0 ≤ (h : Int) + 1 by omega), (show (h : Int) + 1 ≤ H by have := HQ.out.2.2; omega)⟩ td' (HI.out _ (U4.trans u)) (IO4.up u) (HP.out _ (U4.trans u)))
              have CO := Lib.hid (fun w' (u : Up W9 w') => Offset_tells G' HQ.out.1 ⟨HQ.out.2.1, (show (h : Int) ≤ H by have := HQ.out.2.2; omega)⟩ to' (HI.out _ (U4.trans u)) (IO4.up u) (HP.out _ (U4.trans u)))
              have U := U4
              have Uz := Up.refl W9
              have kx := jx4
              have kd := jd4
              have ko := jo4
              clear U4 jx4 jd4 jo4 td' to' G' IO4
              refine (CD.out _ Uz).mono ?_
              rintro e x385 ⟨rfl, u386⟩
              replace U := U.trans u386
              replace kx := u386.blk kx
              replace kd := u386.blk kd
              replace ko := u386.blk ko
              replace Uz := Uz.trans u386
              clear u386 
              have dkxke := blk_lt kx
              have dkdke := blk_lt kd
              have dkoke := blk_lt ko
              have gke := U.size
              have ke := blk_new x385 (.cells #[.int .i64 ld, .int .i64 hd] 34) _ rfl
              replace kx := blk_keep (.cells #[.int .i64 ld, .int .i64 hd] 34) kx
              replace kd := blk_keep (.cells #[.int .i64 ld, .int .i64 hd] 34) kd
              replace ko := blk_keep (.cells #[.int .i64 ld, .int .i64 hd] 34) ko
              replace U := U.alloc (.cells #[.int .i64 ld, .int .i64 hd] 34)
              replace Uz := Uz.alloc (.cells #[.int .i64 ld, .int .i64 hd] 34)
              obtain ⟨pke, hpke⟩ : ∃ z, x385.heap.size = z := ⟨_, rfl⟩
              obtain ⟨W387, hW387⟩ : ∃ z, x385.alloc (.cells #[.int .i64 ld, .int .i64 hd] 34) = z := ⟨_, rfl⟩
              rw [hpke] at ke dkxke dkdke dkoke gke
              rw [hW387] at ke U kx kd ko Uz
              go_wp2_with fail
              clear hpke hW387
              refine (CO.out _ Uz).mono ?_
              rintro e x388 ⟨rfl, u389⟩
              replace U := U.trans u389
              replace kx := u389.blk kx
              replace kd := u389.blk kd
              replace ko := u389.blk ko
              replace ke := u389.blk ke
              replace Uz := Uz.trans u389
              clear u389 
              have dkxkf := blk_lt kx
              have dkdkf := blk_lt kd
              have dkokf := blk_lt ko
              have dkekf := blk_lt ke
              have gkf := U.size
              have kf := blk_new x388 (.cells #[.int .i64 lo, .int .i64 ho] 34) _ rfl
              replace kx := blk_keep (.cells #[.int .i64 lo, .int .i64 ho] 34) kx
              replace kd := blk_keep (.cells #[.int .i64 lo, .int .i64 ho] 34) kd
              replace ko := blk_keep (.cells #[.int .i64 lo, .int .i64 ho] 34) ko
              replace ke := blk_keep (.cells #[.int .i64 lo, .int .i64 ho] 34) ke
              replace U := U.alloc (.cells #[.int .i64 lo, .int .i64 ho] 34)
              replace Uz := Uz.alloc (.cells #[.int .i64 lo, .int .i64 ho] 34)
              obtain ⟨pkf, hpkf⟩ : ∃ z, x388.heap.size = z := ⟨_, rfl⟩
              obtain ⟨W390, hW390⟩ : ∃ z, x388.alloc (.cells #[.int .i64 lo, .int .i64 ho] 34) = z := ⟨_, rfl⟩
              rw [hpkf] at kf dkxkf dkdkf dkokf dkekf gkf
              rw [hW390] at kf U kx kd ko ke Uz
              go_wp2_with fail
              clear hpkf hW390
              refine (HW.out _).mono ?_
              rintro e x391 ⟨rfl, u392⟩
              replace U := U.trans u392
              replace kx := u392.blk kx
              replace kd := u392.blk kd
              replace ko := u392.blk ko
              replace ke := u392.blk ke
              replace kf := u392.blk kf
              replace Uz := Uz.trans u392
              clear u392 
              go_wp2
              go_ret
              exact ⟨rfl, U⟩
        · skip
          obtain ⟨rfl, rfl⟩ : lo = 0 ∧ ho = 0 := by
            have := to.no (by decide)
            exact ⟨this.2.1, this.2.2.1⟩
          have HBn := Lib.hid (fun w' (u : Up w w') => Best_none G ⟨HQ.out.2.1, (show (h : Int) ≤ H by have := HQ.out.2.2; omega)⟩ (to.no (by decide)).2.2.2 (HI.out _ u) (HO.out _ u) (HP.out _ u))
          clear td to G hu2 HG HM
          go_wp2_with fail
          refine (Cd.out _ U).mono ?_
          rintro e x301 ⟨rfl, u302⟩
          replace U := U.trans u302
          replace kC := u302.blk kC
          replace ks := u302.blk ks
          clear u302 
          have dkCkd := blk_lt kC
          have dkskd := blk_lt ks
          have gkd := U.size
          have kd := blk_new x301 (.cells #[.int .i64 0, .int .i64 0] 34) _ rfl
          replace kC := blk_keep (.cells #[.int .i64 0, .int .i64 0] 34) kC
          replace ks := blk_keep (.cells #[.int .i64 0, .int .i64 0] 34) ks
          replace U := U.alloc (.cells #[.int .i64 0, .int .i64 0] 34)
          go_wp2_with fail
          obtain ⟨pkd, hpkd⟩ : ∃ z, x301.heap.size = z := ⟨_, rfl⟩
          obtain ⟨W303, hW303⟩ : ∃ z, x301.alloc (.cells #[.int .i64 0, .int .i64 0] 34) = z := ⟨_, rfl⟩
          rw [hpkd] at kd dkCkd dkskd gkd
          rw [hW303] at kd U kC ks
          rw [hW303, hpkd]
          go_wp2_with fail
          clear hpkd hW303
          refine (Co.out _ U).mono ?_
          rintro e x304 ⟨rfl, u305⟩
          replace U := U.trans u305
          replace kC := u305.blk kC
          replace ks := u305.blk ks
          replace kd := u305.blk kd
          clear u305 
          have dkCko := blk_lt kC
          have dksko := blk_lt ks
          have dkdko := blk_lt kd
          have gko := U.size
          have ko := blk_new x304 (.cells #[.int .i64 0, .int .i64 0] 34) _ rfl
          replace kC := blk_keep (.cells #[.int .i64 0, .int .i64 0] 34) kC
          replace ks := blk_keep (.cells #[.int .i64 0, .int .i64 0] 34) ks
          replace kd := blk_keep (.cells #[.int .i64 0, .int .i64 0] 34) kd
          replace U := U.alloc (.cells #[.int .i64 0, .int .i64 0] 34)
          go_wp2_with fail
          obtain ⟨pko, hpko⟩ : ∃ z, x304.heap.size = z := ⟨_, rfl⟩
          obtain ⟨W306, hW306⟩ : ∃ z, x304.alloc (.cells #[.int .i64 0, .int .i64 0] 34) = z := ⟨_, rfl⟩
          rw [hpko] at ko dkCko dksko dkdko gko
          rw [hW306] at ko U kC ks kd
          rw [hW306, hpko]
          go_wp2_with fail
          clear hpko hW306
          refine (HBn.out _ U).mono ?_
          rintro e x307 ⟨rfl, u308⟩
          replace U := U.trans u308
          replace kC := u308.blk kC
          replace ks := u308.blk ks
          replace kd := u308.blk kd
          replace ko := u308.blk ko
          clear u308 
          go_wp2_with fail
          refine (HW.out _).mono ?_
          rintro e x309 ⟨rfl, u310⟩
          replace U := U.trans u310
          replace kC := u310.blk kC
          replace ks := u310.blk ks
          replace kd := u310.blk kd
          replace ko := u310.blk ko
          clear u310 
          go_wp2
          go_ret
          exact ⟨rfl, U⟩
end

end Go.Proofs.Ytoipfakcmnjenaa
