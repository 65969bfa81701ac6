import Derived.Test.YtonklhfpjooheaaApW
import Derived.Test.YtonklhfpjooheaaTeR
import Derived.Test.YtonklhfpjooheaaLsL
import Derived.Test.YtonklhfpjooheaaHeQ
/- The law BeatMore. -/
namespace Go.Proofs.Ytonklhfpjooheaa
open Go.RowKit Go.Shelf
attribute [local go_sem] Oper.semAt_some

section
variable {aR aO aP : Option Addr} {nR cR nO cO nP cP : Nat} {rs : T.LR} {os : T.LO} {ps : T.LP}
set_option maxRecDepth 100000 in
set_option maxHeartbeats 8000000 in
set_option linter.unusedSimpArgs false in
theorem beatMore_any {Hi n0 n1 m0 m1 m2 m3 m4 : Int} {w : World} (I : Sps w (.slice aR nR cR) rs) (IO : Ops w (.slice aO nO cO) os) (IP : Prs w (.slice aP nP cP) ps) :
    Calls Try.prog 9 #[ClV Hi (.slice aR nR cR) (.slice aO nO cO) (.slice aP nP cP), .agg #[.int .i64 m0, .int .i64 m1, .int .i64 m2, .int .i64 m3, .int .i64 m4], .agg #[.int .i64 n0, .int .i64 n1]] w fun e w' => e = .returned (.bool true) ∧ Up w w' := by
  have U := (((Up.refl w).alloc (.cells #[.int .i64 Hi, .slice aR nR cR, .slice aO nO cO, .slice aP nP cP] 26)).alloc (.cells #[.int .i64 m0, .int .i64 m1, .int .i64 m2, .int .i64 m3, .int .i64 m4] 61)).alloc (.cells #[.int .i64 n0, .int .i64 n1] 28)
  have HW := Lib.hid (fun w => l_works_any w)
  cases hv : T.valid Hi rs os ps with
  | false =>
    have HS := Lib.hid (fun w' (u : Up w w') => l_sound_no (I.up u) (IO.up u) (IP.up u) hv)
    clear hv I IO IP
    go_enter Try.func9, Try.ntmps9
    go_wp2_with fail
    refine (HS.out _ U).mono ?_
    rintro e w1 ⟨rfl, u1⟩
    go_wp2_with fail
    refine (HW.out _).mono ?_
    rintro e w2 ⟨rfl, u2⟩
    go_wp2
    go_ret
    exact ⟨rfl, (U.trans u1).trans u2⟩
  | true =>
    obtain ⟨H, rfl⟩ := T.valid_nat hv
    have G := T.valid_good.1 hv
    have hn := I.len
    subst hn
    have hno := IO.len
    subst hno
    have hnp := IP.len
    subst hnp
    have q1 := G.h1
    have q2 := G.h2
    have q3 := G.r1
    have q4 := G.r2
    have q5 := G.o6
    have q6 := G.p14
    have HS := Lib.hid (fun w' (u : Up w w') => l_sound_yes (I.up u) (IO.up u) (IP.up u) hv)
    have HI := Lib.hid (fun w' (u : Up w w') => I.up u)
    have HO := Lib.hid (fun w' (u : Up w w') => IO.up u)
    have HP := Lib.hid (fun w' (u : Up w w') => IP.up u)
    have HRk := Lib.hid (fun w => B_Rest_any n0 (rs.length : Int) w (by omega) (by omega))
    have ak := Int.emod_nonneg n0 (b := (rs.length : Int)) (by omega)
    have bk := Int.emod_lt_of_pos n0 (b := (rs.length : Int)) (by omega)
    generalize n0 % (rs.length : Int) = k at *
    have HRh := Lib.hid (fun w => B_Rest_any n1 ((H : Int) + 1) w (by omega) (by omega))
    have ah := Int.emod_nonneg n1 (b := ((H : Int) + 1)) (by omega)
    have bh := Int.emod_lt_of_pos n1 (b := ((H : Int) + 1)) (by omega)
    generalize n1 % ((H : Int) + 1) = h at *
    have wH : IntKind.i64.wrap ((H : Int) + 1) = (H : Int) + 1 := IntWalk.i64_in _ (by omega)
    have wO : IntKind.i64.wrap ((os.length : Int) - 1) = (os.length : Int) - 1 := IntWalk.i64_in _ (by omega)
    have wP : IntKind.i64.wrap ((ps.length : Int) - 1) = (ps.length : Int) - 1 := IntWalk.i64_in _ (by omega)
    have hmx : Try.prog.follows .mixedOrders = true := by kernel_rfl
    have mk := T.mom_in (n := rs.length) (H := H) (k := k) (h := h) ⟨ak, bk⟩ ⟨ah, by omega⟩
    obtain ⟨ls, hs, es, ts⟩ := T.Tells.ex (m1 := (k, h)) (m2 := (-1, 0)) G mk T.mom_0
    have Cs := Lib.hid (fun w' (u : Up w w') => Offset_tells G ⟨ak, bk⟩ ⟨ah, (show h ≤ (H : Int) by omega)⟩ ts (I.up u) (IO.up u) (IP.up u))
    have HQ := Lib.hid (And.intro (And.intro ak bk) (And.intro ah (show h ≤ (H : Int) by omega)))
    have HG := Lib.hid (And.intro G (And.intro ts mk))
    obtain ⟨lm, um, em, hm, Cm⟩ := Offset_more (aR := aR) (nR := rs.length) (cR := cR) ⟨ak, bk⟩ ⟨ah, (show h ≤ (H : Int) by omega)⟩ ts (m0, m1, m2, m3, m4)
    have HM := Lib.hid Cm
    have Hm := Lib.hid hm
    clear Cm hm ts mk hv G ak bk ah bh I IO IP
    go_enter Try.func9, Try.ntmps9
    obtain ⟨q0, e0⟩ : ∃ x, w.heap.size = x := ⟨_, rfl⟩
    have kC := blk_keep (.cells #[.int .i64 n0, .int .i64 n1] 28) (blk_keep (.cells #[.int .i64 m0, .int .i64 m1, .int .i64 m2, .int .i64 m3, .int .i64 m4] 61) (blk_new w (.cells #[.int .i64 H, .slice aR rs.length cR, .slice aO os.length cO, .slice aP ps.length cP] 26) q0 e0.symm))
    have kM := blk_keep (.cells #[.int .i64 n0, .int .i64 n1] 28) (blk_new (w.alloc (.cells #[.int .i64 H, .slice aR rs.length cR, .slice aO os.length cO, .slice aP ps.length cP] 26)) (.cells #[.int .i64 m0, .int .i64 m1, .int .i64 m2, .int .i64 m3, .int .i64 m4] 61) (q0 + 1) (by simp [e0]))
    have kN := blk_new ((w.alloc (.cells #[.int .i64 H, .slice aR rs.length cR, .slice aO os.length cO, .slice aP ps.length cP] 26)).alloc (.cells #[.int .i64 m0, .int .i64 m1, .int .i64 m2, .int .i64 m3, .int .i64 m4] 61)) (.cells #[.int .i64 n0, .int .i64 n1] 28) (q0 + 1 + 1) (by simp [e0])
    go_wp2_with fail
    refine (HS.out _ U).mono ?_
    rintro e x1 ⟨rfl, u2⟩
    replace U := U.trans u2
    replace kC := u2.blk kC
    replace kM := u2.blk kM
    replace kN := u2.blk kN
    clear u2 HS
    go_wp2_with fail
    have F4 := Lib.hid (fun w (u : Up x1 w) => cellB (u.blk kC))
    have F5 := Lib.hid (fun w (u : Up x1 w) => cellB (u.blk kM))
    have F6 := Lib.hid (fun w (u : Up x1 w) => cellB (u.blk kN))
    refine (wpIn_wide (n := 5)).1 ?_
    refine wpIn_nrm ?_
    refine T.regionQ (fun w' => Up x1 w') 13 1 hmx (by kernel_rfl) (by kernel_rfl) ((Up.refl x1).drew) (fun hCl => ?_)
    refine T.qTake (i := 0) (d := (some 23)) (v := ?v1) rfl rfl (by kernel_rfl) (by decide) hCl (by kernel_rfl) (by kernel_rfl) (by kernel_rfl) (by rfl) ?hy1 (fun _ _ _ => trivial) (fun hCl' => ?_)
    case hy1 => (intro w hSw; refine T.qVal ?_ hSw; (have fF4 := F4.out w hSw; have fF5 := F5.out w hSw; have fF6 := F6.out w hSw); (try dsimp only [List.getElem_toArray, List.getElem_cons_succ, List.getElem_cons_zero]); go_simp; try with_reducible rfl)
    simp only [Act.put, List.setIfInBounds_toArray, List.set_cons_zero, List.set_cons_succ]
    replace hCl := hCl'; clear hCl'
    refine T.qTake (i := 2) (d := (some 25)) (v := ?v2) rfl rfl (by kernel_rfl) (by decide) hCl (by kernel_rfl) (by kernel_rfl) (by kernel_rfl) (by rfl) ?hy2 (fun _ _ _ => trivial) (fun hCl' => ?_)
    case hy2 => (intro w hSw; refine T.qVal ?_ hSw; (have fF4 := F4.out w hSw; have fF5 := F5.out w hSw; have fF6 := F6.out w hSw); (try dsimp only [List.getElem_toArray, List.getElem_cons_succ, List.getElem_cons_zero]); go_simp; try with_reducible rfl)
    simp only [Act.put, List.setIfInBounds_toArray, List.set_cons_zero, List.set_cons_succ]
    replace hCl := hCl'; clear hCl'
    refine T.qTake (i := 6) (d := (some 29)) (v := ?v3) rfl rfl (by kernel_rfl) (by decide) hCl (by kernel_rfl) (by kernel_rfl) (by kernel_rfl) (by rfl) ?hy3 (fun _ _ _ => trivial) (fun hCl' => ?_)
    case hy3 => (intro w hSw; refine T.qVal ?_ hSw; (have fF4 := F4.out w hSw; have fF5 := F5.out w hSw; have fF6 := F6.out w hSw); (try dsimp only [List.getElem_toArray, List.getElem_cons_succ, List.getElem_cons_zero]); go_simp; try with_reducible rfl)
    simp only [Act.put, List.setIfInBounds_toArray, List.set_cons_zero, List.set_cons_succ]
    replace hCl := hCl'; clear hCl'
    refine T.qTake (i := 8) (d := (some 31)) (v := ?v4) rfl rfl (by kernel_rfl) (by decide) hCl (by kernel_rfl) (by kernel_rfl) (by kernel_rfl) (by rfl) ?hy4 (fun _ _ _ => trivial) (fun hCl' => ?_)
    case hy4 => (intro w hSw; refine T.qVal ?_ hSw; (have fF4 := F4.out w hSw; have fF5 := F5.out w hSw; have fF6 := F6.out w hSw); (try dsimp only [List.getElem_toArray, List.getElem_cons_succ, List.getElem_cons_zero]); go_simp; try with_reducible rfl)
    simp only [Act.put, List.setIfInBounds_toArray, List.set_cons_zero, List.set_cons_succ]
    replace hCl := hCl'; clear hCl'
    refine T.qTake (i := 1) (d := (some 24)) (v := ?v5) rfl rfl (by kernel_rfl) (by decide) hCl (by kernel_rfl) (by kernel_rfl) (by kernel_rfl) (by rfl) ?hy5 (fun _ _ _ => trivial) (fun hCl' => ?_)
    case hy5 => (intro w hSw; refine T.qVal ?_ hSw; (have fF4 := F4.out w hSw; have fF5 := F5.out w hSw; have fF6 := F6.out w hSw); (try dsimp only [List.getElem_toArray, List.getElem_cons_succ, List.getElem_cons_zero]); go_simp; try with_reducible rfl)
    simp only [Act.put, List.setIfInBounds_toArray, List.set_cons_zero, List.set_cons_succ]
    replace hCl := hCl'; clear hCl'
    refine T.qTake (i := 3) (d := (some 26)) (v := ?v6) rfl rfl (by kernel_rfl) (by decide) hCl (by kernel_rfl) (by kernel_rfl) (by kernel_rfl) (by rfl) ?hy6 (fun _ _ _ => trivial) (fun hCl' => ?_)
    case hy6 => (intro w hSw; refine T.qVal ?_ hSw; (have fF4 := F4.out w hSw; have fF5 := F5.out w hSw; have fF6 := F6.out w hSw); (try dsimp only [List.getElem_toArray, List.getElem_cons_succ, List.getElem_cons_zero]); go_simp; try with_reducible rfl)
    simp only [Act.put, List.setIfInBounds_toArray, List.set_cons_zero, List.set_cons_succ]
    replace hCl := hCl'; clear hCl'
    refine T.qTake (i := 7) (d := (some 30)) (v := ?v7) rfl rfl (by kernel_rfl) (by decide) hCl (by kernel_rfl) (by kernel_rfl) (by kernel_rfl) (by rfl) ?hy7 (fun _ _ _ => trivial) (fun hCl' => ?_)
    case hy7 => (intro w hSw; refine T.qVal ?_ hSw; (have fF4 := F4.out w hSw; have fF5 := F5.out w hSw; have fF6 := F6.out w hSw); (try dsimp only [List.getElem_toArray, List.getElem_cons_succ, List.getElem_cons_zero]); go_simp; try with_reducible rfl)
    simp only [Act.put, List.setIfInBounds_toArray, List.set_cons_zero, List.set_cons_succ]
    replace hCl := hCl'; clear hCl'
    refine T.qTake (i := 9) (d := (some 32)) (v := ?v8) rfl rfl (by kernel_rfl) (by decide) hCl (by kernel_rfl) (by kernel_rfl) (by kernel_rfl) (by rfl) ?hy8 (fun _ _ _ => trivial) (fun hCl' => ?_)
    case hy8 => (intro w hSw; refine T.qVal ?_ hSw; (have fF4 := F4.out w hSw; have fF5 := F5.out w hSw; have fF6 := F6.out w hSw); (try dsimp only [List.getElem_toArray, List.getElem_cons_succ, List.getElem_cons_zero]); go_simp; try with_reducible rfl)
    simp only [Act.put, List.setIfInBounds_toArray, List.set_cons_zero, List.set_cons_succ]
    replace hCl := hCl'; clear hCl'
    refine T.qTake (i := 4) (d := (some 27)) (v := ?v9) rfl rfl (by kernel_rfl) (by decide) hCl (by kernel_rfl) (by kernel_rfl) (by kernel_rfl) (by rfl) ?hy9 (fun _ _ _ => trivial) (fun hCl' => ?_)
    case hy9 => (intro w hSw; refine T.qVal ?_ hSw; (have fF4 := F4.out w hSw; have fF5 := F5.out w hSw; have fF6 := F6.out w hSw); (try dsimp only [List.getElem_toArray, List.getElem_cons_succ, List.getElem_cons_zero]); go_simp; try with_reducible rfl)
    simp only [Act.put, List.setIfInBounds_toArray, List.set_cons_zero, List.set_cons_succ]
    replace hCl := hCl'; clear hCl'
    refine T.qTake (i := 10) (d := (some 33)) (v := ?v10) rfl rfl (by kernel_rfl) (by decide) hCl (by kernel_rfl) (by kernel_rfl) (by kernel_rfl) (by rfl) ?hy10 (fun _ _ _ => trivial) (fun hCl' => ?_)
    case hy10 => (intro w hSw; refine T.qVal ?_ hSw; (have fF4 := F4.out w hSw; have fF5 := F5.out w hSw; have fF6 := F6.out w hSw); (try dsimp only [List.getElem_toArray, List.getElem_cons_succ, List.getElem_cons_zero]); go_simp; try with_reducible rfl)
    simp only [Act.put, List.setIfInBounds_toArray, List.set_cons_zero, List.set_cons_succ]
    replace hCl := hCl'; clear hCl'
    refine T.qTake (i := 5) (d := (some 28)) (v := ((.int .i64 k))) rfl rfl (by kernel_rfl) (by decide) hCl (by kernel_rfl) (by kernel_rfl) (by kernel_rfl) (by rfl) ?hy11 (fun _ _ _ => trivial) (fun hCl' => ?_)
    case hy11 => (intro w hSw; (have fF4 := F4.out w hSw; have fF5 := F5.out w hSw; have fF6 := F6.out w hSw); (try dsimp only [List.getElem_toArray, List.getElem_cons_succ, List.getElem_cons_zero]); go_simp; (refine (callsIn_wide.2 (HRk.out w)).mono ?_; rintro e w3 ⟨rfl, rfl⟩; exact ⟨rfl, hSw⟩))
    simp only [Act.put, List.setIfInBounds_toArray, List.set_cons_zero, List.set_cons_succ]
    replace hCl := hCl'; clear hCl'
    refine T.qTake (i := 11) (d := (some 34)) (v := ((.int .i64 h))) rfl rfl (by kernel_rfl) (by decide) hCl (by kernel_rfl) (by kernel_rfl) (by kernel_rfl) (by rfl) ?hy12 (fun _ _ _ => trivial) (fun hCl' => ?_)
    case hy12 => (intro w hSw; (have fF4 := F4.out w hSw; have fF5 := F5.out w hSw; have fF6 := F6.out w hSw); (try dsimp only [List.getElem_toArray, List.getElem_cons_succ, List.getElem_cons_zero]); go_simp; (refine (callsIn_wide.2 (HRh.out w)).mono ?_; rintro e w3 ⟨rfl, rfl⟩; exact ⟨rfl, hSw⟩))
    simp only [Act.put, List.setIfInBounds_toArray, List.set_cons_zero, List.set_cons_succ]
    replace hCl := hCl'; clear hCl'
    refine T.qTake (i := 12) (d := (some 7)) (v := ?v13) rfl rfl (by kernel_rfl) (by decide) hCl (by kernel_rfl) (by kernel_rfl) (by kernel_rfl) (by rfl) ?hy13 (fun _ _ _ => trivial) (fun hCl' => ?_)
    case hy13 => (intro w hSw; refine T.qVal ?_ hSw; (have fF4 := F4.out w hSw; have fF5 := F5.out w hSw; have fF6 := F6.out w hSw); (try dsimp only [List.getElem_toArray, List.getElem_cons_succ, List.getElem_cons_zero]); go_simp; try with_reducible rfl)
    simp only [Act.put, List.setIfInBounds_toArray, List.set_cons_zero, List.set_cons_succ]
    replace hCl := hCl'; clear hCl'
    refine T.tail_intro (by kernel_rfl) (fun Y3 hY3 => ?_)
    replace U := U.trans hY3
    replace kC := hY3.blk kC
    replace kM := hY3.blk kM
    replace kN := hY3.blk kN
    clear F4 F5 F6 hY3
    refine lastG (i := 13) (by kernel_rfl) rfl (by rfl) (by decide) (fun K hK => ?_)
    go_simp
    refine hK.out _ _ ?_
    clear hK K
    refine doneG (by kernel_rfl) ?_ _
    refine S.nrm_intro ?_
    clear HRk HRh wH
    clear kN
    have ii0 := kC
    have dkCkx := blk_lt kC
    have dkMkx := blk_lt kM
    have gkx := U.size
    have kx := blk_new Y3 (.cells #[.int .i64 H, .slice aR rs.length cR, .slice aO os.length cO, .slice aP ps.length cP] 26) _ rfl
    replace kC := blk_keep (.cells #[.int .i64 H, .slice aR rs.length cR, .slice aO os.length cO, .slice aP ps.length cP] 26) kC
    replace kM := blk_keep (.cells #[.int .i64 H, .slice aR rs.length cR, .slice aO os.length cO, .slice aP ps.length cP] 26) kM
    replace U := U.alloc (.cells #[.int .i64 H, .slice aR rs.length cR, .slice aO os.length cO, .slice aP ps.length cP] 26)
    obtain ⟨pkx, hpkx⟩ : ∃ z, Y3.heap.size = z := ⟨_, rfl⟩
    obtain ⟨W7, hW7⟩ : ∃ z, Y3.alloc (.cells #[.int .i64 H, .slice aR rs.length cR, .slice aO os.length cO, .slice aP ps.length cP] 26) = z := ⟨_, rfl⟩
    rw [hpkx] at kx dkCkx dkMkx gkx
    rw [hW7] at kx U kC kM
    skip
    have zf := frozB kx
    have i0 := kx
    have U1 := ((U.set (p := ⟨pkx, 2, none⟩) (show w.heap.size ≤ pkx by omega) (.slice none 0 0)).set (p := ⟨pkx, 3, none⟩) (show w.heap.size ≤ pkx by omega) (.slice none 0 0))
    have jkC := kC
    rw [← blk_set (W7) ⟨pkx, 2, none⟩ (.slice none 0 0) (q0) (by show q0 ≠ pkx; omega), ← blk_set ((W7).setCell ⟨pkx, 2, none⟩ (.slice none 0 0)) ⟨pkx, 3, none⟩ (.slice none 0 0) (q0) (by show q0 ≠ pkx; omega)] at jkC
    have jkM := kM
    rw [← blk_set (W7) ⟨pkx, 2, none⟩ (.slice none 0 0) (q0 + 1) (by show q0 + 1 ≠ pkx; omega), ← blk_set ((W7).setCell ⟨pkx, 2, none⟩ (.slice none 0 0)) ⟨pkx, 3, none⟩ (.slice none 0 0) (q0 + 1) (by show q0 + 1 ≠ pkx; omega)] at jkM
    have jkx : mblk (((W7).setCell ⟨pkx, 2, none⟩ (.slice none 0 0)).setCell ⟨pkx, 3, none⟩ (.slice none 0 0)) pkx = some (.cells #[.int .i64 H, .slice aR rs.length cR, .slice none 0 0, .slice none 0 0] 26 (0, 0)) := (blk_put (blk_put kx 2 (.slice none 0 0)) 3 (.slice none 0 0))
    obtain ⟨W8, hW8⟩ : ∃ z, ((W7).setCell ⟨pkx, 2, none⟩ (.slice none 0 0)).setCell ⟨pkx, 3, none⟩ (.slice none 0 0) = z := ⟨_, rfl⟩
    rw [hW8] at jkC jkM jkx U1
    clear kC kM kx U
    have kC := jkC
    have kM := jkM
    have kx := jkx
    have U := U1
    clear jkC jkM jkx U1
    go_wp2_with fail
    clear hW8 zf i0
    clear ii0
    go_loopw [10] (fun i wr => ∃ (z : Int) (n : Nat) (a : Option Addr) (c : Nat), -1 ≤ z ∧ z < os.length ∧ (n : Int) + (z + 1) = os.length ∧ i = .int .i64 z ∧ Hid (wr.ownsRow (pkx + 1) 63 4 (.slice a n c) n (T.flat 4 T.encO (os.drop (z + 1).toNat).reverse)) ∧ Up w wr ∧ mblk wr q0 = some (.cells #[.int .i64 H, .slice aR rs.length cR, .slice aO os.length cO, .slice aP ps.length cP] 26 (0, 0)) ∧ mblk wr (q0 + 1) = some (.cells #[.int .i64 m0, .int .i64 m1, .int .i64 m2, .int .i64 m3, .int .i64 m4] 61 (0, 0)) ∧ mblk wr pkx = some (.cells #[.int .i64 H, .slice aR rs.length cR, .slice a n c, .slice none 0 0] 26 (0, 0))) (fun i _ => (intOf i + 1).toNat)
    case atStart => exact ⟨(os.length : Int) - 1, 0, none, 0, by omega, by omega, by omega, rfl, Lib.hid (by rw [show ((os.length : Int) - 1 + 1).toNat = os.length by omega, List.drop_length]; exact ⟨rfl, .inl ⟨rfl, rfl⟩⟩), U, kC, kM, kx⟩
    case round =>
      clear U kC kM kx
      obtain ⟨z, n, a, c, hz1, hz2, hn, rfl, HO1, U, kC, kM, kx⟩ := hrel
      by_cases hz : 0 ≤ z
      · skip
        obtain ⟨j, rfl⟩ := Int.eq_ofNat_of_zero_le hz
        have HNN := Lib.hid hn
        have hn7 : n ≤ 14 := by omega
        clear hn
        have hlt : j < os.length := by omega
        have ew : IntKind.i64.wrap ((j : Int) - 1) = (j : Int) - 1 := IntWalk.i64_in _ (by omega)
        have dk : decide ((j : Int) ≥ 0) = true := decide_eq_true (by omega)
        have ilt : (j : Int) < (os.length : Int) := by omega
        obtain ⟨a', c', e', _, _, hm⟩ := (HO.out w (Up.refl w)).is
        injection e' with ea eb ec
        clear eb ec
        obtain ⟨g, off, ga, gl, hx⟩ := hm (by omega)
        subst ea ga
        clear hm
        have st := T.rev_step (d := (0, 0, 0, 0)) hlt
        obtain ⟨⟨r0, r1, r2, r3⟩, hss⟩ : ∃ s, os.getD j (0, 0, 0, 0) = s := ⟨_, rfl⟩
        have cc0 := Up.cell2 U (hx j hlt 0 (by omega))
        have cc1 := Up.cell2 U (hx j hlt 1 (by omega))
        have cc2 := Up.cell2 U (hx j hlt 2 (by omega))
        have cc3 := Up.cell2 U (hx j hlt 3 (by omega))
        rw [hss] at st cc0 cc1 cc2 cc3
        replace cc0 : wr.cell? ⟨g, off + j * 4, none⟩ = some (.int .i64 r0) := cc0
        replace cc1 : wr.cell? ⟨g, off + j * 4 + 1, none⟩ = some (.int .i64 r1) := cc1
        replace cc2 : wr.cell? ⟨g, off + j * 4 + 2, none⟩ = some (.int .i64 r2) := cc2
        replace cc3 : wr.cell? ⟨g, off + j * 4 + 3, none⟩ = some (.int .i64 r3) := cc3
        have HS := Lib.hid st
        clear hx hss st
        have HO2 := HO1.out
        rw [show ((j : Int) + 1).toNat = j + 1 by omega] at HO2
        replace HO1 := Lib.hid HO2
        clear HO2
        have glw := U.size
        have hsz := blk_lt kx
        go_wp2_with fail
        refine (wpIn_wide (n := 5)).1 ?_
        refine wpIn_nrm ?_
        refine regionG (fun w' => Up w w' ∧ mblk w' (q0) = some (.cells #[.int .i64 H, .slice aR rs.length cR, .slice (some ⟨g, off, none⟩) os.length cO, .slice aP ps.length cP] 26 (0, 0)) ∧ mblk w' (q0 + 1) = some (.cells #[.int .i64 m0, .int .i64 m1, .int .i64 m2, .int .i64 m3, .int .i64 m4] 61 (0, 0)) ∧ mblk w' (pkx) = some (.cells #[.int .i64 H, .slice aR rs.length cR, .slice a n c, .slice none 0 0] 26 (0, 0)) ∧ w'.cell? ⟨g, off + j * 4, none⟩ = some (.int .i64 r0) ∧ w'.cell? ⟨g, off + j * 4 + 1, none⟩ = some (.int .i64 r1) ∧ w'.cell? ⟨g, off + j * 4 + 2, none⟩ = some (.int .i64 r2) ∧ w'.cell? ⟨g, off + j * 4 + 3, none⟩ = some (.int .i64 r3)) 10 hmx ⟨U.drew, (by rw [blk_drew]; exact kC), (by rw [blk_drew]; exact kM), (by rw [blk_drew]; exact kx), cc0, cc1, cc2, cc3⟩ (fun hHeld hCl => ?_)
        refine takeG (i := 0) (d := (some 46)) (v := ?v14) rfl rfl (by kernel_rfl) (by kernel_rfl) (by decide) hCl (by kernel_rfl) (by kernel_rfl) (by kernel_rfl) (fun _ _ _ h => h) (by rfl) ?hy14 (fun _ _ _ => trivial) (by assumption) (fun hCl' => ?_)
        case hy14 => ((intro w hSw; (try dsimp only at hSw); (try go_split_ands); go_simp); try with_reducible rfl)
        simp only [Act.put, List.setIfInBounds_toArray, List.set_cons_zero, List.set_cons_succ]
        replace hCl := hCl'; clear hCl'
        refine takeG (i := 1) (d := (some 47)) (v := ?v15) rfl rfl (by kernel_rfl) (by kernel_rfl) (by decide) hCl (by kernel_rfl) (by kernel_rfl) (by kernel_rfl) (fun _ _ _ h => h) (by rfl) ?hy15 (fun _ _ _ => trivial) (by assumption) (fun hCl' => ?_)
        case hy15 => ((intro w hSw; (try dsimp only at hSw); (try go_split_ands); go_simp); try with_reducible rfl)
        simp only [Act.put, List.setIfInBounds_toArray, List.set_cons_zero, List.set_cons_succ]
        replace hCl := hCl'; clear hCl'
        refine takeG (i := 2) (d := (some 48)) (v := ?v16) rfl rfl (by kernel_rfl) (by kernel_rfl) (by decide) hCl (by kernel_rfl) (by kernel_rfl) (by kernel_rfl) (fun _ _ _ h => h) (by rfl) ?hy16 (fun _ _ _ => trivial) (by assumption) (fun hCl' => ?_)
        case hy16 => ((intro w hSw; (try dsimp only at hSw); (try go_split_ands); go_simp); try with_reducible rfl)
        simp only [Act.put, List.setIfInBounds_toArray, List.set_cons_zero, List.set_cons_succ]
        replace hCl := hCl'; clear hCl'
        refine takeG (i := 3) (d := (some 49)) (v := ?v17) rfl rfl (by kernel_rfl) (by kernel_rfl) (by decide) hCl (by kernel_rfl) (by kernel_rfl) (by kernel_rfl) (fun _ _ _ h => h) (by rfl) ?hy17 (fun _ _ _ => trivial) (by assumption) (fun hCl' => ?_)
        case hy17 => ((intro w hSw; (try dsimp only at hSw); (try go_split_ands); go_simp); try with_reducible rfl)
        simp only [Act.put, List.setIfInBounds_toArray, List.set_cons_zero, List.set_cons_succ]
        replace hCl := hCl'; clear hCl'
        refine takeG (i := 4) (d := (some 50)) (v := ?v18) rfl rfl (by kernel_rfl) (by kernel_rfl) (by decide) hCl (by kernel_rfl) (by kernel_rfl) (by kernel_rfl) (fun _ _ _ h => h) (by rfl) ?hy18 (fun _ _ _ => trivial) (by assumption) (fun hCl' => ?_)
        case hy18 => ((intro w hSw; (try dsimp only at hSw); (try go_split_ands); go_simp); try with_reducible rfl)
        simp only [Act.put, List.setIfInBounds_toArray, List.set_cons_zero, List.set_cons_succ]
        replace hCl := hCl'; clear hCl'
        refine takeG (i := 5) (d := (some 51)) (v := ?v19) rfl rfl (by kernel_rfl) (by kernel_rfl) (by decide) hCl (by kernel_rfl) (by kernel_rfl) (by kernel_rfl) (fun _ _ _ h => h) (by rfl) ?hy19 (fun _ _ _ => trivial) (by assumption) (fun hCl' => ?_)
        case hy19 => ((intro w hSw; (try dsimp only at hSw); (try go_split_ands); go_simp); try with_reducible rfl)
        simp only [Act.put, List.setIfInBounds_toArray, List.set_cons_zero, List.set_cons_succ]
        replace hCl := hCl'; clear hCl'
        refine takeG (i := 6) (d := (some 52)) (v := ?v20) rfl rfl (by kernel_rfl) (by kernel_rfl) (by decide) hCl (by kernel_rfl) (by kernel_rfl) (by kernel_rfl) (fun _ _ _ h => h) (by rfl) ?hy20 (fun _ _ _ => trivial) (by assumption) (fun hCl' => ?_)
        case hy20 => ((intro w hSw; (try dsimp only at hSw); (try go_split_ands); go_simp); try with_reducible rfl)
        simp only [Act.put, List.setIfInBounds_toArray, List.set_cons_zero, List.set_cons_succ]
        replace hCl := hCl'; clear hCl'
        refine nextG (i := 7) (by kernel_rfl) rfl (by rfl) hCl (fun K hK => ?_)
        go_simp
        clear hHeld
        have A1 : Up wr (wr.alloc (.cells #[.int .i64 r0, .int .i64 r1, .int .i64 r2, .int .i64 r3] 63)).drew := Up.drew (Up.alloc (Up.refl wr) _)
        have pl : mblk (wr.alloc (.cells #[.int .i64 r0, .int .i64 r1, .int .i64 r2, .int .i64 r3] 63)).drew wr.heap.size = some (.cells #[.int .i64 r0, .int .i64 r1, .int .i64 r2, .int .i64 r3] 63 (0, 0)) := by rw [blk_drew]; exact blk_new _ _ _ rfl
        have hb1 : pkx + 1 ≤ wr.heap.size := by omega
        obtain ⟨q7, hq7⟩ : ∃ q, wr.heap.size = q := ⟨_, rfl⟩
        obtain ⟨X1, hX1⟩ : ∃ X, (wr.alloc (.cells #[.int .i64 r0, .int .i64 r1, .int .i64 r2, .int .i64 r3] 63)).drew = X := ⟨_, rfl⟩
        rw [hX1] at A1 pl
        have hb2 := A1.size
        rw [hq7] at pl hb1 hb2
        try rw [hX1]
        try rw [hq7]
        refine hK.out _ _ ⟨U.trans A1, A1.blk kC, A1.blk kM, A1.blk kx, A1.cell2 cc0, A1.cell2 cc1, A1.cell2 cc2, A1.cell2 cc3⟩ (fun _ hCl => ?_)
        clear hK K hX1 hq7
        try simp only [Act.put, List.setIfInBounds_toArray, List.set_cons_zero, List.set_cons_succ]
        refine nextG (i := 8) (by kernel_rfl) rfl (by rfl) hCl (fun K hK => ?_)
        have R1 := row_up HO1.out A1
        refine T.opIn_app T.elO (.tmp 47) (.tmp 53) rfl (T.one_open1 pl) rfl (pkx + 1) _ (n) rfl R1 (by omega) (by simp) (by omega) ?_
        intro v2 X2 R2 hg2
        replace R2 : X2.ownsRow (pkx + 1) 63 4 v2 (n + 1) _ := R2
        obtain ⟨ra, rc, rfl, _, _⟩ := row_val R2
        have V2 := Up.grown (U.trans A1) hg2 (fun k e => by have := row_base R1 k e; omega)
        have ekC := grown_blk hg2 (A1.blk kC) (row_block R1 (by omega))
        have ekM := grown_blk hg2 (A1.blk kM) (row_block R1 (by omega))
        have ekx := grown_blk hg2 (A1.blk kx) (row_block R1 (by omega))
        have fcc0 := hg2.cell (A1.cell2 cc0) (row_block R1 (show g < pkx + 1 by omega))
        have fcc1 := hg2.cell (A1.cell2 cc1) (row_block R1 (show g < pkx + 1 by omega))
        have fcc2 := hg2.cell (A1.cell2 cc2) (row_block R1 (show g < pkx + 1 by omega))
        have fcc3 := hg2.cell (A1.cell2 cc3) (row_block R1 (show g < pkx + 1 by omega))
        have hb3 := hg2.size
        refine hK.out _ _ ⟨V2, ekC, ekM, ekx, fcc0, fcc1, fcc2, fcc3⟩ (fun _ hCl => ?_)
        clear hK K hg2 pl R1
        try simp only [Act.put, List.setIfInBounds_toArray, List.set_cons_zero, List.set_cons_succ]
        refine takeG (i := 9) (d := (some 55)) (v := ?v22) rfl rfl (by kernel_rfl) (by kernel_rfl) (by decide) hCl (by kernel_rfl) (by kernel_rfl) (by kernel_rfl) (fun _ _ _ h => h) (by rfl) ?hy22 (fun _ _ _ => trivial) (by assumption) (fun hCl' => ?_)
        case hy22 => ((intro w hSw; (try dsimp only at hSw); (try go_split_ands); go_simp); try with_reducible rfl)
        simp only [Act.put, List.setIfInBounds_toArray, List.set_cons_zero, List.set_cons_succ]
        replace hCl := hCl'; clear hCl'
        have zf := frozB ekx
        clear hCl
        refine lastG (i := 10) (by kernel_rfl) rfl (by rfl) (by decide) (fun K hK => ?_)
        go_simp
        obtain ⟨Z101, hZ⟩ : ∃ X, X2.setCell ⟨pkx, 2, none⟩ (.slice ra (n + 1) rc) = X := ⟨_, rfl⟩
        have V3 : Up w Z101 := by rw [← hZ]; exact V2.set (p := ⟨pkx, 2, none⟩) (show w.heap.size ≤ pkx by omega) _
        have hb4 : pkx + 1 ≤ Z101.heap.size := by rw [← hZ]; simp; omega
        have dkx : mblk Z101 (pkx) = some (.cells #[.int .i64 H, .slice aR rs.length cR, .slice ra (n + 1) rc, .slice none 0 0] 26 (0, 0)) := by rw [← hZ]; exact blk_put ekx 2 _
        have dkC : mblk Z101 (q0) = some (.cells #[.int .i64 H, .slice aR rs.length cR, .slice (some ⟨g, off, none⟩) os.length cO, .slice aP ps.length cP] 26 (0, 0)) := by rw [← hZ, blk_set _ _ _ _ (by show q0 ≠ pkx; omega)]; exact ekC
        have dkM : mblk Z101 (q0 + 1) = some (.cells #[.int .i64 m0, .int .i64 m1, .int .i64 m2, .int .i64 m3, .int .i64 m4] 61 (0, 0)) := by rw [← hZ, blk_set _ _ _ _ (by show q0 + 1 ≠ pkx; omega)]; exact ekM
        have HO2 := Lib.hid (row_other R2 (grown_set X2 (pkx) 2 (.slice ra (n + 1) rc)) (row_block R2 (show pkx < pkx + 1 by omega)))
        rw [hZ] at HO2
        try rw [hZ]
        refine hK.out _ _ ?_
        clear hK K hZ V2 R2 zf A1 hb1 hb2 hb3 ekC ekM ekx fcc0 fcc1 fcc2 fcc3 cc0 cc1 cc2 cc3 kC kM kx U   HO1
        refine doneG (by kernel_rfl) ?_ _
        refine S.nrm_intro ?_
        have U := V3
        clear V3
        have kC := dkC
        clear dkC
        have kM := dkM
        clear dkM
        have kx := dkx
        clear dkx
        have HO3 := HO2.out
        rw [← HS.out] at HO3
        have HO4 := Lib.hid (show Z101.ownsRow (pkx + 1) 63 4 (.slice ra (n + 1) rc) (n + 1) (T.flat 4 T.encO (os.drop (((j : Int) - 1 + 1)).toNat).reverse) by rw [show ((j : Int) - 1 + 1).toNat = j by omega]; exact HO3)
        clear HO3 HO2 HS
        go_wp2_with fail
        have hn := HNN.out
        go_roundw
        case rel => exact ⟨(j : Int) - 1, n + 1, ra, rc, by omega, by omega, by omega, by go_num, HO4, U, kC, kM, kx⟩
        case measure => (simp only [intOf]; omega)
      · skip
        obtain rfl : z = -1 := by omega
        obtain rfl : n = os.length := by omega
        have dk : decide ((-1 : Int) ≥ 0) = false := by decide
        have own := HO1.out
        rw [show ((-1 : Int) + 1).toNat = 0 by decide, List.drop_zero] at own
        have HA := Lib.hid own
        obtain ⟨bq, hbq⟩ : ∃ x, wr.heap.size = x := ⟨_, rfl⟩
        have hap : ∀ g, (Value.slice a os.length c).ownBlock = some g → pkx + 1 ≤ g ∧ g < bq := fun g e => by rw [← hbq]; exact own.lt g e
        have hb0 : bq ≤ wr.heap.size := by omega
        have hpx := blk_lt kx
        rw [hbq] at hpx
        have HAP := Lib.hid hap
        clear hap own HO1 hz hz1 hz2 hn hbq
        go_wp2_with fail
        go_loopw [11] (fun i wr => ∃ (z : Int) (n : Nat) (a2 : Option Addr) (c2 : Nat), -1 ≤ z ∧ z < ps.length ∧ (n : Int) + (z + 1) = ps.length ∧ i = .int .i64 z ∧ Hid (wr.ownsRow bq 61 5 (.slice a2 n c2) n (T.flat 5 T.encP (ps.drop (z + 1).toNat).reverse)) ∧ Hid (wr.ownsRow (pkx + 1) 63 4 (.slice a os.length c) os.length (T.flat 4 T.encO os.reverse)) ∧ bq ≤ wr.heap.size ∧ Up w wr ∧ mblk wr q0 = some (.cells #[.int .i64 H, .slice aR rs.length cR, .slice aO os.length cO, .slice aP ps.length cP] 26 (0, 0)) ∧ mblk wr (q0 + 1) = some (.cells #[.int .i64 m0, .int .i64 m1, .int .i64 m2, .int .i64 m3, .int .i64 m4] 61 (0, 0)) ∧ mblk wr pkx = some (.cells #[.int .i64 H, .slice aR rs.length cR, .slice a os.length c, .slice a2 n c2] 26 (0, 0))) (fun i _ => (intOf i + 1).toNat)
        case atStart => exact ⟨(ps.length : Int) - 1, 0, none, 0, by omega, by omega, by omega, rfl, Lib.hid (by rw [show ((ps.length : Int) - 1 + 1).toNat = ps.length by omega, List.drop_length]; exact ⟨rfl, .inl ⟨rfl, rfl⟩⟩), HA, hb0, U, kC, kM, kx⟩
        case round =>
          clear U kC kM kx HA hb0
          obtain ⟨z, n, a2, c2, hz1, hz2, hn, rfl, HO1, HA, hb0, U, kC, kM, kx⟩ := hrel
          by_cases hz : 0 ≤ z
          · skip
            obtain ⟨j, rfl⟩ := Int.eq_ofNat_of_zero_le hz
            have HNN := Lib.hid hn
            have hn7 : n ≤ 14 := by omega
            clear hn
            have hlt : j < ps.length := by omega
            have ew : IntKind.i64.wrap ((j : Int) - 1) = (j : Int) - 1 := IntWalk.i64_in _ (by omega)
            have dk : decide ((j : Int) ≥ 0) = true := decide_eq_true (by omega)
            have ilt : (j : Int) < (ps.length : Int) := by omega
            obtain ⟨a', c', e', _, _, hm⟩ := (HP.out w (Up.refl w)).is
            injection e' with ea eb ec
            clear eb ec
            obtain ⟨g, off, ga, gl, hx⟩ := hm (by omega)
            subst ea ga
            clear hm
            have st := T.rev_step (d := (0, 0, 0, 0, 0)) hlt
            obtain ⟨⟨r0, r1, r2, r3, r4⟩, hss⟩ : ∃ s, ps.getD j (0, 0, 0, 0, 0) = s := ⟨_, rfl⟩
            have cc0 := Up.cell2 U (hx j hlt 0 (by omega))
            have cc1 := Up.cell2 U (hx j hlt 1 (by omega))
            have cc2 := Up.cell2 U (hx j hlt 2 (by omega))
            have cc3 := Up.cell2 U (hx j hlt 3 (by omega))
            have cc4 := Up.cell2 U (hx j hlt 4 (by omega))
            rw [hss] at st cc0 cc1 cc2 cc3 cc4
            replace cc0 : wr.cell? ⟨g, off + j * 5, none⟩ = some (.int .i64 r0) := cc0
            replace cc1 : wr.cell? ⟨g, off + j * 5 + 1, none⟩ = some (.int .i64 r1) := cc1
            replace cc2 : wr.cell? ⟨g, off + j * 5 + 2, none⟩ = some (.int .i64 r2) := cc2
            replace cc3 : wr.cell? ⟨g, off + j * 5 + 3, none⟩ = some (.int .i64 r3) := cc3
            replace cc4 : wr.cell? ⟨g, off + j * 5 + 4, none⟩ = some (.int .i64 r4) := cc4
            have HS := Lib.hid st
            clear hx hss st
            have HO2 := HO1.out
            rw [show ((j : Int) + 1).toNat = j + 1 by omega] at HO2
            replace HO1 := Lib.hid HO2
            clear HO2
            have glw := U.size
            go_wp2_with fail
            have hq2 : ∀ g, (Value.slice a os.length c).ownBlock = some g → g < bq := fun g0 e0 => (HAP.out g0 e0).2
            have hq2' : ∀ g, (Value.slice a os.length c).ownBlock = some g → pkx < g := fun g0 e0 => by have := (HAP.out g0 e0).1; omega
            have HQ2 := Lib.hid (And.intro hq2 hq2')
            clear hq2 hq2'
            refine (wpIn_wide (n := 5)).1 ?_
            refine wpIn_nrm ?_
            refine regionG (fun w' => Up w w' ∧ mblk w' (q0) = some (.cells #[.int .i64 H, .slice aR rs.length cR, .slice aO os.length cO, .slice (some ⟨g, off, none⟩) ps.length cP] 26 (0, 0)) ∧ mblk w' (q0 + 1) = some (.cells #[.int .i64 m0, .int .i64 m1, .int .i64 m2, .int .i64 m3, .int .i64 m4] 61 (0, 0)) ∧ mblk w' (pkx) = some (.cells #[.int .i64 H, .slice aR rs.length cR, .slice a os.length c, .slice a2 n c2] 26 (0, 0)) ∧ w'.cell? ⟨g, off + j * 5, none⟩ = some (.int .i64 r0) ∧ w'.cell? ⟨g, off + j * 5 + 1, none⟩ = some (.int .i64 r1) ∧ w'.cell? ⟨g, off + j * 5 + 2, none⟩ = some (.int .i64 r2) ∧ w'.cell? ⟨g, off + j * 5 + 3, none⟩ = some (.int .i64 r3) ∧ w'.cell? ⟨g, off + j * 5 + 4, none⟩ = some (.int .i64 r4)) 10 hmx ⟨U.drew, (by rw [blk_drew]; exact kC), (by rw [blk_drew]; exact kM), (by rw [blk_drew]; exact kx), cc0, cc1, cc2, cc3, cc4⟩ (fun hHeld hCl => ?_)
            refine takeG (i := 0) (d := (some 64)) (v := ?v24) rfl rfl (by kernel_rfl) (by kernel_rfl) (by decide) hCl (by kernel_rfl) (by kernel_rfl) (by kernel_rfl) (fun _ _ _ h => h) (by rfl) ?hy24 (fun _ _ _ => trivial) (by assumption) (fun hCl' => ?_)
            case hy24 => ((intro w hSw; (try dsimp only at hSw); (try go_split_ands); go_simp); try with_reducible rfl)
            simp only [Act.put, List.setIfInBounds_toArray, List.set_cons_zero, List.set_cons_succ]
            replace hCl := hCl'; clear hCl'
            refine takeG (i := 1) (d := (some 65)) (v := ?v25) rfl rfl (by kernel_rfl) (by kernel_rfl) (by decide) hCl (by kernel_rfl) (by kernel_rfl) (by kernel_rfl) (fun _ _ _ h => h) (by rfl) ?hy25 (fun _ _ _ => trivial) (by assumption) (fun hCl' => ?_)
            case hy25 => ((intro w hSw; (try dsimp only at hSw); (try go_split_ands); go_simp); try with_reducible rfl)
            simp only [Act.put, List.setIfInBounds_toArray, List.set_cons_zero, List.set_cons_succ]
            replace hCl := hCl'; clear hCl'
            refine takeG (i := 2) (d := (some 66)) (v := ?v26) rfl rfl (by kernel_rfl) (by kernel_rfl) (by decide) hCl (by kernel_rfl) (by kernel_rfl) (by kernel_rfl) (fun _ _ _ h => h) (by rfl) ?hy26 (fun _ _ _ => trivial) (by assumption) (fun hCl' => ?_)
            case hy26 => ((intro w hSw; (try dsimp only at hSw); (try go_split_ands); go_simp); try with_reducible rfl)
            simp only [Act.put, List.setIfInBounds_toArray, List.set_cons_zero, List.set_cons_succ]
            replace hCl := hCl'; clear hCl'
            refine takeG (i := 3) (d := (some 67)) (v := ?v27) rfl rfl (by kernel_rfl) (by kernel_rfl) (by decide) hCl (by kernel_rfl) (by kernel_rfl) (by kernel_rfl) (fun _ _ _ h => h) (by rfl) ?hy27 (fun _ _ _ => trivial) (by assumption) (fun hCl' => ?_)
            case hy27 => ((intro w hSw; (try dsimp only at hSw); (try go_split_ands); go_simp); try with_reducible rfl)
            simp only [Act.put, List.setIfInBounds_toArray, List.set_cons_zero, List.set_cons_succ]
            replace hCl := hCl'; clear hCl'
            refine takeG (i := 4) (d := (some 68)) (v := ?v28) rfl rfl (by kernel_rfl) (by kernel_rfl) (by decide) hCl (by kernel_rfl) (by kernel_rfl) (by kernel_rfl) (fun _ _ _ h => h) (by rfl) ?hy28 (fun _ _ _ => trivial) (by assumption) (fun hCl' => ?_)
            case hy28 => ((intro w hSw; (try dsimp only at hSw); (try go_split_ands); go_simp); try with_reducible rfl)
            simp only [Act.put, List.setIfInBounds_toArray, List.set_cons_zero, List.set_cons_succ]
            replace hCl := hCl'; clear hCl'
            refine takeG (i := 5) (d := (some 69)) (v := ?v29) rfl rfl (by kernel_rfl) (by kernel_rfl) (by decide) hCl (by kernel_rfl) (by kernel_rfl) (by kernel_rfl) (fun _ _ _ h => h) (by rfl) ?hy29 (fun _ _ _ => trivial) (by assumption) (fun hCl' => ?_)
            case hy29 => ((intro w hSw; (try dsimp only at hSw); (try go_split_ands); go_simp); try with_reducible rfl)
            simp only [Act.put, List.setIfInBounds_toArray, List.set_cons_zero, List.set_cons_succ]
            replace hCl := hCl'; clear hCl'
            refine takeG (i := 6) (d := (some 70)) (v := ?v30) rfl rfl (by kernel_rfl) (by kernel_rfl) (by decide) hCl (by kernel_rfl) (by kernel_rfl) (by kernel_rfl) (fun _ _ _ h => h) (by rfl) ?hy30 (fun _ _ _ => trivial) (by assumption) (fun hCl' => ?_)
            case hy30 => ((intro w hSw; (try dsimp only at hSw); (try go_split_ands); go_simp); try with_reducible rfl)
            simp only [Act.put, List.setIfInBounds_toArray, List.set_cons_zero, List.set_cons_succ]
            replace hCl := hCl'; clear hCl'
            refine nextG (i := 7) (by kernel_rfl) rfl (by rfl) hCl (fun K hK => ?_)
            go_simp
            clear hHeld
            have A1 : Up wr (wr.alloc (.cells #[.int .i64 r0, .int .i64 r1, .int .i64 r2, .int .i64 r3, .int .i64 r4] 61)).drew := Up.drew (Up.alloc (Up.refl wr) _)
            have pl : mblk (wr.alloc (.cells #[.int .i64 r0, .int .i64 r1, .int .i64 r2, .int .i64 r3, .int .i64 r4] 61)).drew wr.heap.size = some (.cells #[.int .i64 r0, .int .i64 r1, .int .i64 r2, .int .i64 r3, .int .i64 r4] 61 (0, 0)) := by rw [blk_drew]; exact blk_new _ _ _ rfl
            have hb1 : bq ≤ wr.heap.size := by omega
            obtain ⟨q7, hq7⟩ : ∃ q, wr.heap.size = q := ⟨_, rfl⟩
            obtain ⟨X1, hX1⟩ : ∃ X, (wr.alloc (.cells #[.int .i64 r0, .int .i64 r1, .int .i64 r2, .int .i64 r3, .int .i64 r4] 61)).drew = X := ⟨_, rfl⟩
            rw [hX1] at A1 pl
            have hb2 := A1.size
            rw [hq7] at pl hb1 hb2
            try rw [hX1]
            try rw [hq7]
            refine hK.out _ _ ⟨U.trans A1, A1.blk kC, A1.blk kM, A1.blk kx, A1.cell2 cc0, A1.cell2 cc1, A1.cell2 cc2, A1.cell2 cc3, A1.cell2 cc4⟩ (fun _ hCl => ?_)
            clear hK K hX1 hq7
            try simp only [Act.put, List.setIfInBounds_toArray, List.set_cons_zero, List.set_cons_succ]
            refine nextG (i := 8) (by kernel_rfl) rfl (by rfl) hCl (fun K hK => ?_)
            have R1 := row_up HO1.out A1
            refine T.opIn_app T.elP (.tmp 65) (.tmp 71) rfl (T.one_pair1 pl) rfl (bq) _ (n) rfl R1 (by omega) (by simp) (by omega) ?_
            intro v2 X2 R2 hg2
            replace R2 : X2.ownsRow (bq) 61 5 v2 (n + 1) _ := R2
            obtain ⟨ra, rc, rfl, _, _⟩ := row_val R2
            have V2 := Up.grown (U.trans A1) hg2 (fun k e => by have := row_base R1 k e; omega)
            have ekC := grown_blk hg2 (A1.blk kC) (row_block R1 (by omega))
            have ekM := grown_blk hg2 (A1.blk kM) (row_block R1 (by omega))
            have ekx := grown_blk hg2 (A1.blk kx) (row_block R1 (by omega))
            have fcc0 := hg2.cell (A1.cell2 cc0) (row_block R1 (show g < bq by omega))
            have fcc1 := hg2.cell (A1.cell2 cc1) (row_block R1 (show g < bq by omega))
            have fcc2 := hg2.cell (A1.cell2 cc2) (row_block R1 (show g < bq by omega))
            have fcc3 := hg2.cell (A1.cell2 cc3) (row_block R1 (show g < bq by omega))
            have fcc4 := hg2.cell (A1.cell2 cc4) (row_block R1 (show g < bq by omega))
            have KHA := row_keep (row_up HA.out A1) hg2 (fun g0 e0 => row_block R1 (HQ2.out.1 g0 e0))
            have hb3 := hg2.size
            refine hK.out _ _ ⟨V2, ekC, ekM, ekx, fcc0, fcc1, fcc2, fcc3, fcc4⟩ (fun _ hCl => ?_)
            clear hK K hg2 pl R1
            try simp only [Act.put, List.setIfInBounds_toArray, List.set_cons_zero, List.set_cons_succ]
            refine takeG (i := 9) (d := (some 73)) (v := ?v32) rfl rfl (by kernel_rfl) (by kernel_rfl) (by decide) hCl (by kernel_rfl) (by kernel_rfl) (by kernel_rfl) (fun _ _ _ h => h) (by rfl) ?hy32 (fun _ _ _ => trivial) (by assumption) (fun hCl' => ?_)
            case hy32 => ((intro w hSw; (try dsimp only at hSw); (try go_split_ands); go_simp); try with_reducible rfl)
            simp only [Act.put, List.setIfInBounds_toArray, List.set_cons_zero, List.set_cons_succ]
            replace hCl := hCl'; clear hCl'
            have zf := frozB ekx
            clear hCl
            refine lastG (i := 10) (by kernel_rfl) rfl (by rfl) (by decide) (fun K hK => ?_)
            go_simp
            obtain ⟨Z201, hZ⟩ : ∃ X, X2.setCell ⟨pkx, 3, none⟩ (.slice ra (n + 1) rc) = X := ⟨_, rfl⟩
            have V3 : Up w Z201 := by rw [← hZ]; exact V2.set (p := ⟨pkx, 3, none⟩) (show w.heap.size ≤ pkx by omega) _
            have hb4 : bq ≤ Z201.heap.size := by rw [← hZ]; simp; omega
            have dkx : mblk Z201 (pkx) = some (.cells #[.int .i64 H, .slice aR rs.length cR, .slice a os.length c, .slice ra (n + 1) rc] 26 (0, 0)) := by rw [← hZ]; exact blk_put ekx 3 _
            have dkC : mblk Z201 (q0) = some (.cells #[.int .i64 H, .slice aR rs.length cR, .slice aO os.length cO, .slice (some ⟨g, off, none⟩) ps.length cP] 26 (0, 0)) := by rw [← hZ, blk_set _ _ _ _ (by show q0 ≠ pkx; omega)]; exact ekC
            have dkM : mblk Z201 (q0 + 1) = some (.cells #[.int .i64 m0, .int .i64 m1, .int .i64 m2, .int .i64 m3, .int .i64 m4] 61 (0, 0)) := by rw [← hZ, blk_set _ _ _ _ (by show q0 + 1 ≠ pkx; omega)]; exact ekM
            have LHA := Lib.hid (row_keep KHA (grown_set X2 (pkx) 3 (.slice ra (n + 1) rc)) (fun g0 e0 => by have := HQ2.out.2 g0 e0; simp; omega))
            rw [hZ] at LHA
            have HO2 := Lib.hid (row_other R2 (grown_set X2 (pkx) 3 (.slice ra (n + 1) rc)) (row_block R2 (show pkx < bq by omega)))
            rw [hZ] at HO2
            try rw [hZ]
            refine hK.out _ _ ?_
            clear hK K hZ V2 R2 zf A1 hb1 hb2 hb3 ekC ekM ekx fcc0 fcc1 fcc2 fcc3 fcc4 cc0 cc1 cc2 cc3 cc4 kC kM kx U KHA HA HO1
            refine doneG (by kernel_rfl) ?_ _
            refine S.nrm_intro ?_
            have U := V3
            clear V3
            have kC := dkC
            clear dkC
            have kM := dkM
            clear dkM
            have kx := dkx
            clear dkx
            have HA := LHA
            clear LHA
            have HO3 := HO2.out
            rw [← HS.out] at HO3
            have HO4 := Lib.hid (show Z201.ownsRow bq 61 5 (.slice ra (n + 1) rc) (n + 1) (T.flat 5 T.encP (ps.drop (((j : Int) - 1 + 1)).toNat).reverse) by rw [show ((j : Int) - 1 + 1).toNat = j by omega]; exact HO3)
            clear HO3 HO2 HS HQ2
            go_wp2_with fail
            have hn := HNN.out
            go_roundw
            case rel => exact ⟨(j : Int) - 1, n + 1, ra, rc, by omega, by omega, by omega, by go_num, HO4, HA, hb4, U, kC, kM, kx⟩
            case measure => (simp only [intOf]; omega)
          · skip
            obtain rfl : z = -1 := by omega
            obtain rfl : n = ps.length := by omega
            have dk : decide ((-1 : Int) ≥ 0) = false := by decide
            have own := HO1.out
            rw [show ((-1 : Int) + 1).toNat = 0 by decide, List.drop_zero] at own
            replace HO1 := Lib.hid own
            clear own hz hz1 hz2 hn
            have c3 : (0 < ps.length ∧ ps.length < 14) ∨ (ps.length = 14) ∨ (ps.length = 0) := by omega
            rcases c3 with hc | hc | hc
            · skip
              have d1 : decide ((ps.length : Int) > 0) = true := decide_eq_true (by omega)
              have d2 : decide ((ps.length : Int) < 14) = true := decide_eq_true (by omega)
              have d3 : ((ps.length : Int) == 14) = false := by rw [beq_eq_false_iff_ne]; omega
              have hlt : 0 < ps.length := hc.1
              have ilt : (0 : Int) < (ps.length : Int) := by omega
              have ilt2 : (ps.length : Int) < 14 := by omega
              obtain ⟨a', c', e', _, _, hm⟩ := (HP.out w (Up.refl w)).is
              injection e' with ea eb ec
              clear eb ec
              obtain ⟨g, off, ga, gl, hx⟩ := hm (by omega)
              subst ea ga
              clear hm
              have st : ps.take 1 = [ps.getD 0 (0, 0, 0, 0, 0)] := by cases ps with | nil => simp at hlt | cons x xs => rfl
              obtain ⟨⟨r0, r1, r2, r3, r4⟩, hss⟩ : ∃ s, ps.getD 0 (0, 0, 0, 0, 0) = s := ⟨_, rfl⟩
              have cc0 := Up.cell2 U (hx 0 hlt 0 (by omega))
              have cc1 := Up.cell2 U (hx 0 hlt 1 (by omega))
              have cc2 := Up.cell2 U (hx 0 hlt 2 (by omega))
              have cc3 := Up.cell2 U (hx 0 hlt 3 (by omega))
              have cc4 := Up.cell2 U (hx 0 hlt 4 (by omega))
              rw [hss] at st cc0 cc1 cc2 cc3 cc4
              rw [Nat.zero_mul, Nat.add_zero] at cc0 cc1 cc2 cc3 cc4
              replace cc0 : wr.cell? ⟨g, off, none⟩ = some (.int .i64 r0) := cc0
              replace cc1 : wr.cell? ⟨g, off + 1, none⟩ = some (.int .i64 r1) := cc1
              replace cc2 : wr.cell? ⟨g, off + 2, none⟩ = some (.int .i64 r2) := cc2
              replace cc3 : wr.cell? ⟨g, off + 3, none⟩ = some (.int .i64 r3) := cc3
              replace cc4 : wr.cell? ⟨g, off + 4, none⟩ = some (.int .i64 r4) := cc4
              have HS := Lib.hid st
              clear hx hss st hc
              have glw := U.size
              go_wp2_with fail
              have hq2 : ∀ g, (Value.slice a os.length c).ownBlock = some g → g < bq := fun g0 e0 => (HAP.out g0 e0).2
              have hq2' : ∀ g, (Value.slice a os.length c).ownBlock = some g → pkx < g := fun g0 e0 => by have := (HAP.out g0 e0).1; omega
              have HQ2 := Lib.hid (And.intro hq2 hq2')
              clear hq2 hq2'
              refine (wpIn_wide (n := 5)).1 ?_
              refine wpIn_nrm ?_
              refine regionG (fun w' => Up w w' ∧ mblk w' (q0) = some (.cells #[.int .i64 H, .slice aR rs.length cR, .slice aO os.length cO, .slice (some ⟨g, off, none⟩) ps.length cP] 26 (0, 0)) ∧ mblk w' (q0 + 1) = some (.cells #[.int .i64 m0, .int .i64 m1, .int .i64 m2, .int .i64 m3, .int .i64 m4] 61 (0, 0)) ∧ mblk w' (pkx) = some (.cells #[.int .i64 H, .slice aR rs.length cR, .slice a os.length c, .slice a2 ps.length c2] 26 (0, 0)) ∧ w'.cell? ⟨g, off, none⟩ = some (.int .i64 r0) ∧ w'.cell? ⟨g, off + 1, none⟩ = some (.int .i64 r1) ∧ w'.cell? ⟨g, off + 2, none⟩ = some (.int .i64 r2) ∧ w'.cell? ⟨g, off + 3, none⟩ = some (.int .i64 r3) ∧ w'.cell? ⟨g, off + 4, none⟩ = some (.int .i64 r4)) 9 hmx ⟨U.drew, (by rw [blk_drew]; exact kC), (by rw [blk_drew]; exact kM), (by rw [blk_drew]; exact kx), cc0, cc1, cc2, cc3, cc4⟩ (fun hHeld hCl => ?_)
              refine takeG (i := 0) (d := (some 84)) (v := ?v34) rfl rfl (by kernel_rfl) (by kernel_rfl) (by decide) hCl (by kernel_rfl) (by kernel_rfl) (by kernel_rfl) (fun _ _ _ h => h) (by rfl) ?hy34 (fun _ _ _ => trivial) (by assumption) (fun hCl' => ?_)
              case hy34 => ((intro w hSw; (try dsimp only at hSw); (try go_split_ands); go_simp); try with_reducible rfl)
              simp only [Act.put, List.setIfInBounds_toArray, List.set_cons_zero, List.set_cons_succ]
              replace hCl := hCl'; clear hCl'
              refine takeG (i := 1) (d := (some 85)) (v := ?v35) rfl rfl (by kernel_rfl) (by kernel_rfl) (by decide) hCl (by kernel_rfl) (by kernel_rfl) (by kernel_rfl) (fun _ _ _ h => h) (by rfl) ?hy35 (fun _ _ _ => trivial) (by assumption) (fun hCl' => ?_)
              case hy35 => ((intro w hSw; (try dsimp only at hSw); (try go_split_ands); go_simp); try with_reducible rfl)
              simp only [Act.put, List.setIfInBounds_toArray, List.set_cons_zero, List.set_cons_succ]
              replace hCl := hCl'; clear hCl'
              refine takeG (i := 2) (d := (some 86)) (v := ?v36) rfl rfl (by kernel_rfl) (by kernel_rfl) (by decide) hCl (by kernel_rfl) (by kernel_rfl) (by kernel_rfl) (fun _ _ _ h => h) (by rfl) ?hy36 (fun _ _ _ => trivial) (by assumption) (fun hCl' => ?_)
              case hy36 => ((intro w hSw; (try dsimp only at hSw); (try go_split_ands); go_simp); try with_reducible rfl)
              simp only [Act.put, List.setIfInBounds_toArray, List.set_cons_zero, List.set_cons_succ]
              replace hCl := hCl'; clear hCl'
              refine takeG (i := 3) (d := (some 87)) (v := ?v37) rfl rfl (by kernel_rfl) (by kernel_rfl) (by decide) hCl (by kernel_rfl) (by kernel_rfl) (by kernel_rfl) (fun _ _ _ h => h) (by rfl) ?hy37 (fun _ _ _ => trivial) (by assumption) (fun hCl' => ?_)
              case hy37 => ((intro w hSw; (try dsimp only at hSw); (try go_split_ands); go_simp); try with_reducible rfl)
              simp only [Act.put, List.setIfInBounds_toArray, List.set_cons_zero, List.set_cons_succ]
              replace hCl := hCl'; clear hCl'
              refine takeG (i := 4) (d := (some 88)) (v := ?v38) rfl rfl (by kernel_rfl) (by kernel_rfl) (by decide) hCl (by kernel_rfl) (by kernel_rfl) (by kernel_rfl) (fun _ _ _ h => h) (by rfl) ?hy38 (fun _ _ _ => trivial) (by assumption) (fun hCl' => ?_)
              case hy38 => ((intro w hSw; (try dsimp only at hSw); (try go_split_ands); go_simp); try with_reducible rfl)
              simp only [Act.put, List.setIfInBounds_toArray, List.set_cons_zero, List.set_cons_succ]
              replace hCl := hCl'; clear hCl'
              refine takeG (i := 5) (d := (some 89)) (v := ?v39) rfl rfl (by kernel_rfl) (by kernel_rfl) (by decide) hCl (by kernel_rfl) (by kernel_rfl) (by kernel_rfl) (fun _ _ _ h => h) (by rfl) ?hy39 (fun _ _ _ => trivial) (by assumption) (fun hCl' => ?_)
              case hy39 => ((intro w hSw; (try dsimp only at hSw); (try go_split_ands); go_simp); try with_reducible rfl)
              simp only [Act.put, List.setIfInBounds_toArray, List.set_cons_zero, List.set_cons_succ]
              replace hCl := hCl'; clear hCl'
              refine nextG (i := 6) (by kernel_rfl) rfl (by rfl) hCl (fun K hK => ?_)
              go_simp
              clear hHeld
              have A1 : Up wr (wr.alloc (.cells #[.int .i64 r0, .int .i64 r1, .int .i64 r2, .int .i64 r3, .int .i64 r4] 61)).drew := Up.drew (Up.alloc (Up.refl wr) _)
              have pl : mblk (wr.alloc (.cells #[.int .i64 r0, .int .i64 r1, .int .i64 r2, .int .i64 r3, .int .i64 r4] 61)).drew wr.heap.size = some (.cells #[.int .i64 r0, .int .i64 r1, .int .i64 r2, .int .i64 r3, .int .i64 r4] 61 (0, 0)) := by rw [blk_drew]; exact blk_new _ _ _ rfl
              have hb1 : bq ≤ wr.heap.size := by omega
              obtain ⟨q7, hq7⟩ : ∃ q, wr.heap.size = q := ⟨_, rfl⟩
              obtain ⟨X1, hX1⟩ : ∃ X, (wr.alloc (.cells #[.int .i64 r0, .int .i64 r1, .int .i64 r2, .int .i64 r3, .int .i64 r4] 61)).drew = X := ⟨_, rfl⟩
              rw [hX1] at A1 pl
              have hb2 := A1.size
              rw [hq7] at pl hb1 hb2
              try rw [hX1]
              try rw [hq7]
              refine hK.out _ _ ⟨U.trans A1, A1.blk kC, A1.blk kM, A1.blk kx, A1.cell2 cc0, A1.cell2 cc1, A1.cell2 cc2, A1.cell2 cc3, A1.cell2 cc4⟩ (fun _ hCl => ?_)
              clear hK K hX1 hq7
              try simp only [Act.put, List.setIfInBounds_toArray, List.set_cons_zero, List.set_cons_succ]
              refine nextG (i := 7) (by kernel_rfl) rfl (by rfl) hCl (fun K hK => ?_)
              have R1 := row_up HO1.out A1
              refine T.opIn_app T.elP (.tmp 85) (.tmp 90) rfl (T.one_pair1 pl) rfl (bq) _ (ps.length) rfl R1 (by omega) (by simp) (by omega) ?_
              intro v2 X2 R2 hg2
              replace R2 : X2.ownsRow (bq) 61 5 v2 (ps.length + 1) _ := R2
              obtain ⟨ra, rc, rfl, _, _⟩ := row_val R2
              have V2 := Up.grown (U.trans A1) hg2 (fun k e => by have := row_base R1 k e; omega)
              have ekC := grown_blk hg2 (A1.blk kC) (row_block R1 (by omega))
              have ekM := grown_blk hg2 (A1.blk kM) (row_block R1 (by omega))
              have ekx := grown_blk hg2 (A1.blk kx) (row_block R1 (by omega))
              have fcc0 := hg2.cell (A1.cell2 cc0) (row_block R1 (show g < bq by omega))
              have fcc1 := hg2.cell (A1.cell2 cc1) (row_block R1 (show g < bq by omega))
              have fcc2 := hg2.cell (A1.cell2 cc2) (row_block R1 (show g < bq by omega))
              have fcc3 := hg2.cell (A1.cell2 cc3) (row_block R1 (show g < bq by omega))
              have fcc4 := hg2.cell (A1.cell2 cc4) (row_block R1 (show g < bq by omega))
              have KHA := row_keep (row_up HA.out A1) hg2 (fun g0 e0 => row_block R1 (HQ2.out.1 g0 e0))
              have hb3 := hg2.size
              refine hK.out _ _ ⟨V2, ekC, ekM, ekx, fcc0, fcc1, fcc2, fcc3, fcc4⟩ (fun _ hCl => ?_)
              clear hK K hg2 pl R1
              try simp only [Act.put, List.setIfInBounds_toArray, List.set_cons_zero, List.set_cons_succ]
              refine takeG (i := 8) (d := (some 92)) (v := ?v41) rfl rfl (by kernel_rfl) (by kernel_rfl) (by decide) hCl (by kernel_rfl) (by kernel_rfl) (by kernel_rfl) (fun _ _ _ h => h) (by rfl) ?hy41 (fun _ _ _ => trivial) (by assumption) (fun hCl' => ?_)
              case hy41 => ((intro w hSw; (try dsimp only at hSw); (try go_split_ands); go_simp); try with_reducible rfl)
              simp only [Act.put, List.setIfInBounds_toArray, List.set_cons_zero, List.set_cons_succ]
              replace hCl := hCl'; clear hCl'
              have zf := frozB ekx
              clear hCl
              refine lastG (i := 9) (by kernel_rfl) rfl (by rfl) (by decide) (fun K hK => ?_)
              go_simp
              obtain ⟨Z301, hZ⟩ : ∃ X, X2.setCell ⟨pkx, 3, none⟩ (.slice ra (ps.length + 1) rc) = X := ⟨_, rfl⟩
              have V3 : Up w Z301 := by rw [← hZ]; exact V2.set (p := ⟨pkx, 3, none⟩) (show w.heap.size ≤ pkx by omega) _
              have hb4 : bq ≤ Z301.heap.size := by rw [← hZ]; simp; omega
              have dkx : mblk Z301 (pkx) = some (.cells #[.int .i64 H, .slice aR rs.length cR, .slice a os.length c, .slice ra (ps.length + 1) rc] 26 (0, 0)) := by rw [← hZ]; exact blk_put ekx 3 _
              have dkC : mblk Z301 (q0) = some (.cells #[.int .i64 H, .slice aR rs.length cR, .slice aO os.length cO, .slice (some ⟨g, off, none⟩) ps.length cP] 26 (0, 0)) := by rw [← hZ, blk_set _ _ _ _ (by show q0 ≠ pkx; omega)]; exact ekC
              have dkM : mblk Z301 (q0 + 1) = some (.cells #[.int .i64 m0, .int .i64 m1, .int .i64 m2, .int .i64 m3, .int .i64 m4] 61 (0, 0)) := by rw [← hZ, blk_set _ _ _ _ (by show q0 + 1 ≠ pkx; omega)]; exact ekM
              have LHA := Lib.hid (row_keep KHA (grown_set X2 (pkx) 3 (.slice ra (ps.length + 1) rc)) (fun g0 e0 => by have := HQ2.out.2 g0 e0; simp; omega))
              rw [hZ] at LHA
              have HO2 := Lib.hid (row_other R2 (grown_set X2 (pkx) 3 (.slice ra (ps.length + 1) rc)) (row_block R2 (show pkx < bq by omega)))
              rw [hZ] at HO2
              try rw [hZ]
              refine hK.out _ _ ?_
              clear hK K hZ V2 R2 zf A1 hb1 hb2 hb3 ekC ekM ekx fcc0 fcc1 fcc2 fcc3 fcc4 cc0 cc1 cc2 cc3 cc4 kC kM kx U KHA HA HO1
              refine doneG (by kernel_rfl) ?_ _
              refine S.nrm_intro ?_
              have U := V3
              clear V3
              have kC := dkC
              clear dkC
              have kM := dkM
              clear dkM
              have kx := dkx
              clear dkx
              have HA := LHA
              clear LHA
              have HO3 := HO2.out
              rw [← HS.out] at HO3
              have HO1 := Lib.hid (show Z301.ownsRow bq 61 5 (.slice ra (ps.length + 1) rc) (ps.length + 1) (T.flat 5 T.encP (ps.reverse ++ (if true then ps.take 1 else []))) by rw [if_pos rfl]; exact HO3)
              clear HO3 HO2 HS HQ2 hb4
              obtain ⟨G, ts, mk⟩ := HG.out
              have hmem : ∀ x, x ∈ ps.reverse ++ (if true then ps.take 1 else []) ↔ x ∈ ps := fun x => T.turned_mem true
              have hlen : (ps.reverse ++ (if true then ps.take 1 else [])).length = ps.length + 1 := by simp; omega
              have IOx : Ops Z301 (.slice a os.length c) os.reverse := Tab.of_row HA.out (by decide) (by omega)
              have IPx : Prs Z301 (.slice ra (ps.length + 1) rc) (ps.reverse ++ (if true then ps.take 1 else [])) := Tab.of_row HO1.out (by decide) (by omega)
              have G' := T.good_turn G (List.reverse_perm os).symm hmem (by omega)
              have tt := ts.move G' (fun y => T.tr_turn (List.reverse_perm os).symm hmem y) mk T.mom_0
              have Ct := Lib.hid (fun w' (u : Up Z301 w') => Offset_tells G' HQ.out.1 HQ.out.2 tt (HI.out _ (U.trans u)) (IOx.up u) (IPx.up u))
              have Uz := Up.refl Z301
              clear G' tt IOx IPx hmem hlen G ts mk HA HO1
              go_wp2_with fail
              refine (Cs.out _ U).mono ?_
              rintro e x302 ⟨rfl, u303⟩
              replace U := U.trans u303
              replace kC := u303.blk kC
              replace kM := u303.blk kM
              replace kx := u303.blk kx
              replace Uz := Uz.trans u303
              clear u303 
              have dkCks := blk_lt kC
              have dkMks := blk_lt kM
              have dkxks := blk_lt kx
              have gks := U.size
              have ks := blk_new x302 (.cells #[.int .i64 ls, .int .i64 hs] 34) _ rfl
              replace kC := blk_keep (.cells #[.int .i64 ls, .int .i64 hs] 34) kC
              replace kM := blk_keep (.cells #[.int .i64 ls, .int .i64 hs] 34) kM
              replace kx := blk_keep (.cells #[.int .i64 ls, .int .i64 hs] 34) kx
              replace U := U.alloc (.cells #[.int .i64 ls, .int .i64 hs] 34)
              replace Uz := Uz.alloc (.cells #[.int .i64 ls, .int .i64 hs] 34)
              obtain ⟨pks, hpks⟩ : ∃ z, x302.heap.size = z := ⟨_, rfl⟩
              obtain ⟨W304, hW304⟩ : ∃ z, x302.alloc (.cells #[.int .i64 ls, .int .i64 hs] 34) = z := ⟨_, rfl⟩
              rw [hpks] at ks dkCks dkMks dkxks gks
              rw [hW304] at ks U kC kM kx Uz
              go_wp2_with fail
              clear hpks hW304
              refine (Ct.out _ Uz).mono ?_
              rintro e x305 ⟨rfl, u306⟩
              replace U := U.trans u306
              replace kC := u306.blk kC
              replace kM := u306.blk kM
              replace kx := u306.blk kx
              replace ks := u306.blk ks
              replace Uz := Uz.trans u306
              clear u306 
              have dkCkt := blk_lt kC
              have dkMkt := blk_lt kM
              have dkxkt := blk_lt kx
              have dkskt := blk_lt ks
              have gkt := U.size
              have kt := blk_new x305 (.cells #[.int .i64 ls, .int .i64 hs] 34) _ rfl
              replace kC := blk_keep (.cells #[.int .i64 ls, .int .i64 hs] 34) kC
              replace kM := blk_keep (.cells #[.int .i64 ls, .int .i64 hs] 34) kM
              replace kx := blk_keep (.cells #[.int .i64 ls, .int .i64 hs] 34) kx
              replace ks := blk_keep (.cells #[.int .i64 ls, .int .i64 hs] 34) ks
              replace U := U.alloc (.cells #[.int .i64 ls, .int .i64 hs] 34)
              replace Uz := Uz.alloc (.cells #[.int .i64 ls, .int .i64 hs] 34)
              obtain ⟨pkt, hpkt⟩ : ∃ z, x305.heap.size = z := ⟨_, rfl⟩
              obtain ⟨W307, hW307⟩ : ∃ z, x305.alloc (.cells #[.int .i64 ls, .int .i64 hs] 34) = z := ⟨_, rfl⟩
              rw [hpkt] at kt dkCkt dkMkt dkxkt dkskt gkt
              rw [hW307] at kt U kC kM kx ks Uz
              go_wp2_with fail
              clear hpkt hW307
              have ii0 := kC
              clear Ct Uz kx kt
              have dkCky := blk_lt kC
              have dkMky := blk_lt kM
              have dksky := blk_lt ks
              have gky := U.size
              have ky := blk_new W307 (.cells #[.int .i64 H, .slice aR rs.length cR, .slice aO os.length cO, .slice (some ⟨g, off, none⟩) ps.length cP] 26) _ rfl
              replace kC := blk_keep (.cells #[.int .i64 H, .slice aR rs.length cR, .slice aO os.length cO, .slice (some ⟨g, off, none⟩) ps.length cP] 26) kC
              replace kM := blk_keep (.cells #[.int .i64 H, .slice aR rs.length cR, .slice aO os.length cO, .slice (some ⟨g, off, none⟩) ps.length cP] 26) kM
              replace ks := blk_keep (.cells #[.int .i64 H, .slice aR rs.length cR, .slice aO os.length cO, .slice (some ⟨g, off, none⟩) ps.length cP] 26) ks
              replace U := U.alloc (.cells #[.int .i64 H, .slice aR rs.length cR, .slice aO os.length cO, .slice (some ⟨g, off, none⟩) ps.length cP] 26)
              obtain ⟨pky, hpky⟩ : ∃ z, W307.heap.size = z := ⟨_, rfl⟩
              obtain ⟨W308, hW308⟩ : ∃ z, W307.alloc (.cells #[.int .i64 H, .slice aR rs.length cR, .slice aO os.length cO, .slice (some ⟨g, off, none⟩) ps.length cP] 26) = z := ⟨_, rfl⟩
              rw [hpky] at ky dkCky dkMky dksky gky
              rw [hW308] at ky U kC kM ks
              skip
              go_wp2_with fail
              try rw [hW308]
              try rw [hpky]
              clear hW308 hpky
              clear ii0
              apply T.mergeB (fun w' b0 v1 b5 g2 cap => Up w w' ∧ mblk w' (q0) = some (.cells #[.int .i64 H, .slice aR rs.length cR, .slice aO os.length cO, .slice (some ⟨g, off, none⟩) ps.length cP] 26 (0, 0)) ∧ mblk w' (q0 + 1) = some (.cells #[.int .i64 m0, .int .i64 m1, .int .i64 m2, .int .i64 m3, .int .i64 m4] 61 (0, 0)) ∧ mblk w' (pks) = some (.cells #[.int .i64 ls, .int .i64 hs] 34 (0, 0)) ∧ mblk w' (pky) = some (.cells #[.int .i64 H, .slice aR rs.length cR, .slice aO os.length cO, .slice (some ⟨g2, 0, none⟩) (ps.length + 1) cap] 26 (0, 0)) ∧ Prs w' (.slice (some ⟨g2, 0, none⟩) (ps.length + 1) cap) (ps ++ [(m0, m1, m2, m3, m4)]))
              · intro HKey
                refine (wpIn_wide (n := 5)).1 ?_
                refine wpIn_nrm ?_
                refine regionG (fun w' => Up w w' ∧ mblk w' (q0) = some (.cells #[.int .i64 H, .slice aR rs.length cR, .slice aO os.length cO, .slice (some ⟨g, off, none⟩) ps.length cP] 26 (0, 0)) ∧ mblk w' (q0 + 1) = some (.cells #[.int .i64 m0, .int .i64 m1, .int .i64 m2, .int .i64 m3, .int .i64 m4] 61 (0, 0)) ∧ mblk w' (pks) = some (.cells #[.int .i64 ls, .int .i64 hs] 34 (0, 0)) ∧ mblk w' (pky) = some (.cells #[.int .i64 H, .slice aR rs.length cR, .slice aO os.length cO, .slice (some ⟨g, off, none⟩) ps.length cP] 26 (0, 0))) 8 hmx ⟨U.drew, (by rw [blk_drew]; exact kC), (by rw [blk_drew]; exact kM), (by rw [blk_drew]; exact ks), (by rw [blk_drew]; exact ky)⟩ (fun hHeld hCl => ?_)
                refine takeG (i := 1) (d := (some 122)) (v := ?v43) rfl rfl (by kernel_rfl) (by kernel_rfl) (by decide) hCl (by kernel_rfl) (by kernel_rfl) (by kernel_rfl) (fun _ _ _ h => h) (by rfl) ?hy43 (fun _ _ _ => trivial) (by assumption) (fun hCl' => ?_)
                case hy43 => ((intro w hSw; (try dsimp only at hSw); (try go_split_ands); go_simp); try with_reducible rfl)
                simp only [Act.put, List.setIfInBounds_toArray, List.set_cons_zero, List.set_cons_succ]
                replace hCl := hCl'; clear hCl'
                refine takeG (i := 4) (d := (some 125)) (v := ?v44) rfl rfl (by kernel_rfl) (by kernel_rfl) (by decide) hCl (by kernel_rfl) (by kernel_rfl) (by kernel_rfl) (fun _ _ _ h => h) (by rfl) ?hy44 (fun _ _ _ => trivial) (by assumption) (fun hCl' => ?_)
                case hy44 => ((intro w hSw; (try dsimp only at hSw); (try go_split_ands); go_simp); try with_reducible rfl)
                simp only [Act.put, List.setIfInBounds_toArray, List.set_cons_zero, List.set_cons_succ]
                replace hCl := hCl'; clear hCl'
                refine takeG (i := 2) (d := (some 123)) (v := ?v45) rfl rfl (by kernel_rfl) (by kernel_rfl) (by decide) hCl (by kernel_rfl) (by kernel_rfl) (by kernel_rfl) (fun _ _ _ h => h) (by rfl) ?hy45 (fun _ _ _ => trivial) (by assumption) (fun hCl' => ?_)
                case hy45 => ((intro w hSw; (try dsimp only at hSw); (try go_split_ands); go_simp); try with_reducible rfl)
                simp only [Act.put, List.setIfInBounds_toArray, List.set_cons_zero, List.set_cons_succ]
                replace hCl := hCl'; clear hCl'
                clear hHeld
                refine nextG2 (i := 0) (j := 5) (by kernel_rfl) rfl rfl (by rfl) (by rfl) hCl ?_ ?_
                · skip
                  refine (fun K hK => ?_)
                  go_simp
                  have A1 : Up W308 (W308.alloc (.cells #[] 61)).drew := Up.drew (Up.alloc (Up.refl W308) _)
                  have b1kC := blk_lt (Up.blk (Up.refl W308) kC)
                  have b1kM := blk_lt (Up.blk (Up.refl W308) kM)
                  have b1ks := blk_lt (Up.blk (Up.refl W308) ks)
                  have b1ky := blk_lt (Up.blk (Up.refl W308) ky)
                  have s1 := Up.size (Up.refl W308)
                  have e1 : W308.heap.size ≤ (W308.alloc (.cells #[] 61)).drew.heap.size := by have := Up.size (Up.drew (Up.alloc (Up.refl W308) (.cells #[] 61))); exact this
                  have R1 := row_up (World.ownsRow_lit (base := W308.heap.size) (e := 61) (size := 5) W308 #[] 0 (Nat.le_refl _) (by unfold maxLen; omega) rfl) (Up.refl _).drew
                  obtain ⟨b0, hqf⟩ : ∃ q, W308.heap.size = q := ⟨_, rfl⟩
                  obtain ⟨X1, hX⟩ : ∃ X, (W308.alloc (.cells #[] 61)).drew = X := ⟨_, rfl⟩
                  rw [hX] at A1 e1 R1
                  rw [hqf] at b1kC b1kM b1ks b1ky s1 e1 R1
                  have z1 : b0 < X1.heap.size := (R1.lt b0 rfl).2
                  try rw [hX]
                  try rw [hqf]
                  refine hK.out _ _ ⟨U.trans A1, Up.blk A1 kC, Up.blk A1 kM, Up.blk A1 ks, Up.blk A1 ky⟩ (fun _ hCl => ?_)
                  clear hK K hX
                  try simp only [Act.put, List.setIfInBounds_toArray, List.set_cons_zero, List.set_cons_succ]
                  refine nextG2 (i := 3) (j := 5) (by kernel_rfl) rfl rfl (by rfl) (by rfl) hCl ?_ ?_
                  · skip
                    refine (fun K hK => ?_)
                    refine T.opIn_app (ys := []) T.elP (.tmp 121) (.tmp 123) rfl (HP.out _ (U.trans A1)) rfl b0 _ 0 rfl R1 (by omega) (by omega) (by omega) ?_
                    intro v1 X2 R2 hg2
                    rw [Nat.zero_add, List.nil_append] at R2
                    have A2 := Up.grown A1 hg2 (fun k e => by have := row_base R1 k e; omega)
                    have z2 : b0 < X2.heap.size := Nat.lt_of_lt_of_le z1 hg2.size
                    refine hK.out _ _ ⟨U.trans A2, Up.blk A2 kC, Up.blk A2 kM, Up.blk A2 ks, Up.blk A2 ky⟩ (fun _ hCl => ?_)
                    clear hK K hg2
                    try simp only [Act.put, List.setIfInBounds_toArray, List.set_cons_zero, List.set_cons_succ]
                    refine nextG (i := 5) (by kernel_rfl) rfl (by rfl) hCl (fun K hK => ?_)
                    go_simp
                    have A3 : Up W308 (X2.alloc (.cells #[.int .i64 m0, .int .i64 m1, .int .i64 m2, .int .i64 m3, .int .i64 m4] 61)) := (Up.alloc A2 _)
                    have b3kC := blk_lt (Up.blk A2 kC)
                    have b3kM := blk_lt (Up.blk A2 kM)
                    have b3ks := blk_lt (Up.blk A2 ks)
                    have b3ky := blk_lt (Up.blk A2 ky)
                    have s3 := Up.size A2
                    have e3 : X2.heap.size ≤ (X2.alloc (.cells #[.int .i64 m0, .int .i64 m1, .int .i64 m2, .int .i64 m3, .int .i64 m4] 61)).heap.size := by have := Up.size ((Up.alloc (Up.refl X2) (.cells #[.int .i64 m0, .int .i64 m1, .int .i64 m2, .int .i64 m3, .int .i64 m4] 61))); exact this
                    have R3 := World.ownsRow.alloc R2 (.cells #[.int .i64 m0, .int .i64 m1, .int .i64 m2, .int .i64 m3, .int .i64 m4] 61)
                    have l3 : mblk (X2.alloc (.cells #[.int .i64 m0, .int .i64 m1, .int .i64 m2, .int .i64 m3, .int .i64 m4] 61)) X2.heap.size = some (.cells #[.int .i64 m0, .int .i64 m1, .int .i64 m2, .int .i64 m3, .int .i64 m4] 61 (0, 0)) := by exact blk_new _ _ _ rfl
                    have h50 : b0 < X2.heap.size := by have := z2; omega
                    obtain ⟨b5, hq⟩ : ∃ q, X2.heap.size = q := ⟨_, rfl⟩
                    obtain ⟨X3, hX⟩ : ∃ X, (X2.alloc (.cells #[.int .i64 m0, .int .i64 m1, .int .i64 m2, .int .i64 m3, .int .i64 m4] 61)) = X := ⟨_, rfl⟩
                    rw [hX] at A3 e3 R3 l3
                    rw [hq] at b3kC b3kM b3ks b3ky s3 e3 l3 h50
                    have z3 : b0 < X3.heap.size := by omega
                    try rw [hX]
                    try rw [hq]
                    refine hK.out _ _ ⟨U.trans A3, Up.blk A3 kC, Up.blk A3 kM, Up.blk A3 ks, Up.blk A3 ky⟩ (fun _ hCl => ?_)
                    clear hK K hX hq
                    try simp only [Act.put, List.setIfInBounds_toArray, List.set_cons_zero, List.set_cons_succ]
                    refine nextG (i := 6) (by kernel_rfl) rfl (by rfl) hCl (fun K hK => ?_)
                    refine T.opIn_app T.elP (.tmp 124) (.tmp 126) rfl (T.one_pair1 l3) rfl b0 _ ps.length rfl R3 (by omega) (by simp) (by omega) ?_
                    intro v2 X4 R4 hg4
                    replace R4 : X4.ownsRow b0 61 5 v2 (ps.length + 1) _ := R4
                    have A4 := Up.grown A3 hg4 (fun k e => by have := row_base R3 k e; omega)
                    obtain ⟨g2, cap, curx, rfl, hg2, hbk, hcap, hcapm, hcs⟩ := row_open R4 (by omega)
                    refine hK.out _ _ ⟨U.trans A4, Up.blk A4 kC, Up.blk A4 kM, Up.blk A4 ks, Up.blk A4 ky⟩ (fun _ hCl => ?_)
                    clear hK K hg4
                    try simp only [Act.put, List.setIfInBounds_toArray, List.set_cons_zero, List.set_cons_succ]
                    refine takeG (i := 7) (d := (some 128)) (v := ?v47) rfl rfl (by kernel_rfl) (by kernel_rfl) (by decide) hCl (by kernel_rfl) (by kernel_rfl) (by kernel_rfl) (fun _ _ _ h => h) (by rfl) ?hy47 (fun _ _ _ => trivial) (by assumption) (fun hCl' => ?_)
                    case hy47 => ((intro w hSw; (try dsimp only at hSw); (try go_split_ands); go_simp); try with_reducible rfl)
                    simp only [Act.put, List.setIfInBounds_toArray, List.set_cons_zero, List.set_cons_succ]
                    replace hCl := hCl'; clear hCl'
                    have pb := Up.blk A4 ky
                    have zf := frozB pb
                    clear hCl
                    refine lastG (i := 8) (by kernel_rfl) rfl (by rfl) (by decide) (fun K hK => ?_)
                    go_simp
                    obtain ⟨Z, hZ⟩ : ∃ X, X4.setCell ⟨pky, 3, none⟩ (.slice (some ⟨g2, 0, none⟩) (ps.length + 1) cap) = X := ⟨_, rfl⟩
                    have hsz := U.size
                    have hlp : pky < b0 := by omega
                    have U5 : Up w Z := by rw [← hZ]; exact Up.set (U.trans A4) (p := ⟨pky, 3, none⟩) (show w.heap.size ≤ pky by omega) _
                    have yky : mblk Z (pky) = some (.cells #[.int .i64 H, .slice aR rs.length cR, .slice aO os.length cO, .slice (some ⟨g2, 0, none⟩) (ps.length + 1) cap] 26 (0, 0)) := by rw [← hZ]; exact blk_put pb 3 _
                    have ykC : mblk Z (q0) = some (.cells #[.int .i64 H, .slice aR rs.length cR, .slice aO os.length cO, .slice (some ⟨g, off, none⟩) ps.length cP] 26 (0, 0)) := by rw [← hZ, blk_set _ _ _ _ (by show q0 ≠ pky; omega)]; exact Up.blk A4 kC
                    have ykM : mblk Z (q0 + 1) = some (.cells #[.int .i64 m0, .int .i64 m1, .int .i64 m2, .int .i64 m3, .int .i64 m4] 61 (0, 0)) := by rw [← hZ, blk_set _ _ _ _ (by show q0 + 1 ≠ pky; omega)]; exact Up.blk A4 kM
                    have yks : mblk Z (pks) = some (.cells #[.int .i64 ls, .int .i64 hs] 34 (0, 0)) := by rw [← hZ, blk_set _ _ _ _ (by show pks ≠ pky; omega)]; exact Up.blk A4 ks
                    have own5 := row_other R4 (grown_set X4 (pky) 3 (.slice (some ⟨g2, 0, none⟩) (ps.length + 1) cap)) (row_block R4 hlp)
                    rw [hZ] at own5
                    have IZ : Prs Z (.slice (some ⟨g2, 0, none⟩) (ps.length + 1) cap) (ps ++ [(m0, m1, m2, m3, m4)]) := Tab.of_row own5 (by decide) (by omega)
                    try rw [hZ]
                    refine hK.out _ _ ?_
                    clear hK K hZ
                    refine doneG (by kernel_rfl) ?_ _
                    refine S.nrm_intro ?_
                    exact HKey.out _ b0 v1 b5 g2 cap ⟨U5, ykC, ykM, yks, yky, IZ⟩
                  · skip
                    refine (fun K hK => ?_)
                    go_simp
                    have A2 : Up W308 (X1.alloc (.cells #[.int .i64 m0, .int .i64 m1, .int .i64 m2, .int .i64 m3, .int .i64 m4] 61)) := (Up.alloc A1 _)
                    have b2kC := blk_lt (Up.blk A1 kC)
                    have b2kM := blk_lt (Up.blk A1 kM)
                    have b2ks := blk_lt (Up.blk A1 ks)
                    have b2ky := blk_lt (Up.blk A1 ky)
                    have s2 := Up.size A1
                    have e2 : X1.heap.size ≤ (X1.alloc (.cells #[.int .i64 m0, .int .i64 m1, .int .i64 m2, .int .i64 m3, .int .i64 m4] 61)).heap.size := by have := Up.size ((Up.alloc (Up.refl X1) (.cells #[.int .i64 m0, .int .i64 m1, .int .i64 m2, .int .i64 m3, .int .i64 m4] 61))); exact this
                    have R2 := World.ownsRow.alloc R1 (.cells #[.int .i64 m0, .int .i64 m1, .int .i64 m2, .int .i64 m3, .int .i64 m4] 61)
                    have l2 : mblk (X1.alloc (.cells #[.int .i64 m0, .int .i64 m1, .int .i64 m2, .int .i64 m3, .int .i64 m4] 61)) X1.heap.size = some (.cells #[.int .i64 m0, .int .i64 m1, .int .i64 m2, .int .i64 m3, .int .i64 m4] 61 (0, 0)) := by exact blk_new _ _ _ rfl
                    have h50 : b0 < X1.heap.size := by have := z1; omega
                    obtain ⟨b5, hq⟩ : ∃ q, X1.heap.size = q := ⟨_, rfl⟩
                    obtain ⟨X2, hX⟩ : ∃ X, (X1.alloc (.cells #[.int .i64 m0, .int .i64 m1, .int .i64 m2, .int .i64 m3, .int .i64 m4] 61)) = X := ⟨_, rfl⟩
                    rw [hX] at A2 e2 R2 l2
                    rw [hq] at b2kC b2kM b2ks b2ky s2 e2 l2 h50
                    have z2 : b0 < X2.heap.size := by omega
                    try rw [hX]
                    try rw [hq]
                    refine hK.out _ _ ⟨U.trans A2, Up.blk A2 kC, Up.blk A2 kM, Up.blk A2 ks, Up.blk A2 ky⟩ (fun _ hCl => ?_)
                    clear hK K hX hq
                    try simp only [Act.put, List.setIfInBounds_toArray, List.set_cons_zero, List.set_cons_succ]
                    refine nextG (i := 3) (by kernel_rfl) rfl (by rfl) hCl (fun K hK => ?_)
                    refine T.opIn_app (ys := []) T.elP (.tmp 121) (.tmp 123) rfl (HP.out _ (U.trans A2)) rfl b0 _ 0 rfl R2 (by omega) (by omega) (by omega) ?_
                    intro v1 X3 R3 hg3
                    rw [Nat.zero_add, List.nil_append] at R3
                    have A3 := Up.grown A2 hg3 (fun k e => by have := row_base R2 k e; omega)
                    have z3 : b0 < X3.heap.size := Nat.lt_of_lt_of_le z2 hg3.size
                    have l3 := grown_blk hg3 l2 (show some b5 ≠ some b0 by simp; omega)
                    refine hK.out _ _ ⟨U.trans A3, Up.blk A3 kC, Up.blk A3 kM, Up.blk A3 ks, Up.blk A3 ky⟩ (fun _ hCl => ?_)
                    clear hK K hg3
                    try simp only [Act.put, List.setIfInBounds_toArray, List.set_cons_zero, List.set_cons_succ]
                    refine nextG (i := 6) (by kernel_rfl) rfl (by rfl) hCl (fun K hK => ?_)
                    refine T.opIn_app T.elP (.tmp 124) (.tmp 126) rfl (T.one_pair1 l3) rfl b0 _ ps.length rfl R3 (by omega) (by simp) (by omega) ?_
                    intro v2 X4 R4 hg4
                    replace R4 : X4.ownsRow b0 61 5 v2 (ps.length + 1) _ := R4
                    have A4 := Up.grown A3 hg4 (fun k e => by have := row_base R3 k e; omega)
                    obtain ⟨g2, cap, curx, rfl, hg2, hbk, hcap, hcapm, hcs⟩ := row_open R4 (by omega)
                    refine hK.out _ _ ⟨U.trans A4, Up.blk A4 kC, Up.blk A4 kM, Up.blk A4 ks, Up.blk A4 ky⟩ (fun _ hCl => ?_)
                    clear hK K hg4
                    try simp only [Act.put, List.setIfInBounds_toArray, List.set_cons_zero, List.set_cons_succ]
                    refine takeG (i := 7) (d := (some 128)) (v := ?v49) rfl rfl (by kernel_rfl) (by kernel_rfl) (by decide) hCl (by kernel_rfl) (by kernel_rfl) (by kernel_rfl) (fun _ _ _ h => h) (by rfl) ?hy49 (fun _ _ _ => trivial) (by assumption) (fun hCl' => ?_)
                    case hy49 => ((intro w hSw; (try dsimp only at hSw); (try go_split_ands); go_simp); try with_reducible rfl)
                    simp only [Act.put, List.setIfInBounds_toArray, List.set_cons_zero, List.set_cons_succ]
                    replace hCl := hCl'; clear hCl'
                    have pb := Up.blk A4 ky
                    have zf := frozB pb
                    clear hCl
                    refine lastG (i := 8) (by kernel_rfl) rfl (by rfl) (by decide) (fun K hK => ?_)
                    go_simp
                    obtain ⟨Z, hZ⟩ : ∃ X, X4.setCell ⟨pky, 3, none⟩ (.slice (some ⟨g2, 0, none⟩) (ps.length + 1) cap) = X := ⟨_, rfl⟩
                    have hsz := U.size
                    have hlp : pky < b0 := by omega
                    have U5 : Up w Z := by rw [← hZ]; exact Up.set (U.trans A4) (p := ⟨pky, 3, none⟩) (show w.heap.size ≤ pky by omega) _
                    have yky : mblk Z (pky) = some (.cells #[.int .i64 H, .slice aR rs.length cR, .slice aO os.length cO, .slice (some ⟨g2, 0, none⟩) (ps.length + 1) cap] 26 (0, 0)) := by rw [← hZ]; exact blk_put pb 3 _
                    have ykC : mblk Z (q0) = some (.cells #[.int .i64 H, .slice aR rs.length cR, .slice aO os.length cO, .slice (some ⟨g, off, none⟩) ps.length cP] 26 (0, 0)) := by rw [← hZ, blk_set _ _ _ _ (by show q0 ≠ pky; omega)]; exact Up.blk A4 kC
                    have ykM : mblk Z (q0 + 1) = some (.cells #[.int .i64 m0, .int .i64 m1, .int .i64 m2, .int .i64 m3, .int .i64 m4] 61 (0, 0)) := by rw [← hZ, blk_set _ _ _ _ (by show q0 + 1 ≠ pky; omega)]; exact Up.blk A4 kM
                    have yks : mblk Z (pks) = some (.cells #[.int .i64 ls, .int .i64 hs] 34 (0, 0)) := by rw [← hZ, blk_set _ _ _ _ (by show pks ≠ pky; omega)]; exact Up.blk A4 ks
                    have own5 := row_other R4 (grown_set X4 (pky) 3 (.slice (some ⟨g2, 0, none⟩) (ps.length + 1) cap)) (row_block R4 hlp)
                    rw [hZ] at own5
                    have IZ : Prs Z (.slice (some ⟨g2, 0, none⟩) (ps.length + 1) cap) (ps ++ [(m0, m1, m2, m3, m4)]) := Tab.of_row own5 (by decide) (by omega)
                    try rw [hZ]
                    refine hK.out _ _ ?_
                    clear hK K hZ
                    refine doneG (by kernel_rfl) ?_ _
                    refine S.nrm_intro ?_
                    exact HKey.out _ b0 v1 b5 g2 cap ⟨U5, ykC, ykM, yks, yky, IZ⟩
                · skip
                  refine (fun K hK => ?_)
                  go_simp
                  have A1 : Up W308 (W308.alloc (.cells #[.int .i64 m0, .int .i64 m1, .int .i64 m2, .int .i64 m3, .int .i64 m4] 61)).drew := Up.drew (Up.alloc (Up.refl W308) _)
                  have b1kC := blk_lt (Up.blk (Up.refl W308) kC)
                  have b1kM := blk_lt (Up.blk (Up.refl W308) kM)
                  have b1ks := blk_lt (Up.blk (Up.refl W308) ks)
                  have b1ky := blk_lt (Up.blk (Up.refl W308) ky)
                  have s1 := Up.size (Up.refl W308)
                  have e1 : W308.heap.size ≤ (W308.alloc (.cells #[.int .i64 m0, .int .i64 m1, .int .i64 m2, .int .i64 m3, .int .i64 m4] 61)).drew.heap.size := by have := Up.size (Up.drew (Up.alloc (Up.refl W308) (.cells #[.int .i64 m0, .int .i64 m1, .int .i64 m2, .int .i64 m3, .int .i64 m4] 61))); exact this
                  have l1 : mblk (W308.alloc (.cells #[.int .i64 m0, .int .i64 m1, .int .i64 m2, .int .i64 m3, .int .i64 m4] 61)).drew W308.heap.size = some (.cells #[.int .i64 m0, .int .i64 m1, .int .i64 m2, .int .i64 m3, .int .i64 m4] 61 (0, 0)) := by rw [blk_drew]; exact blk_new _ _ _ rfl
                  obtain ⟨b5, hqf⟩ : ∃ q, W308.heap.size = q := ⟨_, rfl⟩
                  obtain ⟨X1, hX⟩ : ∃ X, (W308.alloc (.cells #[.int .i64 m0, .int .i64 m1, .int .i64 m2, .int .i64 m3, .int .i64 m4] 61)).drew = X := ⟨_, rfl⟩
                  rw [hX] at A1 e1 l1
                  rw [hqf] at b1kC b1kM b1ks b1ky s1 e1 l1
                  try rw [hX]
                  try rw [hqf]
                  refine hK.out _ _ ⟨U.trans A1, Up.blk A1 kC, Up.blk A1 kM, Up.blk A1 ks, Up.blk A1 ky⟩ (fun _ hCl => ?_)
                  clear hK K hX
                  try simp only [Act.put, List.setIfInBounds_toArray, List.set_cons_zero, List.set_cons_succ]
                  refine nextG (i := 0) (by kernel_rfl) rfl (by rfl) hCl (fun K hK => ?_)
                  go_simp
                  have A2 : Up W308 (X1.alloc (.cells #[] 61)) := (Up.alloc A1 _)
                  have b2kC := blk_lt (Up.blk A1 kC)
                  have b2kM := blk_lt (Up.blk A1 kM)
                  have b2ks := blk_lt (Up.blk A1 ks)
                  have b2ky := blk_lt (Up.blk A1 ky)
                  have s2 := Up.size A1
                  have e2 : X1.heap.size ≤ (X1.alloc (.cells #[] 61)).heap.size := by have := Up.size ((Up.alloc (Up.refl X1) (.cells #[] 61))); exact this
                  have R2 := World.ownsRow_lit (base := X1.heap.size) (e := 61) (size := 5) X1 #[] 0 (Nat.le_refl _) (by unfold maxLen; omega) rfl
                  have l2 := blk_keep (.cells #[] 61) l1
                  have h05 : b5 < X1.heap.size := blk_lt l1
                  obtain ⟨b0, hq⟩ : ∃ q, X1.heap.size = q := ⟨_, rfl⟩
                  obtain ⟨X2, hX⟩ : ∃ X, (X1.alloc (.cells #[] 61)) = X := ⟨_, rfl⟩
                  rw [hX] at A2 e2 R2 l2
                  rw [hq] at b2kC b2kM b2ks b2ky s2 e2 R2 h05
                  have z2 : b0 < X2.heap.size := (R2.lt b0 rfl).2
                  try rw [hX]
                  try rw [hq]
                  refine hK.out _ _ ⟨U.trans A2, Up.blk A2 kC, Up.blk A2 kM, Up.blk A2 ks, Up.blk A2 ky⟩ (fun _ hCl => ?_)
                  clear hK K hX hq
                  try simp only [Act.put, List.setIfInBounds_toArray, List.set_cons_zero, List.set_cons_succ]
                  refine nextG (i := 3) (by kernel_rfl) rfl (by rfl) hCl (fun K hK => ?_)
                  refine T.opIn_app (ys := []) T.elP (.tmp 121) (.tmp 123) rfl (HP.out _ (U.trans A2)) rfl b0 _ 0 rfl R2 (by omega) (by omega) (by omega) ?_
                  intro v1 X3 R3 hg3
                  rw [Nat.zero_add, List.nil_append] at R3
                  have A3 := Up.grown A2 hg3 (fun k e => by have := row_base R2 k e; omega)
                  have z3 : b0 < X3.heap.size := Nat.lt_of_lt_of_le z2 hg3.size
                  have l3 := grown_blk hg3 l2 (show some b5 ≠ some b0 by simp; omega)
                  refine hK.out _ _ ⟨U.trans A3, Up.blk A3 kC, Up.blk A3 kM, Up.blk A3 ks, Up.blk A3 ky⟩ (fun _ hCl => ?_)
                  clear hK K hg3
                  try simp only [Act.put, List.setIfInBounds_toArray, List.set_cons_zero, List.set_cons_succ]
                  refine nextG (i := 6) (by kernel_rfl) rfl (by rfl) hCl (fun K hK => ?_)
                  refine T.opIn_app T.elP (.tmp 124) (.tmp 126) rfl (T.one_pair1 l3) rfl b0 _ ps.length rfl R3 (by omega) (by simp) (by omega) ?_
                  intro v2 X4 R4 hg4
                  replace R4 : X4.ownsRow b0 61 5 v2 (ps.length + 1) _ := R4
                  have A4 := Up.grown A3 hg4 (fun k e => by have := row_base R3 k e; omega)
                  obtain ⟨g2, cap, curx, rfl, hg2, hbk, hcap, hcapm, hcs⟩ := row_open R4 (by omega)
                  refine hK.out _ _ ⟨U.trans A4, Up.blk A4 kC, Up.blk A4 kM, Up.blk A4 ks, Up.blk A4 ky⟩ (fun _ hCl => ?_)
                  clear hK K hg4
                  try simp only [Act.put, List.setIfInBounds_toArray, List.set_cons_zero, List.set_cons_succ]
                  refine takeG (i := 7) (d := (some 128)) (v := ?v52) rfl rfl (by kernel_rfl) (by kernel_rfl) (by decide) hCl (by kernel_rfl) (by kernel_rfl) (by kernel_rfl) (fun _ _ _ h => h) (by rfl) ?hy52 (fun _ _ _ => trivial) (by assumption) (fun hCl' => ?_)
                  case hy52 => ((intro w hSw; (try dsimp only at hSw); (try go_split_ands); go_simp); try with_reducible rfl)
                  simp only [Act.put, List.setIfInBounds_toArray, List.set_cons_zero, List.set_cons_succ]
                  replace hCl := hCl'; clear hCl'
                  have pb := Up.blk A4 ky
                  have zf := frozB pb
                  clear hCl
                  refine lastG (i := 8) (by kernel_rfl) rfl (by rfl) (by decide) (fun K hK => ?_)
                  go_simp
                  obtain ⟨Z, hZ⟩ : ∃ X, X4.setCell ⟨pky, 3, none⟩ (.slice (some ⟨g2, 0, none⟩) (ps.length + 1) cap) = X := ⟨_, rfl⟩
                  have hsz := U.size
                  have hlp : pky < b0 := by omega
                  have U5 : Up w Z := by rw [← hZ]; exact Up.set (U.trans A4) (p := ⟨pky, 3, none⟩) (show w.heap.size ≤ pky by omega) _
                  have yky : mblk Z (pky) = some (.cells #[.int .i64 H, .slice aR rs.length cR, .slice aO os.length cO, .slice (some ⟨g2, 0, none⟩) (ps.length + 1) cap] 26 (0, 0)) := by rw [← hZ]; exact blk_put pb 3 _
                  have ykC : mblk Z (q0) = some (.cells #[.int .i64 H, .slice aR rs.length cR, .slice aO os.length cO, .slice (some ⟨g, off, none⟩) ps.length cP] 26 (0, 0)) := by rw [← hZ, blk_set _ _ _ _ (by show q0 ≠ pky; omega)]; exact Up.blk A4 kC
                  have ykM : mblk Z (q0 + 1) = some (.cells #[.int .i64 m0, .int .i64 m1, .int .i64 m2, .int .i64 m3, .int .i64 m4] 61 (0, 0)) := by rw [← hZ, blk_set _ _ _ _ (by show q0 + 1 ≠ pky; omega)]; exact Up.blk A4 kM
                  have yks : mblk Z (pks) = some (.cells #[.int .i64 ls, .int .i64 hs] 34 (0, 0)) := by rw [← hZ, blk_set _ _ _ _ (by show pks ≠ pky; omega)]; exact Up.blk A4 ks
                  have own5 := row_other R4 (grown_set X4 (pky) 3 (.slice (some ⟨g2, 0, none⟩) (ps.length + 1) cap)) (row_block R4 hlp)
                  rw [hZ] at own5
                  have IZ : Prs Z (.slice (some ⟨g2, 0, none⟩) (ps.length + 1) cap) (ps ++ [(m0, m1, m2, m3, m4)]) := Tab.of_row own5 (by decide) (by omega)
                  try rw [hZ]
                  refine hK.out _ _ ?_
                  clear hK K hZ
                  refine doneG (by kernel_rfl) ?_ _
                  refine S.nrm_intro ?_
                  exact HKey.out _ b0 v1 b5 g2 cap ⟨U5, ykC, ykM, yks, yky, IZ⟩
              clear U kC kM ks ky
              rintro Z309 b0 v1 b5 g2 cap ⟨U, kC, kM, ks, ky, IZ⟩
              have Cu := Lib.hid (fun w' (u : Up Z309 w') => HM.out w' _ _ _ _ _ _ (HI.out _ (U.trans u)) (HO.out _ (U.trans u)) (IZ.up u))
              have Uz := Up.refl Z309
              clear IZ
              rcases Hm.out with ⟨rfl, rfl, f1, f2⟩ | ⟨rfl, rfl, rfl⟩ | ⟨rfl, rfl, rfl⟩
              clear kM
              · skip
                go_wp2_with fail
                refine (Cu.out _ Uz).mono ?_
                rintro e x330 ⟨rfl, u331⟩
                replace U := U.trans u331
                replace kC := u331.blk kC
                replace ks := u331.blk ks
                replace ky := u331.blk ky
                replace Uz := Uz.trans u331
                clear u331 
                have dkCku := blk_lt kC
                have dksku := blk_lt ks
                have dkyku := blk_lt ky
                have gku := U.size
                have ku := blk_new x330 (.cells #[.int .i64 lm, .int .i64 um] 34) _ rfl
                replace kC := blk_keep (.cells #[.int .i64 lm, .int .i64 um] 34) kC
                replace ks := blk_keep (.cells #[.int .i64 lm, .int .i64 um] 34) ks
                replace ky := blk_keep (.cells #[.int .i64 lm, .int .i64 um] 34) ky
                replace U := U.alloc (.cells #[.int .i64 lm, .int .i64 um] 34)
                replace Uz := Uz.alloc (.cells #[.int .i64 lm, .int .i64 um] 34)
                obtain ⟨pku, hpku⟩ : ∃ z, x330.heap.size = z := ⟨_, rfl⟩
                obtain ⟨W332, hW332⟩ : ∃ z, x330.alloc (.cells #[.int .i64 lm, .int .i64 um] 34) = z := ⟨_, rfl⟩
                rw [hpku] at ku dkCku dksku dkyku gku
                rw [hW332] at ku U kC ks ky Uz
                go_wp2_with fail
                clear hpku hW332
                have HWi := Lib.hid (fun w => show Calls Try.prog 36 #[SpV lm um, SpV ls hs] w fun e w' => e = .returned (.bool true) ∧ Up w w' by rw [← decide_eq_true (show ls ≤ lm ∧ um ≤ hs from ⟨f1, f2⟩)]; exact B_Within_any _ _ _ _ w)
                refine (HWi.out _).mono ?_
                rintro e x333 ⟨rfl, u334⟩
                replace U := U.trans u334
                replace kC := u334.blk kC
                replace ks := u334.blk ks
                replace ky := u334.blk ky
                replace ku := u334.blk ku
                replace Uz := Uz.trans u334
                clear u334 
                go_wp2_with fail
                refine (HW.out _).mono ?_
                rintro e x335 ⟨rfl, u336⟩
                replace U := U.trans u336
                replace kC := u336.blk kC
                replace ks := u336.blk ks
                replace ky := u336.blk ky
                replace ku := u336.blk ku
                replace Uz := Uz.trans u336
                clear u336 
                go_wp2
                go_ret
                exact ⟨rfl, U⟩
              · skip
                go_wp2_with fail
                refine (Cu.out _ Uz).mono ?_
                rintro e x330 ⟨rfl, u331⟩
                replace U := U.trans u331
                replace kC := u331.blk kC
                replace ks := u331.blk ks
                replace ky := u331.blk ky
                replace Uz := Uz.trans u331
                clear u331 
                have dkCku := blk_lt kC
                have dksku := blk_lt ks
                have dkyku := blk_lt ky
                have gku := U.size
                have ku := blk_new x330 (.cells #[.int .i64 0, .int .i64 0] 34) _ rfl
                replace kC := blk_keep (.cells #[.int .i64 0, .int .i64 0] 34) kC
                replace ks := blk_keep (.cells #[.int .i64 0, .int .i64 0] 34) ks
                replace ky := blk_keep (.cells #[.int .i64 0, .int .i64 0] 34) ky
                replace U := U.alloc (.cells #[.int .i64 0, .int .i64 0] 34)
                replace Uz := Uz.alloc (.cells #[.int .i64 0, .int .i64 0] 34)
                go_wp2_with fail
                obtain ⟨pku, hpku⟩ : ∃ z, x330.heap.size = z := ⟨_, rfl⟩
                obtain ⟨W332, hW332⟩ : ∃ z, x330.alloc (.cells #[.int .i64 0, .int .i64 0] 34) = z := ⟨_, rfl⟩
                rw [hpku] at ku dkCku dksku dkyku gku
                rw [hW332] at ku U kC ks ky Uz
                rw [hW332, hpku]
                go_wp2_with fail
                clear hpku hW332
                refine (HW.out _).mono ?_
                rintro e x333 ⟨rfl, u334⟩
                replace U := U.trans u334
                replace kC := u334.blk kC
                replace ks := u334.blk ks
                replace ky := u334.blk ky
                replace ku := u334.blk ku
                replace Uz := Uz.trans u334
                clear u334 
                go_wp2
                go_ret
                exact ⟨rfl, U⟩
              · skip
                go_wp2_with fail
                refine (Cu.out _ Uz).mono ?_
                rintro e x330 ⟨rfl, u331⟩
                replace U := U.trans u331
                replace kC := u331.blk kC
                replace ks := u331.blk ks
                replace ky := u331.blk ky
                replace Uz := Uz.trans u331
                clear u331 
                have dkCku := blk_lt kC
                have dksku := blk_lt ks
                have dkyku := blk_lt ky
                have gku := U.size
                have ku := blk_new x330 (.cells #[.int .i64 0, .int .i64 0] 34) _ rfl
                replace kC := blk_keep (.cells #[.int .i64 0, .int .i64 0] 34) kC
                replace ks := blk_keep (.cells #[.int .i64 0, .int .i64 0] 34) ks
                replace ky := blk_keep (.cells #[.int .i64 0, .int .i64 0] 34) ky
                replace U := U.alloc (.cells #[.int .i64 0, .int .i64 0] 34)
                replace Uz := Uz.alloc (.cells #[.int .i64 0, .int .i64 0] 34)
                go_wp2_with fail
                obtain ⟨pku, hpku⟩ : ∃ z, x330.heap.size = z := ⟨_, rfl⟩
                obtain ⟨W332, hW332⟩ : ∃ z, x330.alloc (.cells #[.int .i64 0, .int .i64 0] 34) = z := ⟨_, rfl⟩
                rw [hpku] at ku dkCku dksku dkyku gku
                rw [hW332] at ku U kC ks ky Uz
                rw [hW332, hpku]
                go_wp2_with fail
                clear hpku hW332
                refine (HW.out _).mono ?_
                rintro e x333 ⟨rfl, u334⟩
                replace U := U.trans u334
                replace kC := u334.blk kC
                replace ks := u334.blk ks
                replace ky := u334.blk ky
                replace ku := u334.blk ku
                replace Uz := Uz.trans u334
                clear u334 
                go_wp2
                go_ret
                exact ⟨rfl, U⟩
            · skip
              have d1 : decide ((ps.length : Int) > 0) = true := decide_eq_true (by omega)
              have d2 : decide ((ps.length : Int) < 14) = false := decide_eq_false (by omega)
              have d3 : ((ps.length : Int) == 14) = true := by rw [beq_iff_eq]; omega
              have ilt : (0 : Int) < (ps.length : Int) := by omega
              have ilt2 : ¬ (ps.length : Int) < 14 := by omega
              replace HO1 := Lib.hid (show wr.ownsRow bq 61 5 (.slice a2 ps.length c2) ps.length (T.flat 5 T.encP (ps.reverse ++ (if false then ps.take 1 else []))) by rw [if_neg (by decide), List.append_nil]; exact HO1.out)
              clear hc hb0
              obtain ⟨G, ts, mk⟩ := HG.out
              have hmem : ∀ x, x ∈ ps.reverse ++ (if false then ps.take 1 else []) ↔ x ∈ ps := fun x => T.turned_mem false
              have hlen : (ps.reverse ++ (if false then ps.take 1 else [])).length = ps.length := by simp
              have IOx : Ops wr (.slice a os.length c) os.reverse := Tab.of_row HA.out (by decide) (by omega)
              have IPx : Prs wr (.slice a2 ps.length c2) (ps.reverse ++ (if false then ps.take 1 else [])) := Tab.of_row HO1.out (by decide) (by omega)
              have G' := T.good_turn G (List.reverse_perm os).symm hmem (by omega)
              have tt := ts.move G' (fun y => T.tr_turn (List.reverse_perm os).symm hmem y) mk T.mom_0
              have Ct := Lib.hid (fun w' (u : Up wr w') => Offset_tells G' HQ.out.1 HQ.out.2 tt (HI.out _ (U.trans u)) (IOx.up u) (IPx.up u))
              have Uz := Up.refl wr
              clear G' tt IOx IPx hmem hlen G ts mk HA HO1
              go_wp2_with fail
              refine (Cs.out _ U).mono ?_
              rintro e x401 ⟨rfl, u402⟩
              replace U := U.trans u402
              replace kC := u402.blk kC
              replace kM := u402.blk kM
              replace kx := u402.blk kx
              replace Uz := Uz.trans u402
              clear u402 
              have dkCks := blk_lt kC
              have dkMks := blk_lt kM
              have dkxks := blk_lt kx
              have gks := U.size
              have ks := blk_new x401 (.cells #[.int .i64 ls, .int .i64 hs] 34) _ rfl
              replace kC := blk_keep (.cells #[.int .i64 ls, .int .i64 hs] 34) kC
              replace kM := blk_keep (.cells #[.int .i64 ls, .int .i64 hs] 34) kM
              replace kx := blk_keep (.cells #[.int .i64 ls, .int .i64 hs] 34) kx
              replace U := U.alloc (.cells #[.int .i64 ls, .int .i64 hs] 34)
              replace Uz := Uz.alloc (.cells #[.int .i64 ls, .int .i64 hs] 34)
              obtain ⟨pks, hpks⟩ : ∃ z, x401.heap.size = z := ⟨_, rfl⟩
              obtain ⟨W403, hW403⟩ : ∃ z, x401.alloc (.cells #[.int .i64 ls, .int .i64 hs] 34) = z := ⟨_, rfl⟩
              rw [hpks] at ks dkCks dkMks dkxks gks
              rw [hW403] at ks U kC kM kx Uz
              go_wp2_with fail
              clear hpks hW403
              refine (Ct.out _ Uz).mono ?_
              rintro e x404 ⟨rfl, u405⟩
              replace U := U.trans u405
              replace kC := u405.blk kC
              replace kM := u405.blk kM
              replace kx := u405.blk kx
              replace ks := u405.blk ks
              replace Uz := Uz.trans u405
              clear u405 
              have dkCkt := blk_lt kC
              have dkMkt := blk_lt kM
              have dkxkt := blk_lt kx
              have dkskt := blk_lt ks
              have gkt := U.size
              have kt := blk_new x404 (.cells #[.int .i64 ls, .int .i64 hs] 34) _ rfl
              replace kC := blk_keep (.cells #[.int .i64 ls, .int .i64 hs] 34) kC
              replace kM := blk_keep (.cells #[.int .i64 ls, .int .i64 hs] 34) kM
              replace kx := blk_keep (.cells #[.int .i64 ls, .int .i64 hs] 34) kx
              replace ks := blk_keep (.cells #[.int .i64 ls, .int .i64 hs] 34) ks
              replace U := U.alloc (.cells #[.int .i64 ls, .int .i64 hs] 34)
              replace Uz := Uz.alloc (.cells #[.int .i64 ls, .int .i64 hs] 34)
              obtain ⟨pkt, hpkt⟩ : ∃ z, x404.heap.size = z := ⟨_, rfl⟩
              obtain ⟨W406, hW406⟩ : ∃ z, x404.alloc (.cells #[.int .i64 ls, .int .i64 hs] 34) = z := ⟨_, rfl⟩
              rw [hpkt] at kt dkCkt dkMkt dkxkt dkskt gkt
              rw [hW406] at kt U kC kM kx ks Uz
              go_wp2_with fail
              clear hpkt hW406
              refine (HW.out _).mono ?_
              rintro e x407 ⟨rfl, u408⟩
              replace U := U.trans u408
              replace kC := u408.blk kC
              replace kM := u408.blk kM
              replace kx := u408.blk kx
              replace ks := u408.blk ks
              replace kt := u408.blk kt
              replace Uz := Uz.trans u408
              clear u408 
              go_wp2
              go_ret
              exact ⟨rfl, U⟩
            · skip
              have d1 : decide ((ps.length : Int) > 0) = false := decide_eq_false (by omega)
              have d3 : ((ps.length : Int) == 14) = false := by rw [beq_eq_false_iff_ne]; omega
              have ilt : ¬ (0 : Int) < (ps.length : Int) := by omega
              replace HO1 := Lib.hid (show wr.ownsRow bq 61 5 (.slice a2 ps.length c2) ps.length (T.flat 5 T.encP (ps.reverse ++ (if false then ps.take 1 else []))) by rw [if_neg (by decide), List.append_nil]; exact HO1.out)
              clear hc hb0
              obtain ⟨G, ts, mk⟩ := HG.out
              have hmem : ∀ x, x ∈ ps.reverse ++ (if false then ps.take 1 else []) ↔ x ∈ ps := fun x => T.turned_mem false
              have hlen : (ps.reverse ++ (if false then ps.take 1 else [])).length = ps.length := by simp
              have IOx : Ops wr (.slice a os.length c) os.reverse := Tab.of_row HA.out (by decide) (by omega)
              have IPx : Prs wr (.slice a2 ps.length c2) (ps.reverse ++ (if false then ps.take 1 else [])) := Tab.of_row HO1.out (by decide) (by omega)
              have G' := T.good_turn G (List.reverse_perm os).symm hmem (by omega)
              have tt := ts.move G' (fun y => T.tr_turn (List.reverse_perm os).symm hmem y) mk T.mom_0
              have Ct := Lib.hid (fun w' (u : Up wr w') => Offset_tells G' HQ.out.1 HQ.out.2 tt (HI.out _ (U.trans u)) (IOx.up u) (IPx.up u))
              have Uz := Up.refl wr
              clear G' tt IOx IPx hmem hlen G ts mk HA HO1
              go_wp2_with fail
              refine (Cs.out _ U).mono ?_
              rintro e x401 ⟨rfl, u402⟩
              replace U := U.trans u402
              replace kC := u402.blk kC
              replace kM := u402.blk kM
              replace kx := u402.blk kx
              replace Uz := Uz.trans u402
              clear u402 
              have dkCks := blk_lt kC
              have dkMks := blk_lt kM
              have dkxks := blk_lt kx
              have gks := U.size
              have ks := blk_new x401 (.cells #[.int .i64 ls, .int .i64 hs] 34) _ rfl
              replace kC := blk_keep (.cells #[.int .i64 ls, .int .i64 hs] 34) kC
              replace kM := blk_keep (.cells #[.int .i64 ls, .int .i64 hs] 34) kM
              replace kx := blk_keep (.cells #[.int .i64 ls, .int .i64 hs] 34) kx
              replace U := U.alloc (.cells #[.int .i64 ls, .int .i64 hs] 34)
              replace Uz := Uz.alloc (.cells #[.int .i64 ls, .int .i64 hs] 34)
              obtain ⟨pks, hpks⟩ : ∃ z, x401.heap.size = z := ⟨_, rfl⟩
              obtain ⟨W403, hW403⟩ : ∃ z, x401.alloc (.cells #[.int .i64 ls, .int .i64 hs] 34) = z := ⟨_, rfl⟩
              rw [hpks] at ks dkCks dkMks dkxks gks
              rw [hW403] at ks U kC kM kx Uz
              go_wp2_with fail
              clear hpks hW403
              refine (Ct.out _ Uz).mono ?_
              rintro e x404 ⟨rfl, u405⟩
              replace U := U.trans u405
              replace kC := u405.blk kC
              replace kM := u405.blk kM
              replace kx := u405.blk kx
              replace ks := u405.blk ks
              replace Uz := Uz.trans u405
              clear u405 
              have dkCkt := blk_lt kC
              have dkMkt := blk_lt kM
              have dkxkt := blk_lt kx
              have dkskt := blk_lt ks
              have gkt := U.size
              have kt := blk_new x404 (.cells #[.int .i64 ls, .int .i64 hs] 34) _ rfl
              replace kC := blk_keep (.cells #[.int .i64 ls, .int .i64 hs] 34) kC
              replace kM := blk_keep (.cells #[.int .i64 ls, .int .i64 hs] 34) kM
              replace kx := blk_keep (.cells #[.int .i64 ls, .int .i64 hs] 34) kx
              replace ks := blk_keep (.cells #[.int .i64 ls, .int .i64 hs] 34) ks
              replace U := U.alloc (.cells #[.int .i64 ls, .int .i64 hs] 34)
              replace Uz := Uz.alloc (.cells #[.int .i64 ls, .int .i64 hs] 34)
              obtain ⟨pkt, hpkt⟩ : ∃ z, x404.heap.size = z := ⟨_, rfl⟩
              obtain ⟨W406, hW406⟩ : ∃ z, x404.alloc (.cells #[.int .i64 ls, .int .i64 hs] 34) = z := ⟨_, rfl⟩
              rw [hpkt] at kt dkCkt dkMkt dkxkt dkskt gkt
              rw [hW406] at kt U kC kM kx ks Uz
              go_wp2_with fail
              clear hpkt hW406
              have ii0 := kC
              clear Ct Uz kx kt
              have dkCky := blk_lt kC
              have dkMky := blk_lt kM
              have dksky := blk_lt ks
              have gky := U.size
              have ky := blk_new W406 (.cells #[.int .i64 H, .slice aR rs.length cR, .slice aO os.length cO, .slice aP ps.length cP] 26) _ rfl
              replace kC := blk_keep (.cells #[.int .i64 H, .slice aR rs.length cR, .slice aO os.length cO, .slice aP ps.length cP] 26) kC
              replace kM := blk_keep (.cells #[.int .i64 H, .slice aR rs.length cR, .slice aO os.length cO, .slice aP ps.length cP] 26) kM
              replace ks := blk_keep (.cells #[.int .i64 H, .slice aR rs.length cR, .slice aO os.length cO, .slice aP ps.length cP] 26) ks
              replace U := U.alloc (.cells #[.int .i64 H, .slice aR rs.length cR, .slice aO os.length cO, .slice aP ps.length cP] 26)
              obtain ⟨pky, hpky⟩ : ∃ z, W406.heap.size = z := ⟨_, rfl⟩
              obtain ⟨W407, hW407⟩ : ∃ z, W406.alloc (.cells #[.int .i64 H, .slice aR rs.length cR, .slice aO os.length cO, .slice aP ps.length cP] 26) = z := ⟨_, rfl⟩
              rw [hpky] at ky dkCky dkMky dksky gky
              rw [hW407] at ky U kC kM ks
              skip
              go_wp2_with fail
              try rw [hW407]
              try rw [hpky]
              clear hW407 hpky
              clear ii0
              apply T.mergeB (fun w' b0 v1 b5 g2 cap => Up w w' ∧ mblk w' (q0) = some (.cells #[.int .i64 H, .slice aR rs.length cR, .slice aO os.length cO, .slice aP ps.length cP] 26 (0, 0)) ∧ mblk w' (q0 + 1) = some (.cells #[.int .i64 m0, .int .i64 m1, .int .i64 m2, .int .i64 m3, .int .i64 m4] 61 (0, 0)) ∧ mblk w' (pks) = some (.cells #[.int .i64 ls, .int .i64 hs] 34 (0, 0)) ∧ mblk w' (pky) = some (.cells #[.int .i64 H, .slice aR rs.length cR, .slice aO os.length cO, .slice (some ⟨g2, 0, none⟩) (ps.length + 1) cap] 26 (0, 0)) ∧ Prs w' (.slice (some ⟨g2, 0, none⟩) (ps.length + 1) cap) (ps ++ [(m0, m1, m2, m3, m4)]))
              · intro HKey
                refine (wpIn_wide (n := 5)).1 ?_
                refine wpIn_nrm ?_
                refine regionG (fun w' => Up w w' ∧ mblk w' (q0) = some (.cells #[.int .i64 H, .slice aR rs.length cR, .slice aO os.length cO, .slice aP ps.length cP] 26 (0, 0)) ∧ mblk w' (q0 + 1) = some (.cells #[.int .i64 m0, .int .i64 m1, .int .i64 m2, .int .i64 m3, .int .i64 m4] 61 (0, 0)) ∧ mblk w' (pks) = some (.cells #[.int .i64 ls, .int .i64 hs] 34 (0, 0)) ∧ mblk w' (pky) = some (.cells #[.int .i64 H, .slice aR rs.length cR, .slice aO os.length cO, .slice aP ps.length cP] 26 (0, 0))) 8 hmx ⟨U.drew, (by rw [blk_drew]; exact kC), (by rw [blk_drew]; exact kM), (by rw [blk_drew]; exact ks), (by rw [blk_drew]; exact ky)⟩ (fun hHeld hCl => ?_)
                refine takeG (i := 1) (d := (some 122)) (v := ?v54) rfl rfl (by kernel_rfl) (by kernel_rfl) (by decide) hCl (by kernel_rfl) (by kernel_rfl) (by kernel_rfl) (fun _ _ _ h => h) (by rfl) ?hy54 (fun _ _ _ => trivial) (by assumption) (fun hCl' => ?_)
                case hy54 => ((intro w hSw; (try dsimp only at hSw); (try go_split_ands); go_simp); try with_reducible rfl)
                simp only [Act.put, List.setIfInBounds_toArray, List.set_cons_zero, List.set_cons_succ]
                replace hCl := hCl'; clear hCl'
                refine takeG (i := 4) (d := (some 125)) (v := ?v55) rfl rfl (by kernel_rfl) (by kernel_rfl) (by decide) hCl (by kernel_rfl) (by kernel_rfl) (by kernel_rfl) (fun _ _ _ h => h) (by rfl) ?hy55 (fun _ _ _ => trivial) (by assumption) (fun hCl' => ?_)
                case hy55 => ((intro w hSw; (try dsimp only at hSw); (try go_split_ands); go_simp); try with_reducible rfl)
                simp only [Act.put, List.setIfInBounds_toArray, List.set_cons_zero, List.set_cons_succ]
                replace hCl := hCl'; clear hCl'
                refine takeG (i := 2) (d := (some 123)) (v := ?v56) rfl rfl (by kernel_rfl) (by kernel_rfl) (by decide) hCl (by kernel_rfl) (by kernel_rfl) (by kernel_rfl) (fun _ _ _ h => h) (by rfl) ?hy56 (fun _ _ _ => trivial) (by assumption) (fun hCl' => ?_)
                case hy56 => ((intro w hSw; (try dsimp only at hSw); (try go_split_ands); go_simp); try with_reducible rfl)
                simp only [Act.put, List.setIfInBounds_toArray, List.set_cons_zero, List.set_cons_succ]
                replace hCl := hCl'; clear hCl'
                clear hHeld
                refine nextG2 (i := 0) (j := 5) (by kernel_rfl) rfl rfl (by rfl) (by rfl) hCl ?_ ?_
                · skip
                  refine (fun K hK => ?_)
                  go_simp
                  have A1 : Up W407 (W407.alloc (.cells #[] 61)).drew := Up.drew (Up.alloc (Up.refl W407) _)
                  have b1kC := blk_lt (Up.blk (Up.refl W407) kC)
                  have b1kM := blk_lt (Up.blk (Up.refl W407) kM)
                  have b1ks := blk_lt (Up.blk (Up.refl W407) ks)
                  have b1ky := blk_lt (Up.blk (Up.refl W407) ky)
                  have s1 := Up.size (Up.refl W407)
                  have e1 : W407.heap.size ≤ (W407.alloc (.cells #[] 61)).drew.heap.size := by have := Up.size (Up.drew (Up.alloc (Up.refl W407) (.cells #[] 61))); exact this
                  have R1 := row_up (World.ownsRow_lit (base := W407.heap.size) (e := 61) (size := 5) W407 #[] 0 (Nat.le_refl _) (by unfold maxLen; omega) rfl) (Up.refl _).drew
                  obtain ⟨b0, hqf⟩ : ∃ q, W407.heap.size = q := ⟨_, rfl⟩
                  obtain ⟨X1, hX⟩ : ∃ X, (W407.alloc (.cells #[] 61)).drew = X := ⟨_, rfl⟩
                  rw [hX] at A1 e1 R1
                  rw [hqf] at b1kC b1kM b1ks b1ky s1 e1 R1
                  have z1 : b0 < X1.heap.size := (R1.lt b0 rfl).2
                  try rw [hX]
                  try rw [hqf]
                  refine hK.out _ _ ⟨U.trans A1, Up.blk A1 kC, Up.blk A1 kM, Up.blk A1 ks, Up.blk A1 ky⟩ (fun _ hCl => ?_)
                  clear hK K hX
                  try simp only [Act.put, List.setIfInBounds_toArray, List.set_cons_zero, List.set_cons_succ]
                  refine nextG2 (i := 3) (j := 5) (by kernel_rfl) rfl rfl (by rfl) (by rfl) hCl ?_ ?_
                  · skip
                    refine (fun K hK => ?_)
                    refine T.opIn_app (ys := []) T.elP (.tmp 121) (.tmp 123) rfl (HP.out _ (U.trans A1)) rfl b0 _ 0 rfl R1 (by omega) (by omega) (by omega) ?_
                    intro v1 X2 R2 hg2
                    rw [Nat.zero_add, List.nil_append] at R2
                    have A2 := Up.grown A1 hg2 (fun k e => by have := row_base R1 k e; omega)
                    have z2 : b0 < X2.heap.size := Nat.lt_of_lt_of_le z1 hg2.size
                    refine hK.out _ _ ⟨U.trans A2, Up.blk A2 kC, Up.blk A2 kM, Up.blk A2 ks, Up.blk A2 ky⟩ (fun _ hCl => ?_)
                    clear hK K hg2
                    try simp only [Act.put, List.setIfInBounds_toArray, List.set_cons_zero, List.set_cons_succ]
                    refine nextG (i := 5) (by kernel_rfl) rfl (by rfl) hCl (fun K hK => ?_)
                    go_simp
                    have A3 : Up W407 (X2.alloc (.cells #[.int .i64 m0, .int .i64 m1, .int .i64 m2, .int .i64 m3, .int .i64 m4] 61)) := (Up.alloc A2 _)
                    have b3kC := blk_lt (Up.blk A2 kC)
                    have b3kM := blk_lt (Up.blk A2 kM)
                    have b3ks := blk_lt (Up.blk A2 ks)
                    have b3ky := blk_lt (Up.blk A2 ky)
                    have s3 := Up.size A2
                    have e3 : X2.heap.size ≤ (X2.alloc (.cells #[.int .i64 m0, .int .i64 m1, .int .i64 m2, .int .i64 m3, .int .i64 m4] 61)).heap.size := by have := Up.size ((Up.alloc (Up.refl X2) (.cells #[.int .i64 m0, .int .i64 m1, .int .i64 m2, .int .i64 m3, .int .i64 m4] 61))); exact this
                    have R3 := World.ownsRow.alloc R2 (.cells #[.int .i64 m0, .int .i64 m1, .int .i64 m2, .int .i64 m3, .int .i64 m4] 61)
                    have l3 : mblk (X2.alloc (.cells #[.int .i64 m0, .int .i64 m1, .int .i64 m2, .int .i64 m3, .int .i64 m4] 61)) X2.heap.size = some (.cells #[.int .i64 m0, .int .i64 m1, .int .i64 m2, .int .i64 m3, .int .i64 m4] 61 (0, 0)) := by exact blk_new _ _ _ rfl
                    have h50 : b0 < X2.heap.size := by have := z2; omega
                    obtain ⟨b5, hq⟩ : ∃ q, X2.heap.size = q := ⟨_, rfl⟩
                    obtain ⟨X3, hX⟩ : ∃ X, (X2.alloc (.cells #[.int .i64 m0, .int .i64 m1, .int .i64 m2, .int .i64 m3, .int .i64 m4] 61)) = X := ⟨_, rfl⟩
                    rw [hX] at A3 e3 R3 l3
                    rw [hq] at b3kC b3kM b3ks b3ky s3 e3 l3 h50
                    have z3 : b0 < X3.heap.size := by omega
                    try rw [hX]
                    try rw [hq]
                    refine hK.out _ _ ⟨U.trans A3, Up.blk A3 kC, Up.blk A3 kM, Up.blk A3 ks, Up.blk A3 ky⟩ (fun _ hCl => ?_)
                    clear hK K hX hq
                    try simp only [Act.put, List.setIfInBounds_toArray, List.set_cons_zero, List.set_cons_succ]
                    refine nextG (i := 6) (by kernel_rfl) rfl (by rfl) hCl (fun K hK => ?_)
                    refine T.opIn_app T.elP (.tmp 124) (.tmp 126) rfl (T.one_pair1 l3) rfl b0 _ ps.length rfl R3 (by omega) (by simp) (by omega) ?_
                    intro v2 X4 R4 hg4
                    replace R4 : X4.ownsRow b0 61 5 v2 (ps.length + 1) _ := R4
                    have A4 := Up.grown A3 hg4 (fun k e => by have := row_base R3 k e; omega)
                    obtain ⟨g2, cap, curx, rfl, hg2, hbk, hcap, hcapm, hcs⟩ := row_open R4 (by omega)
                    refine hK.out _ _ ⟨U.trans A4, Up.blk A4 kC, Up.blk A4 kM, Up.blk A4 ks, Up.blk A4 ky⟩ (fun _ hCl => ?_)
                    clear hK K hg4
                    try simp only [Act.put, List.setIfInBounds_toArray, List.set_cons_zero, List.set_cons_succ]
                    refine takeG (i := 7) (d := (some 128)) (v := ?v58) rfl rfl (by kernel_rfl) (by kernel_rfl) (by decide) hCl (by kernel_rfl) (by kernel_rfl) (by kernel_rfl) (fun _ _ _ h => h) (by rfl) ?hy58 (fun _ _ _ => trivial) (by assumption) (fun hCl' => ?_)
                    case hy58 => ((intro w hSw; (try dsimp only at hSw); (try go_split_ands); go_simp); try with_reducible rfl)
                    simp only [Act.put, List.setIfInBounds_toArray, List.set_cons_zero, List.set_cons_succ]
                    replace hCl := hCl'; clear hCl'
                    have pb := Up.blk A4 ky
                    have zf := frozB pb
                    clear hCl
                    refine lastG (i := 8) (by kernel_rfl) rfl (by rfl) (by decide) (fun K hK => ?_)
                    go_simp
                    obtain ⟨Z, hZ⟩ : ∃ X, X4.setCell ⟨pky, 3, none⟩ (.slice (some ⟨g2, 0, none⟩) (ps.length + 1) cap) = X := ⟨_, rfl⟩
                    have hsz := U.size
                    have hlp : pky < b0 := by omega
                    have U5 : Up w Z := by rw [← hZ]; exact Up.set (U.trans A4) (p := ⟨pky, 3, none⟩) (show w.heap.size ≤ pky by omega) _
                    have yky : mblk Z (pky) = some (.cells #[.int .i64 H, .slice aR rs.length cR, .slice aO os.length cO, .slice (some ⟨g2, 0, none⟩) (ps.length + 1) cap] 26 (0, 0)) := by rw [← hZ]; exact blk_put pb 3 _
                    have ykC : mblk Z (q0) = some (.cells #[.int .i64 H, .slice aR rs.length cR, .slice aO os.length cO, .slice aP ps.length cP] 26 (0, 0)) := by rw [← hZ, blk_set _ _ _ _ (by show q0 ≠ pky; omega)]; exact Up.blk A4 kC
                    have ykM : mblk Z (q0 + 1) = some (.cells #[.int .i64 m0, .int .i64 m1, .int .i64 m2, .int .i64 m3, .int .i64 m4] 61 (0, 0)) := by rw [← hZ, blk_set _ _ _ _ (by show q0 + 1 ≠ pky; omega)]; exact Up.blk A4 kM
                    have yks : mblk Z (pks) = some (.cells #[.int .i64 ls, .int .i64 hs] 34 (0, 0)) := by rw [← hZ, blk_set _ _ _ _ (by show pks ≠ pky; omega)]; exact Up.blk A4 ks
                    have own5 := row_other R4 (grown_set X4 (pky) 3 (.slice (some ⟨g2, 0, none⟩) (ps.length + 1) cap)) (row_block R4 hlp)
                    rw [hZ] at own5
                    have IZ : Prs Z (.slice (some ⟨g2, 0, none⟩) (ps.length + 1) cap) (ps ++ [(m0, m1, m2, m3, m4)]) := Tab.of_row own5 (by decide) (by omega)
                    try rw [hZ]
                    refine hK.out _ _ ?_
                    clear hK K hZ
                    refine doneG (by kernel_rfl) ?_ _
                    refine S.nrm_intro ?_
                    exact HKey.out _ b0 v1 b5 g2 cap ⟨U5, ykC, ykM, yks, yky, IZ⟩
                  · skip
                    refine (fun K hK => ?_)
                    go_simp
                    have A2 : Up W407 (X1.alloc (.cells #[.int .i64 m0, .int .i64 m1, .int .i64 m2, .int .i64 m3, .int .i64 m4] 61)) := (Up.alloc A1 _)
                    have b2kC := blk_lt (Up.blk A1 kC)
                    have b2kM := blk_lt (Up.blk A1 kM)
                    have b2ks := blk_lt (Up.blk A1 ks)
                    have b2ky := blk_lt (Up.blk A1 ky)
                    have s2 := Up.size A1
                    have e2 : X1.heap.size ≤ (X1.alloc (.cells #[.int .i64 m0, .int .i64 m1, .int .i64 m2, .int .i64 m3, .int .i64 m4] 61)).heap.size := by have := Up.size ((Up.alloc (Up.refl X1) (.cells #[.int .i64 m0, .int .i64 m1, .int .i64 m2, .int .i64 m3, .int .i64 m4] 61))); exact this
                    have R2 := World.ownsRow.alloc R1 (.cells #[.int .i64 m0, .int .i64 m1, .int .i64 m2, .int .i64 m3, .int .i64 m4] 61)
                    have l2 : mblk (X1.alloc (.cells #[.int .i64 m0, .int .i64 m1, .int .i64 m2, .int .i64 m3, .int .i64 m4] 61)) X1.heap.size = some (.cells #[.int .i64 m0, .int .i64 m1, .int .i64 m2, .int .i64 m3, .int .i64 m4] 61 (0, 0)) := by exact blk_new _ _ _ rfl
                    have h50 : b0 < X1.heap.size := by have := z1; omega
                    obtain ⟨b5, hq⟩ : ∃ q, X1.heap.size = q := ⟨_, rfl⟩
                    obtain ⟨X2, hX⟩ : ∃ X, (X1.alloc (.cells #[.int .i64 m0, .int .i64 m1, .int .i64 m2, .int .i64 m3, .int .i64 m4] 61)) = X := ⟨_, rfl⟩
                    rw [hX] at A2 e2 R2 l2
                    rw [hq] at b2kC b2kM b2ks b2ky s2 e2 l2 h50
                    have z2 : b0 < X2.heap.size := by omega
                    try rw [hX]
                    try rw [hq]
                    refine hK.out _ _ ⟨U.trans A2, Up.blk A2 kC, Up.blk A2 kM, Up.blk A2 ks, Up.blk A2 ky⟩ (fun _ hCl => ?_)
                    clear hK K hX hq
                    try simp only [Act.put, List.setIfInBounds_toArray, List.set_cons_zero, List.set_cons_succ]
                    refine nextG (i := 3) (by kernel_rfl) rfl (by rfl) hCl (fun K hK => ?_)
                    refine T.opIn_app (ys := []) T.elP (.tmp 121) (.tmp 123) rfl (HP.out _ (U.trans A2)) rfl b0 _ 0 rfl R2 (by omega) (by omega) (by omega) ?_
                    intro v1 X3 R3 hg3
                    rw [Nat.zero_add, List.nil_append] at R3
                    have A3 := Up.grown A2 hg3 (fun k e => by have := row_base R2 k e; omega)
                    have z3 : b0 < X3.heap.size := Nat.lt_of_lt_of_le z2 hg3.size
                    have l3 := grown_blk hg3 l2 (show some b5 ≠ some b0 by simp; omega)
                    refine hK.out _ _ ⟨U.trans A3, Up.blk A3 kC, Up.blk A3 kM, Up.blk A3 ks, Up.blk A3 ky⟩ (fun _ hCl => ?_)
                    clear hK K hg3
                    try simp only [Act.put, List.setIfInBounds_toArray, List.set_cons_zero, List.set_cons_succ]
                    refine nextG (i := 6) (by kernel_rfl) rfl (by rfl) hCl (fun K hK => ?_)
                    refine T.opIn_app T.elP (.tmp 124) (.tmp 126) rfl (T.one_pair1 l3) rfl b0 _ ps.length rfl R3 (by omega) (by simp) (by omega) ?_
                    intro v2 X4 R4 hg4
                    replace R4 : X4.ownsRow b0 61 5 v2 (ps.length + 1) _ := R4
                    have A4 := Up.grown A3 hg4 (fun k e => by have := row_base R3 k e; omega)
                    obtain ⟨g2, cap, curx, rfl, hg2, hbk, hcap, hcapm, hcs⟩ := row_open R4 (by omega)
                    refine hK.out _ _ ⟨U.trans A4, Up.blk A4 kC, Up.blk A4 kM, Up.blk A4 ks, Up.blk A4 ky⟩ (fun _ hCl => ?_)
                    clear hK K hg4
                    try simp only [Act.put, List.setIfInBounds_toArray, List.set_cons_zero, List.set_cons_succ]
                    refine takeG (i := 7) (d := (some 128)) (v := ?v60) rfl rfl (by kernel_rfl) (by kernel_rfl) (by decide) hCl (by kernel_rfl) (by kernel_rfl) (by kernel_rfl) (fun _ _ _ h => h) (by rfl) ?hy60 (fun _ _ _ => trivial) (by assumption) (fun hCl' => ?_)
                    case hy60 => ((intro w hSw; (try dsimp only at hSw); (try go_split_ands); go_simp); try with_reducible rfl)
                    simp only [Act.put, List.setIfInBounds_toArray, List.set_cons_zero, List.set_cons_succ]
                    replace hCl := hCl'; clear hCl'
                    have pb := Up.blk A4 ky
                    have zf := frozB pb
                    clear hCl
                    refine lastG (i := 8) (by kernel_rfl) rfl (by rfl) (by decide) (fun K hK => ?_)
                    go_simp
                    obtain ⟨Z, hZ⟩ : ∃ X, X4.setCell ⟨pky, 3, none⟩ (.slice (some ⟨g2, 0, none⟩) (ps.length + 1) cap) = X := ⟨_, rfl⟩
                    have hsz := U.size
                    have hlp : pky < b0 := by omega
                    have U5 : Up w Z := by rw [← hZ]; exact Up.set (U.trans A4) (p := ⟨pky, 3, none⟩) (show w.heap.size ≤ pky by omega) _
                    have yky : mblk Z (pky) = some (.cells #[.int .i64 H, .slice aR rs.length cR, .slice aO os.length cO, .slice (some ⟨g2, 0, none⟩) (ps.length + 1) cap] 26 (0, 0)) := by rw [← hZ]; exact blk_put pb 3 _
                    have ykC : mblk Z (q0) = some (.cells #[.int .i64 H, .slice aR rs.length cR, .slice aO os.length cO, .slice aP ps.length cP] 26 (0, 0)) := by rw [← hZ, blk_set _ _ _ _ (by show q0 ≠ pky; omega)]; exact Up.blk A4 kC
                    have ykM : mblk Z (q0 + 1) = some (.cells #[.int .i64 m0, .int .i64 m1, .int .i64 m2, .int .i64 m3, .int .i64 m4] 61 (0, 0)) := by rw [← hZ, blk_set _ _ _ _ (by show q0 + 1 ≠ pky; omega)]; exact Up.blk A4 kM
                    have yks : mblk Z (pks) = some (.cells #[.int .i64 ls, .int .i64 hs] 34 (0, 0)) := by rw [← hZ, blk_set _ _ _ _ (by show pks ≠ pky; omega)]; exact Up.blk A4 ks
                    have own5 := row_other R4 (grown_set X4 (pky) 3 (.slice (some ⟨g2, 0, none⟩) (ps.length + 1) cap)) (row_block R4 hlp)
                    rw [hZ] at own5
                    have IZ : Prs Z (.slice (some ⟨g2, 0, none⟩) (ps.length + 1) cap) (ps ++ [(m0, m1, m2, m3, m4)]) := Tab.of_row own5 (by decide) (by omega)
                    try rw [hZ]
                    refine hK.out _ _ ?_
                    clear hK K hZ
                    refine doneG (by kernel_rfl) ?_ _
                    refine S.nrm_intro ?_
                    exact HKey.out _ b0 v1 b5 g2 cap ⟨U5, ykC, ykM, yks, yky, IZ⟩
                · skip
                  refine (fun K hK => ?_)
                  go_simp
                  have A1 : Up W407 (W407.alloc (.cells #[.int .i64 m0, .int .i64 m1, .int .i64 m2, .int .i64 m3, .int .i64 m4] 61)).drew := Up.drew (Up.alloc (Up.refl W407) _)
                  have b1kC := blk_lt (Up.blk (Up.refl W407) kC)
                  have b1kM := blk_lt (Up.blk (Up.refl W407) kM)
                  have b1ks := blk_lt (Up.blk (Up.refl W407) ks)
                  have b1ky := blk_lt (Up.blk (Up.refl W407) ky)
                  have s1 := Up.size (Up.refl W407)
                  have e1 : W407.heap.size ≤ (W407.alloc (.cells #[.int .i64 m0, .int .i64 m1, .int .i64 m2, .int .i64 m3, .int .i64 m4] 61)).drew.heap.size := by have := Up.size (Up.drew (Up.alloc (Up.refl W407) (.cells #[.int .i64 m0, .int .i64 m1, .int .i64 m2, .int .i64 m3, .int .i64 m4] 61))); exact this
                  have l1 : mblk (W407.alloc (.cells #[.int .i64 m0, .int .i64 m1, .int .i64 m2, .int .i64 m3, .int .i64 m4] 61)).drew W407.heap.size = some (.cells #[.int .i64 m0, .int .i64 m1, .int .i64 m2, .int .i64 m3, .int .i64 m4] 61 (0, 0)) := by rw [blk_drew]; exact blk_new _ _ _ rfl
                  obtain ⟨b5, hqf⟩ : ∃ q, W407.heap.size = q := ⟨_, rfl⟩
                  obtain ⟨X1, hX⟩ : ∃ X, (W407.alloc (.cells #[.int .i64 m0, .int .i64 m1, .int .i64 m2, .int .i64 m3, .int .i64 m4] 61)).drew = X := ⟨_, rfl⟩
                  rw [hX] at A1 e1 l1
                  rw [hqf] at b1kC b1kM b1ks b1ky s1 e1 l1
                  try rw [hX]
                  try rw [hqf]
                  refine hK.out _ _ ⟨U.trans A1, Up.blk A1 kC, Up.blk A1 kM, Up.blk A1 ks, Up.blk A1 ky⟩ (fun _ hCl => ?_)
                  clear hK K hX
                  try simp only [Act.put, List.setIfInBounds_toArray, List.set_cons_zero, List.set_cons_succ]
                  refine nextG (i := 0) (by kernel_rfl) rfl (by rfl) hCl (fun K hK => ?_)
                  go_simp
                  have A2 : Up W407 (X1.alloc (.cells #[] 61)) := (Up.alloc A1 _)
                  have b2kC := blk_lt (Up.blk A1 kC)
                  have b2kM := blk_lt (Up.blk A1 kM)
                  have b2ks := blk_lt (Up.blk A1 ks)
                  have b2ky := blk_lt (Up.blk A1 ky)
                  have s2 := Up.size A1
                  have e2 : X1.heap.size ≤ (X1.alloc (.cells #[] 61)).heap.size := by have := Up.size ((Up.alloc (Up.refl X1) (.cells #[] 61))); exact this
                  have R2 := World.ownsRow_lit (base := X1.heap.size) (e := 61) (size := 5) X1 #[] 0 (Nat.le_refl _) (by unfold maxLen; omega) rfl
                  have l2 := blk_keep (.cells #[] 61) l1
                  have h05 : b5 < X1.heap.size := blk_lt l1
                  obtain ⟨b0, hq⟩ : ∃ q, X1.heap.size = q := ⟨_, rfl⟩
                  obtain ⟨X2, hX⟩ : ∃ X, (X1.alloc (.cells #[] 61)) = X := ⟨_, rfl⟩
                  rw [hX] at A2 e2 R2 l2
                  rw [hq] at b2kC b2kM b2ks b2ky s2 e2 R2 h05
                  have z2 : b0 < X2.heap.size := (R2.lt b0 rfl).2
                  try rw [hX]
                  try rw [hq]
                  refine hK.out _ _ ⟨U.trans A2, Up.blk A2 kC, Up.blk A2 kM, Up.blk A2 ks, Up.blk A2 ky⟩ (fun _ hCl => ?_)
                  clear hK K hX hq
                  try simp only [Act.put, List.setIfInBounds_toArray, List.set_cons_zero, List.set_cons_succ]
                  refine nextG (i := 3) (by kernel_rfl) rfl (by rfl) hCl (fun K hK => ?_)
                  refine T.opIn_app (ys := []) T.elP (.tmp 121) (.tmp 123) rfl (HP.out _ (U.trans A2)) rfl b0 _ 0 rfl R2 (by omega) (by omega) (by omega) ?_
                  intro v1 X3 R3 hg3
                  rw [Nat.zero_add, List.nil_append] at R3
                  have A3 := Up.grown A2 hg3 (fun k e => by have := row_base R2 k e; omega)
                  have z3 : b0 < X3.heap.size := Nat.lt_of_lt_of_le z2 hg3.size
                  have l3 := grown_blk hg3 l2 (show some b5 ≠ some b0 by simp; omega)
                  refine hK.out _ _ ⟨U.trans A3, Up.blk A3 kC, Up.blk A3 kM, Up.blk A3 ks, Up.blk A3 ky⟩ (fun _ hCl => ?_)
                  clear hK K hg3
                  try simp only [Act.put, List.setIfInBounds_toArray, List.set_cons_zero, List.set_cons_succ]
                  refine nextG (i := 6) (by kernel_rfl) rfl (by rfl) hCl (fun K hK => ?_)
                  refine T.opIn_app T.elP (.tmp 124) (.tmp 126) rfl (T.one_pair1 l3) rfl b0 _ ps.length rfl R3 (by omega) (by simp) (by omega) ?_
                  intro v2 X4 R4 hg4
                  replace R4 : X4.ownsRow b0 61 5 v2 (ps.length + 1) _ := R4
                  have A4 := Up.grown A3 hg4 (fun k e => by have := row_base R3 k e; omega)
                  obtain ⟨g2, cap, curx, rfl, hg2, hbk, hcap, hcapm, hcs⟩ := row_open R4 (by omega)
                  refine hK.out _ _ ⟨U.trans A4, Up.blk A4 kC, Up.blk A4 kM, Up.blk A4 ks, Up.blk A4 ky⟩ (fun _ hCl => ?_)
                  clear hK K hg4
                  try simp only [Act.put, List.setIfInBounds_toArray, List.set_cons_zero, List.set_cons_succ]
                  refine takeG (i := 7) (d := (some 128)) (v := ?v63) rfl rfl (by kernel_rfl) (by kernel_rfl) (by decide) hCl (by kernel_rfl) (by kernel_rfl) (by kernel_rfl) (fun _ _ _ h => h) (by rfl) ?hy63 (fun _ _ _ => trivial) (by assumption) (fun hCl' => ?_)
                  case hy63 => ((intro w hSw; (try dsimp only at hSw); (try go_split_ands); go_simp); try with_reducible rfl)
                  simp only [Act.put, List.setIfInBounds_toArray, List.set_cons_zero, List.set_cons_succ]
                  replace hCl := hCl'; clear hCl'
                  have pb := Up.blk A4 ky
                  have zf := frozB pb
                  clear hCl
                  refine lastG (i := 8) (by kernel_rfl) rfl (by rfl) (by decide) (fun K hK => ?_)
                  go_simp
                  obtain ⟨Z, hZ⟩ : ∃ X, X4.setCell ⟨pky, 3, none⟩ (.slice (some ⟨g2, 0, none⟩) (ps.length + 1) cap) = X := ⟨_, rfl⟩
                  have hsz := U.size
                  have hlp : pky < b0 := by omega
                  have U5 : Up w Z := by rw [← hZ]; exact Up.set (U.trans A4) (p := ⟨pky, 3, none⟩) (show w.heap.size ≤ pky by omega) _
                  have yky : mblk Z (pky) = some (.cells #[.int .i64 H, .slice aR rs.length cR, .slice aO os.length cO, .slice (some ⟨g2, 0, none⟩) (ps.length + 1) cap] 26 (0, 0)) := by rw [← hZ]; exact blk_put pb 3 _
                  have ykC : mblk Z (q0) = some (.cells #[.int .i64 H, .slice aR rs.length cR, .slice aO os.length cO, .slice aP ps.length cP] 26 (0, 0)) := by rw [← hZ, blk_set _ _ _ _ (by show q0 ≠ pky; omega)]; exact Up.blk A4 kC
                  have ykM : mblk Z (q0 + 1) = some (.cells #[.int .i64 m0, .int .i64 m1, .int .i64 m2, .int .i64 m3, .int .i64 m4] 61 (0, 0)) := by rw [← hZ, blk_set _ _ _ _ (by show q0 + 1 ≠ pky; omega)]; exact Up.blk A4 kM
                  have yks : mblk Z (pks) = some (.cells #[.int .i64 ls, .int .i64 hs] 34 (0, 0)) := by rw [← hZ, blk_set _ _ _ _ (by show pks ≠ pky; omega)]; exact Up.blk A4 ks
                  have own5 := row_other R4 (grown_set X4 (pky) 3 (.slice (some ⟨g2, 0, none⟩) (ps.length + 1) cap)) (row_block R4 hlp)
                  rw [hZ] at own5
                  have IZ : Prs Z (.slice (some ⟨g2, 0, none⟩) (ps.length + 1) cap) (ps ++ [(m0, m1, m2, m3, m4)]) := Tab.of_row own5 (by decide) (by omega)
                  try rw [hZ]
                  refine hK.out _ _ ?_
                  clear hK K hZ
                  refine doneG (by kernel_rfl) ?_ _
                  refine S.nrm_intro ?_
                  exact HKey.out _ b0 v1 b5 g2 cap ⟨U5, ykC, ykM, yks, yky, IZ⟩
              clear U kC kM ks ky
              rintro Z408 b0 v1 b5 g2 cap ⟨U, kC, kM, ks, ky, IZ⟩
              have Cu := Lib.hid (fun w' (u : Up Z408 w') => HM.out w' _ _ _ _ _ _ (HI.out _ (U.trans u)) (HO.out _ (U.trans u)) (IZ.up u))
              have Uz := Up.refl Z408
              clear IZ
              rcases Hm.out with ⟨rfl, rfl, f1, f2⟩ | ⟨rfl, rfl, rfl⟩ | ⟨rfl, rfl, rfl⟩
              clear kM
              · skip
                go_wp2_with fail
                refine (Cu.out _ Uz).mono ?_
                rintro e x429 ⟨rfl, u430⟩
                replace U := U.trans u430
                replace kC := u430.blk kC
                replace ks := u430.blk ks
                replace ky := u430.blk ky
                replace Uz := Uz.trans u430
                clear u430 
                have dkCku := blk_lt kC
                have dksku := blk_lt ks
                have dkyku := blk_lt ky
                have gku := U.size
                have ku := blk_new x429 (.cells #[.int .i64 lm, .int .i64 um] 34) _ rfl
                replace kC := blk_keep (.cells #[.int .i64 lm, .int .i64 um] 34) kC
                replace ks := blk_keep (.cells #[.int .i64 lm, .int .i64 um] 34) ks
                replace ky := blk_keep (.cells #[.int .i64 lm, .int .i64 um] 34) ky
                replace U := U.alloc (.cells #[.int .i64 lm, .int .i64 um] 34)
                replace Uz := Uz.alloc (.cells #[.int .i64 lm, .int .i64 um] 34)
                obtain ⟨pku, hpku⟩ : ∃ z, x429.heap.size = z := ⟨_, rfl⟩
                obtain ⟨W431, hW431⟩ : ∃ z, x429.alloc (.cells #[.int .i64 lm, .int .i64 um] 34) = z := ⟨_, rfl⟩
                rw [hpku] at ku dkCku dksku dkyku gku
                rw [hW431] at ku U kC ks ky Uz
                go_wp2_with fail
                clear hpku hW431
                have HWi := Lib.hid (fun w => show Calls Try.prog 36 #[SpV lm um, SpV ls hs] w fun e w' => e = .returned (.bool true) ∧ Up w w' by rw [← decide_eq_true (show ls ≤ lm ∧ um ≤ hs from ⟨f1, f2⟩)]; exact B_Within_any _ _ _ _ w)
                refine (HWi.out _).mono ?_
                rintro e x432 ⟨rfl, u433⟩
                replace U := U.trans u433
                replace kC := u433.blk kC
                replace ks := u433.blk ks
                replace ky := u433.blk ky
                replace ku := u433.blk ku
                replace Uz := Uz.trans u433
                clear u433 
                go_wp2_with fail
                refine (HW.out _).mono ?_
                rintro e x434 ⟨rfl, u435⟩
                replace U := U.trans u435
                replace kC := u435.blk kC
                replace ks := u435.blk ks
                replace ky := u435.blk ky
                replace ku := u435.blk ku
                replace Uz := Uz.trans u435
                clear u435 
                go_wp2
                go_ret
                exact ⟨rfl, U⟩
              · skip
                go_wp2_with fail
                refine (Cu.out _ Uz).mono ?_
                rintro e x429 ⟨rfl, u430⟩
                replace U := U.trans u430
                replace kC := u430.blk kC
                replace ks := u430.blk ks
                replace ky := u430.blk ky
                replace Uz := Uz.trans u430
                clear u430 
                have dkCku := blk_lt kC
                have dksku := blk_lt ks
                have dkyku := blk_lt ky
                have gku := U.size
                have ku := blk_new x429 (.cells #[.int .i64 0, .int .i64 0] 34) _ rfl
                replace kC := blk_keep (.cells #[.int .i64 0, .int .i64 0] 34) kC
                replace ks := blk_keep (.cells #[.int .i64 0, .int .i64 0] 34) ks
                replace ky := blk_keep (.cells #[.int .i64 0, .int .i64 0] 34) ky
                replace U := U.alloc (.cells #[.int .i64 0, .int .i64 0] 34)
                replace Uz := Uz.alloc (.cells #[.int .i64 0, .int .i64 0] 34)
                go_wp2_with fail
                obtain ⟨pku, hpku⟩ : ∃ z, x429.heap.size = z := ⟨_, rfl⟩
                obtain ⟨W431, hW431⟩ : ∃ z, x429.alloc (.cells #[.int .i64 0, .int .i64 0] 34) = z := ⟨_, rfl⟩
                rw [hpku] at ku dkCku dksku dkyku gku
                rw [hW431] at ku U kC ks ky Uz
                rw [hW431, hpku]
                go_wp2_with fail
                clear hpku hW431
                refine (HW.out _).mono ?_
                rintro e x432 ⟨rfl, u433⟩
                replace U := U.trans u433
                replace kC := u433.blk kC
                replace ks := u433.blk ks
                replace ky := u433.blk ky
                replace ku := u433.blk ku
                replace Uz := Uz.trans u433
                clear u433 
                go_wp2
                go_ret
                exact ⟨rfl, U⟩
              · skip
                go_wp2_with fail
                refine (Cu.out _ Uz).mono ?_
                rintro e x429 ⟨rfl, u430⟩
                replace U := U.trans u430
                replace kC := u430.blk kC
                replace ks := u430.blk ks
                replace ky := u430.blk ky
                replace Uz := Uz.trans u430
                clear u430 
                have dkCku := blk_lt kC
                have dksku := blk_lt ks
                have dkyku := blk_lt ky
                have gku := U.size
                have ku := blk_new x429 (.cells #[.int .i64 0, .int .i64 0] 34) _ rfl
                replace kC := blk_keep (.cells #[.int .i64 0, .int .i64 0] 34) kC
                replace ks := blk_keep (.cells #[.int .i64 0, .int .i64 0] 34) ks
                replace ky := blk_keep (.cells #[.int .i64 0, .int .i64 0] 34) ky
                replace U := U.alloc (.cells #[.int .i64 0, .int .i64 0] 34)
                replace Uz := Uz.alloc (.cells #[.int .i64 0, .int .i64 0] 34)
                go_wp2_with fail
                obtain ⟨pku, hpku⟩ : ∃ z, x429.heap.size = z := ⟨_, rfl⟩
                obtain ⟨W431, hW431⟩ : ∃ z, x429.alloc (.cells #[.int .i64 0, .int .i64 0] 34) = z := ⟨_, rfl⟩
                rw [hpku] at ku dkCku dksku dkyku gku
                rw [hW431] at ku U kC ks ky Uz
                rw [hW431, hpku]
                go_wp2_with fail
                clear hpku hW431
                refine (HW.out _).mono ?_
                rintro e x432 ⟨rfl, u433⟩
                replace U := U.trans u433
                replace kC := u433.blk kC
                replace ks := u433.blk ks
                replace ky := u433.blk ky
                replace ku := u433.blk ku
                replace Uz := Uz.trans u433
                clear u433 
                go_wp2
                go_ret
                exact ⟨rfl, U⟩
end

end Go.Proofs.Ytonklhfpjooheaa
