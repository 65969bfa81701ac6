import Derived.Test.YtlpkheoljbdajaaRfM
import Derived.Test.YtlpkheoljbdajaaRfS
import Derived.Test.YtlpkheoljbdajaaHeQ
/- The contract of the reference's IsTruth. -/
namespace Go.Proofs.Ytlpkheoljbdajaa
open Go.RowKit Go.Shelf
attribute [local go_sem] Oper.semAt_some
section
variable {bl bh rl rh : Int} {aP aQ aL : Option Addr} {nP cP nQ cQ nL cL : Nat} {ps qs : List (Int × Int)} {ls : List T.T5}
theorem T.wrap_in {d lo hi : Int} (h : -9223372036854775808 - 40000 ≤ d ∧ d ≤ 9223372036854775807 + 40000) (h1 : -40000 ≤ lo) (h2 : hi ≤ 40000) : inB (IntKind.i64.wrap d) lo hi = inB d lo hi := by
  rw [Bool.eq_iff_iff, inB_iff, inB_iff, IntKind.wrap_i64]
  omega
set_option maxRecDepth 100000 in
set_option maxHeartbeats 1000000 in
theorem r_IsTruth_bad {w : World} {M : Int} (I : Sps w (.slice aP nP cP) ps) (J : Sps w (.slice aQ nQ cQ) qs) (K : Lks w (.slice aL nL cL) ls) (hv : T.valid M bl bh rl rh ps qs ls = false) {v1 v2 v3 : Value} :
    Calls Try.prog 18 #[BoV M bl bh rl rh (.slice aP nP cP) (.slice aQ nQ cQ) (.slice aL nL cL), .agg #[v1, v2, v3]] w fun e w' => e = .returned (.tuple #[.bool false, .int .i64 30]) ∧ Up w w' := by
  have HC := Lib.hid (fun w' (u : Up w w') => r_Check_any (M := M) (bl := bl) (bh := bh) (rl := rl) (rh := rh) (I.up u) (J.up u) (K.up u))
  have U := ((Up.refl w).alloc (.cells (BoC M bl bh rl rh (.slice aP nP cP) (.slice aQ nQ cQ) (.slice aL nL cL)) 27)).alloc (.cells #[v1, v2, v3] 30)
  clear I J K
  go_enter Try.func18, Try.ntmps18
  go_wp2_with fail
  refine (HC.out _ U).mono ?_
  rintro e x1 ⟨rfl, u⟩
  rw [if_neg (by rw [hv]; decide)]
  replace U := U.trans u
  clear u HC hv
  go_wp2
  go_ret2
  exact ⟨rfl, U⟩
set_option maxRecDepth 100000 in
set_option maxHeartbeats 8000000 in
set_option linter.unusedSimpArgs false in
theorem r_IsTruth_ok {w : World} {N : Nat} {aO aE aA : Option Addr} {cO cE cA nO nE nA : Nat} {os pe pa : List Int} (I : Sps w (.slice aP nP cP) ps) (J : Sps w (.slice aQ nQ cQ) qs) (K : Lks w (.slice aL nL cL) ls) (IO : Ints w (.slice aO nO cO) os) (IE : Ints w (.slice aE nE cE) pe) (IA : Ints w (.slice aA nA cA) pa) (bo : ∀ x ∈ os, D.in64 x) (hv : T.valid (N : Int) bl bh rl rh ps qs ls = true) :
    Calls Try.prog 18 #[BoV (N : Int) bl bh rl rh (.slice aP nP cP) (.slice aQ nQ cQ) (.slice aL nL cL), .agg #[.slice aO nO cO, .slice aE nE cE, .slice aA nA cA]] w fun e w' => (∃ r, e = .returned (.tuple #[.bool r, .int .i64 0]) ∧ (r = true ↔ (os.length = N ∧ pe.length = ps.length ∧ pa.length = qs.length) ∧ (T.rX bl bh rl rh ps qs ls os pe pa ps.length qs.length N ls.length))) ∧ Up w w' := by
  have hmx : Try.prog.follows .mixedOrders = true := by kernel_rfl
  obtain ⟨⟨hN, hB, hR⟩, ⟨h4, h5, h10⟩, hP, hQ, hL⟩ := T.valid_parts hv
  have hn := I.len
  have hno := J.len
  have hnp := K.len
  have hoo := IO.len
  have hoe := IE.len
  have hoa := IA.len
  subst hn hno hnp hoo hoe hoa
  have HC := Lib.hid (fun w' (u : Up w w') => show Calls Try.prog 20 #[BoV (N : Int) bl bh rl rh (.slice aP ps.length cP) (.slice aQ qs.length cQ) (.slice aL ls.length cL)] w' fun e w'' => e = .returned (.int .i64 0) ∧ Up w' w'' by have q := r_Check_any (M := (N : Int)) (bl := bl) (bh := bh) (rl := rl) (rh := rh) (I.up u) (J.up u) (K.up u); rw [if_pos hv] at q; exact q)
  have HI := Lib.hid (fun w' (u : Up w w') => I.up u)
  have HJ := Lib.hid (fun w' (u : Up w w') => J.up u)
  have HK := Lib.hid (fun w' (u : Up w w') => K.up u)
  have HO := Lib.hid (fun w' (u : Up w w') => IO.up u)
  have HE := Lib.hid (fun w' (u : Up w w') => IE.up u)
  have HA := Lib.hid (fun w' (u : Up w w') => IA.up u)
  have HB := Lib.hid bo
  have HBR := Lib.hid (And.intro hB hR)
  have HV := Lib.hid hv
  have N1 : 1 ≤ N := by omega
  have N8 : N ≤ 8 := by omega
  have l10 : ls.length ≤ 10 := h10
  have l4 : ps.length ≤ 4 := h4
  have l5 : qs.length ≤ 4 := h5
  obtain ⟨o0, ho0⟩ : ∃ x, os.getD 0 0 = x := ⟨_, rfl⟩
  have HO0 := Lib.hid ho0
  have HAt := Lib.hid (fun (h : 0 < os.length) w' (u : Up w w') => show Calls Try.prog 59 #[.slice aO os.length cO, .int .i64 0] w' fun e w'' => e = .returned (.int .i64 o0) ∧ w' = w'' by have q := B_At_any (IO.up u) 0; unfold S.at at q; rw [if_neg (by omega), Int.zero_emod, Int.toNat_zero, ho0] at q; exact q)
  clear I J K IO IE IA bo hv hN hB hR h4 h5 h10 hP hQ hL ho0
  go_enter Try.func18, Try.ntmps18
  obtain ⟨q0, e0⟩ : ∃ x, w.heap.size = x := ⟨_, rfl⟩
  have U := ((Up.refl w).alloc (.cells (BoC (N : Int) bl bh rl rh (.slice aP ps.length cP) (.slice aQ qs.length cQ) (.slice aL ls.length cL)) 27)).alloc (.cells #[(.slice aO os.length cO), (.slice aE pe.length cE), (.slice aA pa.length cA)] 30)
  have kB := blk_keep (.cells #[(.slice aO os.length cO), (.slice aE pe.length cE), (.slice aA pa.length cA)] 30) (blk_new w (.cells (BoC (N : Int) bl bh rl rh (.slice aP ps.length cP) (.slice aQ qs.length cQ) (.slice aL ls.length cL)) 27) q0 e0.symm)
  have kT := blk_new (w.alloc (.cells (BoC (N : Int) bl bh rl rh (.slice aP ps.length cP) (.slice aQ qs.length cQ) (.slice aL ls.length cL)) 27)) (.cells #[(.slice aO os.length cO), (.slice aE pe.length cE), (.slice aA pa.length cA)] 30) (q0 + 1) (by simp [e0])
  go_wp2_with fail
  refine (HC.out _ U).mono ?_
  rintro e x1 ⟨rfl, u2⟩
  replace U := U.trans u2
  replace kB := u2.blk kB
  replace kT := u2.blk kT
  clear u2 HC
  go_wp2_with fail
  by_cases f0 : os.length = N
  · skip
    have g0 : ((os.length : Int) == (N : Int)) = true := by rw [beq_iff_eq]; omega
    have F0 := Lib.hid f0
    clear f0
    by_cases f1 : pe.length = ps.length
    · skip
      have g1 : ((pe.length : Int) == (ps.length : Int)) = true := by rw [beq_iff_eq]; omega
      have F1 := Lib.hid f1
      clear f1
      by_cases f2 : pa.length = qs.length
      · skip
        have g2 : ((pa.length : Int) == (qs.length : Int)) = true := by rw [beq_iff_eq]; omega
        have F2 := Lib.hid f2
        clear f2
        obtain ⟨t, ht⟩ : ∃ t, inB o0 bl bh = t := ⟨_, rfl⟩
        have HHa := Lib.hid (fun w => show Calls Try.prog 40 #[SpV bl bh, .int .i64 o0] w fun e w' => e = .returned (.bool t) ∧ Up w w' by rw [← ht]; exact B_Has_any _ _ _ w)
        have HU := Lib.hid U
        have F14 := Lib.hid (fun w (u : Up x1 w) => cellB (u.blk kB))
        have F15 := Lib.hid (fun w (u : Up x1 w) => cellB (u.blk kT))
        refine (wpIn_wide (n := 5)).1 ?_
        refine wpIn_nrm ?_
        refine T.regionQ (fun w' => Up x1 w') 32 1 hmx (by kernel_rfl) (by kernel_rfl) ((Up.refl x1).drew) (fun hCl => ?_)
        refine T.qT 0 (some 19) ?v1 rfl rfl hCl ?hy1 (fun hCl => ?_)
        case hy1 => (intro w hSw; refine T.qVal ?_ hSw; (try dsimp only [List.getElem_toArray, List.getElem_cons_succ, List.getElem_cons_zero]); go_simp; try with_reducible rfl)
        simp only [Act.put, T.pa, T.pb, T.pc]
        refine T.qT 3 (some 22) ?v2 rfl rfl hCl ?hy2 (fun hCl => ?_)
        case hy2 => (intro w hSw; refine T.qVal ?_ hSw; (try dsimp only [List.getElem_toArray, List.getElem_cons_succ, List.getElem_cons_zero]); go_simp; try with_reducible rfl)
        simp only [Act.put, T.pa, T.pb, T.pc]
        refine T.qT 1 (some 20) ?v3 rfl rfl hCl ?hy3 (fun hCl => ?_)
        case hy3 => (intro w hSw; refine T.qVal ?_ hSw; (have fF14 := F14.out w hSw; have fF15 := F15.out w hSw); (try dsimp only [List.getElem_toArray, List.getElem_cons_succ, List.getElem_cons_zero]); go_simp; try with_reducible rfl)
        simp only [Act.put, T.pa, T.pb, T.pc]
        refine T.qT 4 (some 23) ?v4 rfl rfl hCl ?hy4 (fun hCl => ?_)
        case hy4 => (intro w hSw; refine T.qVal ?_ hSw; (have fF14 := F14.out w hSw; have fF15 := F15.out w hSw); (try dsimp only [List.getElem_toArray, List.getElem_cons_succ, List.getElem_cons_zero]); go_simp; try with_reducible rfl)
        simp only [Act.put, T.pa, T.pb, T.pc]
        refine T.qT 2 (some 21) ?v5 rfl rfl hCl ?hy5 (fun hCl => ?_)
        case hy5 => (intro w hSw; refine T.qVal ?_ hSw; (have fF14 := F14.out w hSw; have fF15 := F15.out w hSw); (try dsimp only [List.getElem_toArray, List.getElem_cons_succ, List.getElem_cons_zero]); go_simp; try with_reducible rfl)
        simp only [Act.put, T.pa, T.pb, T.pc]
        refine T.qT 5 (some 24) ?v6 rfl rfl hCl ?hy6 (fun hCl => ?_)
        case hy6 => (intro w hSw; refine T.qVal ?_ hSw; (try dsimp only [List.getElem_toArray, List.getElem_cons_succ, List.getElem_cons_zero]); go_simp; try with_reducible rfl)
        simp only [Act.put, T.pa, T.pb, T.pc]
        refine T.qT 6 (some 25) ?v7 rfl rfl hCl ?hy7 (fun hCl => ?_)
        case hy7 => (intro w hSw; refine T.qVal ?_ hSw; (try dsimp only [List.getElem_toArray, List.getElem_cons_succ, List.getElem_cons_zero]); go_simp; try with_reducible rfl)
        simp only [Act.put, T.pa, T.pb, T.pc]
        refine T.qT 7 (some 26) ?v8 rfl rfl hCl ?hy8 (fun hCl => ?_)
        case hy8 => (intro w hSw; refine T.qVal ?_ hSw; (try dsimp only [List.getElem_toArray, List.getElem_cons_succ, List.getElem_cons_zero]); go_simp; try with_reducible rfl)
        simp only [Act.put, T.pa, T.pb, T.pc]
        refine T.qT 10 (some 29) ?v9 rfl rfl hCl ?hy9 (fun hCl => ?_)
        case hy9 => (intro w hSw; refine T.qVal ?_ hSw; (try dsimp only [List.getElem_toArray, List.getElem_cons_succ, List.getElem_cons_zero]); go_simp; try with_reducible rfl)
        simp only [Act.put, T.pa, T.pb, T.pc]
        refine T.qT 8 (some 27) ?v10 rfl rfl hCl ?hy10 (fun hCl => ?_)
        case hy10 => (intro w hSw; refine T.qVal ?_ hSw; (have fF14 := F14.out w hSw; have fF15 := F15.out w hSw); (try dsimp only [List.getElem_toArray, List.getElem_cons_succ, List.getElem_cons_zero]); go_simp; try with_reducible rfl)
        simp only [Act.put, T.pa, T.pb, T.pc]
        refine T.qT 11 (some 30) ?v11 rfl rfl hCl ?hy11 (fun hCl => ?_)
        case hy11 => (intro w hSw; refine T.qVal ?_ hSw; (have fF14 := F14.out w hSw; have fF15 := F15.out w hSw); (try dsimp only [List.getElem_toArray, List.getElem_cons_succ, List.getElem_cons_zero]); go_simp; try with_reducible rfl)
        simp only [Act.put, T.pa, T.pb, T.pc]
        refine T.qT 9 (some 28) ?v12 rfl rfl hCl ?hy12 (fun hCl => ?_)
        case hy12 => (intro w hSw; refine T.qVal ?_ hSw; (have fF14 := F14.out w hSw; have fF15 := F15.out w hSw); (try dsimp only [List.getElem_toArray, List.getElem_cons_succ, List.getElem_cons_zero]); go_simp; try with_reducible rfl)
        simp only [Act.put, T.pa, T.pb, T.pc]
        refine T.qT 12 (some 31) ?v13 rfl rfl hCl ?hy13 (fun hCl => ?_)
        case hy13 => (intro w hSw; refine T.qVal ?_ hSw; (have fF14 := F14.out w hSw; have fF15 := F15.out w hSw); (try dsimp only [List.getElem_toArray, List.getElem_cons_succ, List.getElem_cons_zero]); go_simp; try with_reducible rfl)
        simp only [Act.put, T.pa, T.pb, T.pc]
        refine T.qT 13 (some 32) ?v14 rfl rfl hCl ?hy14 (fun hCl => ?_)
        case hy14 => (intro w hSw; refine T.qVal ?_ hSw; (try dsimp only [List.getElem_toArray, List.getElem_cons_succ, List.getElem_cons_zero]); go_simp; try with_reducible rfl)
        simp only [Act.put, T.pa, T.pb, T.pc]
        refine T.qT 14 (some 33) ?v15 rfl rfl hCl ?hy15 (fun hCl => ?_)
        case hy15 => (intro w hSw; refine T.qVal ?_ hSw; (try dsimp only [List.getElem_toArray, List.getElem_cons_succ, List.getElem_cons_zero]); go_simp; try with_reducible rfl)
        simp only [Act.put, T.pa, T.pb, T.pc]
        refine T.qT 15 (some 34) ?v16 rfl rfl hCl ?hy16 (fun hCl => ?_)
        case hy16 => (intro w hSw; refine T.qVal ?_ hSw; (try dsimp only [List.getElem_toArray, List.getElem_cons_succ, List.getElem_cons_zero]); go_simp; try with_reducible rfl)
        simp only [Act.put, T.pa, T.pb, T.pc]
        refine T.qT 16 (some 35) ?v17 rfl rfl hCl ?hy17 (fun hCl => ?_)
        case hy17 => (intro w hSw; refine T.qVal ?_ hSw; (try dsimp only [List.getElem_toArray, List.getElem_cons_succ, List.getElem_cons_zero]); go_simp; try with_reducible rfl)
        simp only [Act.put, T.pa, T.pb, T.pc]
        refine T.qT 19 (some 38) ?v18 rfl rfl hCl ?hy18 (fun hCl => ?_)
        case hy18 => (intro w hSw; refine T.qVal ?_ hSw; (try dsimp only [List.getElem_toArray, List.getElem_cons_succ, List.getElem_cons_zero]); go_simp; try with_reducible rfl)
        simp only [Act.put, T.pa, T.pb, T.pc]
        refine T.qT 17 (some 36) ?v19 rfl rfl hCl ?hy19 (fun hCl => ?_)
        case hy19 => (intro w hSw; refine T.qVal ?_ hSw; (have fF14 := F14.out w hSw; have fF15 := F15.out w hSw); (try dsimp only [List.getElem_toArray, List.getElem_cons_succ, List.getElem_cons_zero]); go_simp; try with_reducible rfl)
        simp only [Act.put, T.pa, T.pb, T.pc]
        refine T.qT 20 (some 39) ?v20 rfl rfl hCl ?hy20 (fun hCl => ?_)
        case hy20 => (intro w hSw; refine T.qVal ?_ hSw; (have fF14 := F14.out w hSw; have fF15 := F15.out w hSw); (try dsimp only [List.getElem_toArray, List.getElem_cons_succ, List.getElem_cons_zero]); go_simp; try with_reducible rfl)
        simp only [Act.put, T.pa, T.pb, T.pc]
        refine T.qT 18 (some 37) ?v21 rfl rfl hCl ?hy21 (fun hCl => ?_)
        case hy21 => (intro w hSw; refine T.qVal ?_ hSw; (have fF14 := F14.out w hSw; have fF15 := F15.out w hSw); (try dsimp only [List.getElem_toArray, List.getElem_cons_succ, List.getElem_cons_zero]); go_simp; try with_reducible rfl)
        simp only [Act.put, T.pa, T.pb, T.pc]
        refine T.qT 21 (some 40) ?v22 rfl rfl hCl ?hy22 (fun hCl => ?_)
        case hy22 => (intro w hSw; refine T.qVal ?_ hSw; (have fF14 := F14.out w hSw; have fF15 := F15.out w hSw); (try dsimp only [List.getElem_toArray, List.getElem_cons_succ, List.getElem_cons_zero]); go_simp; try with_reducible rfl)
        simp only [Act.put, T.pa, T.pb, T.pc]
        refine T.qT 22 (some 41) ?v23 rfl rfl hCl ?hy23 (fun hCl => ?_)
        case hy23 => (intro w hSw; refine T.qVal ?_ hSw; (try dsimp only [List.getElem_toArray, List.getElem_cons_succ, List.getElem_cons_zero]); go_simp; try with_reducible rfl)
        simp only [Act.put, T.pa, T.pb, T.pc]
        refine T.qT 23 (some 42) ?v24 rfl rfl hCl ?hy24 (fun hCl => ?_)
        case hy24 => (intro w hSw; refine T.qVal ?_ hSw; (try dsimp only [List.getElem_toArray, List.getElem_cons_succ, List.getElem_cons_zero]); go_simp; try with_reducible rfl)
        simp only [Act.put, T.pa, T.pb, T.pc]
        refine T.qT 24 (some 43) ?v25 rfl rfl hCl ?hy25 (fun hCl => ?_)
        case hy25 => (intro w hSw; refine T.qVal ?_ hSw; (try dsimp only [List.getElem_toArray, List.getElem_cons_succ, List.getElem_cons_zero]); go_simp; try with_reducible rfl)
        simp only [Act.put, T.pa, T.pb, T.pc]
        refine T.qT 25 (some 44) ?v26 rfl rfl hCl ?hy26 (fun hCl => ?_)
        case hy26 => (intro w hSw; refine T.qVal ?_ hSw; (try dsimp only [List.getElem_toArray, List.getElem_cons_succ, List.getElem_cons_zero]); go_simp; try with_reducible rfl)
        simp only [Act.put, T.pa, T.pb, T.pc]
        refine T.qT 27 (some 46) ?v27 rfl rfl hCl ?hy27 (fun hCl => ?_)
        case hy27 => (intro w hSw; refine T.qVal ?_ hSw; (try dsimp only [List.getElem_toArray, List.getElem_cons_succ, List.getElem_cons_zero]); go_simp; try with_reducible rfl)
        simp only [Act.put, T.pa, T.pb, T.pc]
        refine T.qT 26 (some 45) ?v28 rfl rfl hCl ?hy28 (fun hCl => ?_)
        case hy28 => (intro w hSw; refine T.qVal ?_ hSw; (have fF14 := F14.out w hSw; have fF15 := F15.out w hSw); (try dsimp only [List.getElem_toArray, List.getElem_cons_succ, List.getElem_cons_zero]); go_simp; try with_reducible rfl)
        simp only [Act.put, T.pa, T.pb, T.pc]
        refine T.qT 28 (some 47) ?v29 rfl rfl hCl ?hy29 (fun hCl => ?_)
        case hy29 => (intro w hSw; refine T.qVal ?_ hSw; (have fF14 := F14.out w hSw; have fF15 := F15.out w hSw); (try dsimp only [List.getElem_toArray, List.getElem_cons_succ, List.getElem_cons_zero]); go_simp; try with_reducible rfl)
        simp only [Act.put, T.pa, T.pb, T.pc]
        refine T.qT 29 (some 48) ((.int .i64 o0)) rfl rfl hCl ?hy30 (fun hCl => ?_)
        case hy30 => (intro w hSw; (have fF14 := F14.out w hSw; have fF15 := F15.out w hSw); (try dsimp only [List.getElem_toArray, List.getElem_cons_succ, List.getElem_cons_zero]); go_simp; (refine (callsIn_wide.2 (HAt.out (by have := F0.out; omega) _ (HU.out.trans hSw))).mono ?_; rintro e w3 ⟨rfl, rfl⟩; exact ⟨rfl, hSw⟩))
        simp only [Act.put, T.pa, T.pb, T.pc]
        refine T.qT 30 (some 49) ((.bool t)) rfl rfl hCl ?hy31 (fun hCl => ?_)
        case hy31 => (intro w hSw; (have fF14 := F14.out w hSw; have fF15 := F15.out w hSw); (try dsimp only [List.getElem_toArray, List.getElem_cons_succ, List.getElem_cons_zero]); go_simp; (refine (callsIn_wide.2 (HHa.out w)).mono ?_; rintro e w3 ⟨rfl, u3⟩; exact ⟨rfl, hSw.trans u3⟩))
        simp only [Act.put, T.pa, T.pb, T.pc]
        refine T.qT 31 (some 50) ?v32 rfl rfl hCl ?hy32 (fun hCl => ?_)
        case hy32 => (intro w hSw; refine T.qVal ?_ hSw; (try dsimp only [List.getElem_toArray, List.getElem_cons_succ, List.getElem_cons_zero]); go_simp; try with_reducible rfl)
        simp only [Act.put, T.pa, T.pb, T.pc]
        refine T.tail_intro (by kernel_rfl) (fun Y13 hY13 => ?_)
        replace U := U.trans hY13
        replace kB := hY13.blk kB
        replace kT := hY13.blk kT
        clear F14 F15 hY13
        refine lastG (i := 32) (by kernel_rfl) rfl (by rfl) (by decide) (fun K hK => ?_)
        go_simp
        refine hK.out _ _ ?_
        clear hK K
        refine doneG (by kernel_rfl) ?_ _
        refine S.nrm_intro ?_
        have HX := Lib.hid (show t = true ↔ (T.rX bl bh rl rh ps qs ls os pe pa 0 0 0 0) by
          rw [← ht, inB_iff, ← HO0.out]
          exact ⟨fun q => ⟨q, fun m hm => by omega, fun m hm => by omega, fun m hm => by omega, fun m hm => by omega⟩, fun q => q.1⟩)
        clear ht HHa HU HAt g0 g1 g2
        go_wp2_with fail
        go_loopw [7, 8] (fun b i wr => ∃ (k : Nat) (t : Bool), 0 ≤ k ∧ k ≤ ps.length ∧ b = .bool t ∧ i = .int .i64 k ∧ Up w wr ∧ mblk wr (q0) = some (.cells (BoC (N : Int) bl bh rl rh (.slice aP ps.length cP) (.slice aQ qs.length cQ) (.slice aL ls.length cL)) 27 (0, 0)) ∧ mblk wr (q0 + 1) = some (.cells #[(.slice aO os.length cO), (.slice aE pe.length cE), (.slice aA pa.length cA)] 30 (0, 0)) ∧ Hid (t = true ↔ (T.rX bl bh rl rh ps qs ls os pe pa k 0 0 0))) (fun _ i _ => ps.length - (intOf i).toNat)
        case atStart => exact ⟨0, t, Nat.le_refl _, by omega, rfl, rfl, U, kB, kT, HX⟩
        case round =>
          clear U kB kT HX
          obtain ⟨k, t, hk0, hk, rfl, rfl, U, kB, kT, HX⟩ := hrel
          cases t with
          | false =>
            have hno : ¬ ((os.length = N ∧ pe.length = ps.length ∧ pa.length = qs.length) ∧ (T.rX bl bh rl rh ps qs ls os pe pa ps.length qs.length N ls.length)) := fun q => by have := HX.out.2 (q.2.mono (by omega) (by omega) (by omega) (by omega)); cases this
            have HNo := Lib.hid hno
            clear hno kB kT
            go_wp2_with fail
            go_loopw [7] (fun b wr => b = .bool false ∧ Up w wr) (fun _ _ => 0)
            case atStart => exact ⟨rfl, U⟩
            case round =>
              clear U
              obtain ⟨rfl, U⟩ := hrel
              go_wp2_with fail
              go_loopw [7] (fun b wr => b = .bool false ∧ Up w wr) (fun _ _ => 0)
              case atStart => exact ⟨rfl, U⟩
              case round =>
                clear U
                obtain ⟨rfl, U⟩ := hrel
                go_wp2_with fail
                go_loopw [7] (fun b wr => b = .bool false ∧ Up w wr) (fun _ _ => 0)
                case atStart => exact ⟨rfl, U⟩
                case round =>
                  clear U
                  obtain ⟨rfl, U⟩ := hrel
                  go_wp2
                  go_ret2
                  exact ⟨⟨false, rfl, ⟨fun q => (by cases q), fun q => absurd q HNo.out⟩⟩, U⟩
          | true =>
            by_cases hlt : k < ps.length
            · skip
              have ew : IntKind.i64.wrap ((k : Int) + 1) = (k : Int) + 1 := IntWalk.i64_in _ (by omega)
              have dk : decide ((k : Int) < (ps.length : Int)) = true := decide_eq_true (by omega)
              have ilt : (k : Int) < (ps.length : Int) := by omega
              have HT := Lib.hid (HX.out.1 rfl)
              clear HX
              have f0 := F0.out
              have f1 := F1.out
              have f2 := F2.out
              obtain ⟨a', c', e', _, _, hm⟩ := (HI.out w (Up.refl w)).is
              injection e' with ea eb ec
              clear eb ec
              obtain ⟨gS, oS, ga, glS, hxS⟩ := hm (by omega)
              subst ea ga
              clear hm
              obtain ⟨a'', c'', e'', _, _, hm⟩ := (HE.out w (Up.refl w)).is
              injection e'' with ea eb ec
              clear eb ec
              obtain ⟨gV, oV, ga, glV, hxV⟩ := hm (by omega)
              subst ea ga
              clear hm
              obtain ⟨⟨r0, r1⟩, hss⟩ : ∃ s, ps.getD k (0, 0) = s := ⟨_, rfl⟩
              obtain ⟨x0, hx0⟩ : ∃ s, pe.getD k 0 = s := ⟨_, rfl⟩
              have HCc := Lib.hid (fun w' (u : Up w w') => And.intro (show w'.cell? ⟨gS, oS + k * 2, none⟩ = some (.int .i64 r0) by have := hxS k hlt 0 (by omega); rw [hss] at this; exact (u.facts.1 gS _ glS).trans this) (And.intro (show w'.cell? ⟨gS, oS + k * 2 + 1, none⟩ = some (.int .i64 r1) by have := hxS k hlt 1 (by omega); rw [hss] at this; exact (u.facts.1 gS _ glS).trans this) (show w'.cell? ⟨gV, oV + k, none⟩ = some (.int .i64 x0) by have := hxV k (by omega); rw [hx0] at this; exact (u.facts.1 gV _ glV).trans this)))
              obtain ⟨t, ht⟩ : ∃ t, inB x0 r0 r1 = t := ⟨_, rfl⟩
              have HHa := Lib.hid (fun w => show Calls Try.prog 40 #[SpV r0 r1, .int .i64 x0] w fun e w' => e = .returned (.bool t) ∧ Up w w' by rw [← ht]; exact B_Has_any _ _ _ w)
              have HX := Lib.hid (show t = true ↔ (T.rX bl bh rl rh ps qs ls os pe pa (k + 1) 0 0 0) by
                have q := T.rB_succ (xs := ps) (vs := pe) (k := k)
                rw [hss, hx0] at q
                rw [← ht, inB_iff]
                have p := HT.out
                unfold T.rX at p ⊢
                rw [q]
                exact ⟨fun h => ⟨p.1, ⟨p.2.1, h⟩, p.2.2⟩, fun h => h.2.1.2⟩)
              have HU := Lib.hid U
              have ivv : k < pe.length := by omega
              have ivw : (k : Int) < (pe.length : Int) := by omega
              clear hxS glS hxV glV hss hx0 ht HT f0 f1 f2
              go_wp2_with fail
              have F162 := Lib.hid (fun w (u : Up wr w) => cellB (u.blk kB))
              have F163 := Lib.hid (fun w (u : Up wr w) => cellB (u.blk kT))
              refine (wpIn_wide (n := 5)).1 ?_
              refine wpIn_nrm ?_
              refine T.regionQ (fun w' => Up wr w') 11 1 hmx (by kernel_rfl) (by kernel_rfl) ((Up.refl wr).drew) (fun hCl => ?_)
              refine T.qT 0 (some 61) ?v33 rfl rfl hCl ?hy33 (fun hCl => ?_)
              case hy33 => (intro w hSw; refine T.qVal ?_ hSw; (try dsimp only [List.getElem_toArray, List.getElem_cons_succ, List.getElem_cons_zero]); go_simp; try with_reducible rfl)
              simp only [Act.put, T.pa, T.pb, T.pc]
              refine T.qT 2 (some 63) ?v34 rfl rfl hCl ?hy34 (fun hCl => ?_)
              case hy34 => (intro w hSw; refine T.qVal ?_ hSw; (try dsimp only [List.getElem_toArray, List.getElem_cons_succ, List.getElem_cons_zero]); go_simp; try with_reducible rfl)
              simp only [Act.put, T.pa, T.pb, T.pc]
              refine T.qT 5 (some 66) ?v35 rfl rfl hCl ?hy35 (fun hCl => ?_)
              case hy35 => (intro w hSw; refine T.qVal ?_ hSw; (try dsimp only [List.getElem_toArray, List.getElem_cons_succ, List.getElem_cons_zero]); go_simp; try with_reducible rfl)
              simp only [Act.put, T.pa, T.pb, T.pc]
              refine T.qT 7 (some 68) ?v36 rfl rfl hCl ?hy36 (fun hCl => ?_)
              case hy36 => (intro w hSw; refine T.qVal ?_ hSw; (try dsimp only [List.getElem_toArray, List.getElem_cons_succ, List.getElem_cons_zero]); go_simp; try with_reducible rfl)
              simp only [Act.put, T.pa, T.pb, T.pc]
              refine T.qT 1 (some 62) ?v37 rfl rfl hCl ?hy37 (fun hCl => ?_)
              case hy37 => (intro w hSw; refine T.qVal ?_ hSw; (have fF162 := F162.out w hSw; have fF163 := F163.out w hSw; obtain ⟨y0, y1, y2⟩ := HCc.out _ (HU.out.trans hSw)); (try dsimp only [List.getElem_toArray, List.getElem_cons_succ, List.getElem_cons_zero]); go_simp; try with_reducible rfl)
              simp only [Act.put, T.pa, T.pb, T.pc]
              refine T.qT 6 (some 67) ?v38 rfl rfl hCl ?hy38 (fun hCl => ?_)
              case hy38 => (intro w hSw; refine T.qVal ?_ hSw; (have fF162 := F162.out w hSw; have fF163 := F163.out w hSw; obtain ⟨y0, y1, y2⟩ := HCc.out _ (HU.out.trans hSw)); (try dsimp only [List.getElem_toArray, List.getElem_cons_succ, List.getElem_cons_zero]); go_simp; try with_reducible rfl)
              simp only [Act.put, T.pa, T.pb, T.pc]
              refine T.qT 3 (some 64) ?v39 rfl rfl hCl ?hy39 (fun hCl => ?_)
              case hy39 => (intro w hSw; refine T.qVal ?_ hSw; (try dsimp only [List.getElem_toArray, List.getElem_cons_succ, List.getElem_cons_zero]); go_simp; try with_reducible rfl)
              simp only [Act.put, T.pa, T.pb, T.pc]
              refine T.qT 8 (some 69) ?v40 rfl rfl hCl ?hy40 (fun hCl => ?_)
              case hy40 => (intro w hSw; refine T.qVal ?_ hSw; (try dsimp only [List.getElem_toArray, List.getElem_cons_succ, List.getElem_cons_zero]); go_simp; try with_reducible rfl)
              simp only [Act.put, T.pa, T.pb, T.pc]
              refine T.qT 4 (some 65) ?v41 rfl rfl hCl ?hy41 (fun hCl => ?_)
              case hy41 => (intro w hSw; refine T.qVal ?_ hSw; (have fF162 := F162.out w hSw; have fF163 := F163.out w hSw; obtain ⟨y0, y1, y2⟩ := HCc.out _ (HU.out.trans hSw)); (try dsimp only [List.getElem_toArray, List.getElem_cons_succ, List.getElem_cons_zero]); go_simp; try with_reducible rfl)
              simp only [Act.put, T.pa, T.pb, T.pc]
              refine T.qT 9 (some 70) ?v42 rfl rfl hCl ?hy42 (fun hCl => ?_)
              case hy42 => (intro w hSw; refine T.qVal ?_ hSw; (have fF162 := F162.out w hSw; have fF163 := F163.out w hSw; obtain ⟨y0, y1, y2⟩ := HCc.out _ (HU.out.trans hSw)); (try dsimp only [List.getElem_toArray, List.getElem_cons_succ, List.getElem_cons_zero]); go_simp; try with_reducible rfl)
              simp only [Act.put, T.pa, T.pb, T.pc]
              refine T.qT 10 (some 71) ((.bool t)) rfl rfl hCl ?hy43 (fun hCl => ?_)
              case hy43 => (intro w hSw; (have fF162 := F162.out w hSw; have fF163 := F163.out w hSw; obtain ⟨y0, y1, y2⟩ := HCc.out _ (HU.out.trans hSw)); (try dsimp only [List.getElem_toArray, List.getElem_cons_succ, List.getElem_cons_zero]); go_simp; (refine (callsIn_wide.2 (HHa.out w)).mono ?_; rintro e w3 ⟨rfl, u3⟩; exact ⟨rfl, hSw.trans u3⟩))
              simp only [Act.put, T.pa, T.pb, T.pc]
              refine T.tail_intro (by kernel_rfl) (fun Y161 hY161 => ?_)
              replace U := U.trans hY161
              replace kB := hY161.blk kB
              replace kT := hY161.blk kT
              clear F162 F163 hY161
              refine lastG (i := 11) (by kernel_rfl) rfl (by rfl) (by decide) (fun K hK => ?_)
              go_simp
              refine hK.out _ _ ?_
              clear hK K
              refine doneG (by kernel_rfl) ?_ _
              refine S.nrm_intro ?_
              clear HU HHa HCc
              go_wp2_with fail
              go_roundw
              case rel => exact ⟨k + 1, t, by omega, by omega, rfl, by go_num, U, kB, kT, HX⟩
              case measure => (simp only [intOf]; omega)
            · skip
              have hkl : ps.length = k := by omega
              subst hkl
              have dk : decide ((ps.length : Int) < (ps.length : Int)) = false := decide_eq_false (by omega)
              have HT := Lib.hid (HX.out.1 rfl)
              clear HX
              clear hk hk0 hlt
              go_wp2_with fail
              clear dk
              go_loopw [7, 9] (fun b i wr => ∃ (k : Nat) (t : Bool), 0 ≤ k ∧ k ≤ qs.length ∧ b = .bool t ∧ i = .int .i64 k ∧ Up w wr ∧ mblk wr (q0) = some (.cells (BoC (N : Int) bl bh rl rh (.slice aP ps.length cP) (.slice aQ qs.length cQ) (.slice aL ls.length cL)) 27 (0, 0)) ∧ mblk wr (q0 + 1) = some (.cells #[(.slice aO os.length cO), (.slice aE pe.length cE), (.slice aA pa.length cA)] 30 (0, 0)) ∧ Hid (t = true ↔ (T.rX bl bh rl rh ps qs ls os pe pa ps.length k 0 0))) (fun _ i _ => qs.length - (intOf i).toNat)
              case atStart => exact ⟨0, true, Nat.le_refl _, by omega, rfl, rfl, U, kB, kT, Lib.hid ⟨fun _ => HT.out, fun _ => rfl⟩⟩
              case round =>
                clear U kB kT HT
                obtain ⟨k, t, hk0, hk, rfl, rfl, U, kB, kT, HX⟩ := hrel
                cases t with
                | false =>
                  have hno : ¬ ((os.length = N ∧ pe.length = ps.length ∧ pa.length = qs.length) ∧ (T.rX bl bh rl rh ps qs ls os pe pa ps.length qs.length N ls.length)) := fun q => by have := HX.out.2 (q.2.mono (by omega) (by omega) (by omega) (by omega)); cases this
                  have HNo := Lib.hid hno
                  clear hno kB kT
                  go_wp2_with fail
                  go_loopw [7] (fun b wr => b = .bool false ∧ Up w wr) (fun _ _ => 0)
                  case atStart => exact ⟨rfl, U⟩
                  case round =>
                    clear U
                    obtain ⟨rfl, U⟩ := hrel
                    go_wp2_with fail
                    go_loopw [7] (fun b wr => b = .bool false ∧ Up w wr) (fun _ _ => 0)
                    case atStart => exact ⟨rfl, U⟩
                    case round =>
                      clear U
                      obtain ⟨rfl, U⟩ := hrel
                      go_wp2
                      go_ret2
                      exact ⟨⟨false, rfl, ⟨fun q => (by cases q), fun q => absurd q HNo.out⟩⟩, U⟩
                | true =>
                  by_cases hlt : k < qs.length
                  · skip
                    have ew : IntKind.i64.wrap ((k : Int) + 1) = (k : Int) + 1 := IntWalk.i64_in _ (by omega)
                    have dk : decide ((k : Int) < (qs.length : Int)) = true := decide_eq_true (by omega)
                    have ilt : (k : Int) < (qs.length : Int) := by omega
                    have HT := Lib.hid (HX.out.1 rfl)
                    clear HX
                    have f0 := F0.out
                    have f1 := F1.out
                    have f2 := F2.out
                    obtain ⟨a', c', e', _, _, hm⟩ := (HJ.out w (Up.refl w)).is
                    injection e' with ea eb ec
                    clear eb ec
                    obtain ⟨gS, oS, ga, glS, hxS⟩ := hm (by omega)
                    subst ea ga
                    clear hm
                    obtain ⟨a'', c'', e'', _, _, hm⟩ := (HA.out w (Up.refl w)).is
                    injection e'' with ea eb ec
                    clear eb ec
                    obtain ⟨gV, oV, ga, glV, hxV⟩ := hm (by omega)
                    subst ea ga
                    clear hm
                    obtain ⟨⟨r0, r1⟩, hss⟩ : ∃ s, qs.getD k (0, 0) = s := ⟨_, rfl⟩
                    obtain ⟨x0, hx0⟩ : ∃ s, pa.getD k 0 = s := ⟨_, rfl⟩
                    have HCc := Lib.hid (fun w' (u : Up w w') => And.intro (show w'.cell? ⟨gS, oS + k * 2, none⟩ = some (.int .i64 r0) by have := hxS k hlt 0 (by omega); rw [hss] at this; exact (u.facts.1 gS _ glS).trans this) (And.intro (show w'.cell? ⟨gS, oS + k * 2 + 1, none⟩ = some (.int .i64 r1) by have := hxS k hlt 1 (by omega); rw [hss] at this; exact (u.facts.1 gS _ glS).trans this) (show w'.cell? ⟨gV, oV + k, none⟩ = some (.int .i64 x0) by have := hxV k (by omega); rw [hx0] at this; exact (u.facts.1 gV _ glV).trans this)))
                    obtain ⟨t, ht⟩ : ∃ t, inB x0 r0 r1 = t := ⟨_, rfl⟩
                    have HHa := Lib.hid (fun w => show Calls Try.prog 40 #[SpV r0 r1, .int .i64 x0] w fun e w' => e = .returned (.bool t) ∧ Up w w' by rw [← ht]; exact B_Has_any _ _ _ w)
                    have HX := Lib.hid (show t = true ↔ (T.rX bl bh rl rh ps qs ls os pe pa ps.length (k + 1) 0 0) by
                      have q := T.rB_succ (xs := qs) (vs := pa) (k := k)
                      rw [hss, hx0] at q
                      rw [← ht, inB_iff]
                      have p := HT.out
                      unfold T.rX at p ⊢
                      rw [q]
                      exact ⟨fun h => ⟨p.1, p.2.1, ⟨p.2.2.1, h⟩, p.2.2.2⟩, fun h => h.2.2.1.2⟩)
                    have HU := Lib.hid U
                    have ivv : k < pa.length := by omega
                    have ivw : (k : Int) < (pa.length : Int) := by omega
                    clear hxS glS hxV glV hss hx0 ht HT f0 f1 f2
                    go_wp2_with fail
                    have F182 := Lib.hid (fun w (u : Up wr w) => cellB (u.blk kB))
                    have F183 := Lib.hid (fun w (u : Up wr w) => cellB (u.blk kT))
                    refine (wpIn_wide (n := 5)).1 ?_
                    refine wpIn_nrm ?_
                    refine T.regionQ (fun w' => Up wr w') 11 1 hmx (by kernel_rfl) (by kernel_rfl) ((Up.refl wr).drew) (fun hCl => ?_)
                    refine T.qT 0 (some 82) ?v44 rfl rfl hCl ?hy44 (fun hCl => ?_)
                    case hy44 => (intro w hSw; refine T.qVal ?_ hSw; (try dsimp only [List.getElem_toArray, List.getElem_cons_succ, List.getElem_cons_zero]); go_simp; try with_reducible rfl)
                    simp only [Act.put, T.pa, T.pb, T.pc]
                    refine T.qT 2 (some 84) ?v45 rfl rfl hCl ?hy45 (fun hCl => ?_)
                    case hy45 => (intro w hSw; refine T.qVal ?_ hSw; (try dsimp only [List.getElem_toArray, List.getElem_cons_succ, List.getElem_cons_zero]); go_simp; try with_reducible rfl)
                    simp only [Act.put, T.pa, T.pb, T.pc]
                    refine T.qT 5 (some 87) ?v46 rfl rfl hCl ?hy46 (fun hCl => ?_)
                    case hy46 => (intro w hSw; refine T.qVal ?_ hSw; (try dsimp only [List.getElem_toArray, List.getElem_cons_succ, List.getElem_cons_zero]); go_simp; try with_reducible rfl)
                    simp only [Act.put, T.pa, T.pb, T.pc]
                    refine T.qT 7 (some 89) ?v47 rfl rfl hCl ?hy47 (fun hCl => ?_)
                    case hy47 => (intro w hSw; refine T.qVal ?_ hSw; (try dsimp only [List.getElem_toArray, List.getElem_cons_succ, List.getElem_cons_zero]); go_simp; try with_reducible rfl)
                    simp only [Act.put, T.pa, T.pb, T.pc]
                    refine T.qT 1 (some 83) ?v48 rfl rfl hCl ?hy48 (fun hCl => ?_)
                    case hy48 => (intro w hSw; refine T.qVal ?_ hSw; (have fF182 := F182.out w hSw; have fF183 := F183.out w hSw; obtain ⟨y0, y1, y2⟩ := HCc.out _ (HU.out.trans hSw)); (try dsimp only [List.getElem_toArray, List.getElem_cons_succ, List.getElem_cons_zero]); go_simp; try with_reducible rfl)
                    simp only [Act.put, T.pa, T.pb, T.pc]
                    refine T.qT 6 (some 88) ?v49 rfl rfl hCl ?hy49 (fun hCl => ?_)
                    case hy49 => (intro w hSw; refine T.qVal ?_ hSw; (have fF182 := F182.out w hSw; have fF183 := F183.out w hSw; obtain ⟨y0, y1, y2⟩ := HCc.out _ (HU.out.trans hSw)); (try dsimp only [List.getElem_toArray, List.getElem_cons_succ, List.getElem_cons_zero]); go_simp; try with_reducible rfl)
                    simp only [Act.put, T.pa, T.pb, T.pc]
                    refine T.qT 3 (some 85) ?v50 rfl rfl hCl ?hy50 (fun hCl => ?_)
                    case hy50 => (intro w hSw; refine T.qVal ?_ hSw; (try dsimp only [List.getElem_toArray, List.getElem_cons_succ, List.getElem_cons_zero]); go_simp; try with_reducible rfl)
                    simp only [Act.put, T.pa, T.pb, T.pc]
                    refine T.qT 8 (some 90) ?v51 rfl rfl hCl ?hy51 (fun hCl => ?_)
                    case hy51 => (intro w hSw; refine T.qVal ?_ hSw; (try dsimp only [List.getElem_toArray, List.getElem_cons_succ, List.getElem_cons_zero]); go_simp; try with_reducible rfl)
                    simp only [Act.put, T.pa, T.pb, T.pc]
                    refine T.qT 4 (some 86) ?v52 rfl rfl hCl ?hy52 (fun hCl => ?_)
                    case hy52 => (intro w hSw; refine T.qVal ?_ hSw; (have fF182 := F182.out w hSw; have fF183 := F183.out w hSw; obtain ⟨y0, y1, y2⟩ := HCc.out _ (HU.out.trans hSw)); (try dsimp only [List.getElem_toArray, List.getElem_cons_succ, List.getElem_cons_zero]); go_simp; try with_reducible rfl)
                    simp only [Act.put, T.pa, T.pb, T.pc]
                    refine T.qT 9 (some 91) ?v53 rfl rfl hCl ?hy53 (fun hCl => ?_)
                    case hy53 => (intro w hSw; refine T.qVal ?_ hSw; (have fF182 := F182.out w hSw; have fF183 := F183.out w hSw; obtain ⟨y0, y1, y2⟩ := HCc.out _ (HU.out.trans hSw)); (try dsimp only [List.getElem_toArray, List.getElem_cons_succ, List.getElem_cons_zero]); go_simp; try with_reducible rfl)
                    simp only [Act.put, T.pa, T.pb, T.pc]
                    refine T.qT 10 (some 92) ((.bool t)) rfl rfl hCl ?hy54 (fun hCl => ?_)
                    case hy54 => (intro w hSw; (have fF182 := F182.out w hSw; have fF183 := F183.out w hSw; obtain ⟨y0, y1, y2⟩ := HCc.out _ (HU.out.trans hSw)); (try dsimp only [List.getElem_toArray, List.getElem_cons_succ, List.getElem_cons_zero]); go_simp; (refine (callsIn_wide.2 (HHa.out w)).mono ?_; rintro e w3 ⟨rfl, u3⟩; exact ⟨rfl, hSw.trans u3⟩))
                    simp only [Act.put, T.pa, T.pb, T.pc]
                    refine T.tail_intro (by kernel_rfl) (fun Y181 hY181 => ?_)
                    replace U := U.trans hY181
                    replace kB := hY181.blk kB
                    replace kT := hY181.blk kT
                    clear F182 F183 hY181
                    refine lastG (i := 11) (by kernel_rfl) rfl (by rfl) (by decide) (fun K hK => ?_)
                    go_simp
                    refine hK.out _ _ ?_
                    clear hK K
                    refine doneG (by kernel_rfl) ?_ _
                    refine S.nrm_intro ?_
                    clear HU HHa HCc
                    go_wp2_with fail
                    go_roundw
                    case rel => exact ⟨k + 1, t, by omega, by omega, rfl, by go_num, U, kB, kT, HX⟩
                    case measure => (simp only [intOf]; omega)
                  · skip
                    have hkl : qs.length = k := by omega
                    subst hkl
                    have dk : decide ((qs.length : Int) < (qs.length : Int)) = false := decide_eq_false (by omega)
                    have HT := Lib.hid (HX.out.1 rfl)
                    clear HX
                    clear hk hk0 hlt
                    go_wp2_with fail
                    clear dk
                    go_loopw [7, 10] (fun b i wr => ∃ (k : Nat) (t : Bool), 1 ≤ k ∧ k ≤ N ∧ b = .bool t ∧ i = .int .i64 k ∧ Up w wr ∧ mblk wr (q0) = some (.cells (BoC (N : Int) bl bh rl rh (.slice aP ps.length cP) (.slice aQ qs.length cQ) (.slice aL ls.length cL)) 27 (0, 0)) ∧ mblk wr (q0 + 1) = some (.cells #[(.slice aO os.length cO), (.slice aE pe.length cE), (.slice aA pa.length cA)] 30 (0, 0)) ∧ Hid (t = true ↔ (T.rX bl bh rl rh ps qs ls os pe pa ps.length qs.length k 0))) (fun _ i _ => N - (intOf i).toNat)
                    case atStart => exact ⟨1, true, Nat.le_refl _, by omega, rfl, rfl, U, kB, kT, Lib.hid ⟨fun _ => ⟨HT.out.1, HT.out.2.1, HT.out.2.2.1, fun m hm => by omega, HT.out.2.2.2.2⟩, fun _ => rfl⟩⟩
                    case round =>
                      clear U kB kT HT
                      obtain ⟨k, t, hk0, hk, rfl, rfl, U, kB, kT, HX⟩ := hrel
                      cases t with
                      | false =>
                        have hno : ¬ ((os.length = N ∧ pe.length = ps.length ∧ pa.length = qs.length) ∧ (T.rX bl bh rl rh ps qs ls os pe pa ps.length qs.length N ls.length)) := fun q => by have := HX.out.2 (q.2.mono (by omega) (by omega) (by omega) (by omega)); cases this
                        have HNo := Lib.hid hno
                        clear hno kB kT
                        go_wp2_with fail
                        go_loopw [7] (fun b wr => b = .bool false ∧ Up w wr) (fun _ _ => 0)
                        case atStart => exact ⟨rfl, U⟩
                        case round =>
                          clear U
                          obtain ⟨rfl, U⟩ := hrel
                          go_wp2
                          go_ret2
                          exact ⟨⟨false, rfl, ⟨fun q => (by cases q), fun q => absurd q HNo.out⟩⟩, U⟩
                      | true =>
                        by_cases hlt : k < N
                        · skip
                          have ew : IntKind.i64.wrap ((k : Int) + 1) = (k : Int) + 1 := IntWalk.i64_in _ (by omega)
                          have dk : decide ((k : Int) < (N : Int)) = true := decide_eq_true (by omega)
                          have ilt : (k : Int) < (N : Int) := by omega
                          have HT := Lib.hid (HX.out.1 rfl)
                          clear HX
                          have f0 := F0.out
                          have f1 := F1.out
                          have f2 := F2.out
                          obtain ⟨a'', c'', e'', _, _, hm⟩ := (HO.out w (Up.refl w)).is
                          injection e'' with ea eb ec
                          clear eb ec
                          obtain ⟨gV, oV, ga, glV, hxV⟩ := hm (by omega)
                          subst ea ga
                          clear hm
                          obtain ⟨k1, rfl⟩ : ∃ q, k = q + 1 := ⟨k - 1, by omega⟩
                          obtain ⟨kk, hkk⟩ : ∃ q, k1 + 1 = q := ⟨_, rfl⟩
                          obtain ⟨x0, hx0⟩ : ∃ s, os.getD k1 0 = s := ⟨_, rfl⟩
                          obtain ⟨x1, hx1⟩ : ∃ s, os.getD (k1 + 1) 0 = s := ⟨_, rfl⟩
                          have HCc := Lib.hid (fun w' (u : Up w w') => And.intro (show w'.cell? ⟨gV, oV + kk, none⟩ = some (.int .i64 x1) by rw [← hkk]; have := hxV (k1 + 1) (by omega); rw [hx1] at this; exact (u.facts.1 gV _ glV).trans this) (show w'.cell? ⟨gV, oV + k1, none⟩ = some (.int .i64 x0) by have := hxV k1 (by omega); rw [hx0] at this; exact (u.facts.1 gV _ glV).trans this))
                          have bx1 := HB.out x1 (by rw [← hx1]; exact T.getD_mem (by omega))
                          have bx0 := T.rX_bd ⟨HBR.out.1.1, HBR.out.1.2.2⟩ ⟨HBR.out.2.1, HBR.out.2.2.2⟩ HT.out k1 (by omega) (by omega)
                          rw [hx0] at bx0
                          obtain ⟨dd, hdd⟩ : ∃ d, IntKind.i64.wrap (x1 - x0) = d := ⟨_, rfl⟩
                          have hin : inB dd rl rh = inB (x1 - x0) rl rh := by rw [← hdd]; exact T.wrap_in (by unfold D.in64 at bx1; omega) (by have := HBR.out; omega) (by have := HBR.out; omega)
                          obtain ⟨t, ht⟩ : ∃ t, inB dd rl rh = t := ⟨_, rfl⟩
                          have HHa := Lib.hid (fun w => show Calls Try.prog 40 #[SpV rl rh, .int .i64 dd] w fun e w' => e = .returned (.bool t) ∧ Up w w' by rw [← ht]; exact B_Has_any _ _ _ w)
                          have HX := Lib.hid (show t = true ↔ (T.rX bl bh rl rh ps qs ls os pe pa ps.length qs.length (k1 + 1 + 1) 0) by
                            have q := T.rD_succ (rl := rl) (rh := rh) (os := os) (k := k1)
                            rw [hx0, hx1] at q
                            rw [← ht, hin, inB_iff]
                            have p := HT.out
                            unfold T.rX at p ⊢
                            rw [q]
                            exact ⟨fun h => ⟨p.1, p.2.1, p.2.2.1, ⟨p.2.2.2.1, h⟩, p.2.2.2.2⟩, fun h => h.2.2.2.1.2⟩)
                          have HU := Lib.hid U
                          rw [hkk] at ew dk ilt hlt HX hk hk0 ⊢
                          have ew1 : IntKind.i64.wrap ((kk : Int) - 1) = (k1 : Int) := by rw [show (kk : Int) - 1 = (k1 : Int) by omega]; exact IntWalk.i64_in _ (by omega)
                          have ik1 : (k1 : Int) < (os.length : Int) := by omega
                          have ik1n : k1 < os.length := by omega
                          have ikkn : kk < os.length := by omega
                          have ikk : (kk : Int) < (os.length : Int) := by omega
                          clear hxV glV hx0 hx1 ht HT hin bx1 bx0 f0 f1 f2
                          go_wp2_with fail
                          have F202 := Lib.hid (fun w (u : Up wr w) => cellB (u.blk kB))
                          have F203 := Lib.hid (fun w (u : Up wr w) => cellB (u.blk kT))
                          refine (wpIn_wide (n := 5)).1 ?_
                          refine wpIn_nrm ?_
                          refine T.regionQ (fun w' => Up wr w') 15 1 hmx (by kernel_rfl) (by kernel_rfl) ((Up.refl wr).drew) (fun hCl => ?_)
                          refine T.qT 0 (some 102) ?v55 rfl rfl hCl ?hy55 (fun hCl => ?_)
                          case hy55 => (intro w hSw; refine T.qVal ?_ hSw; (try dsimp only [List.getElem_toArray, List.getElem_cons_succ, List.getElem_cons_zero]); go_simp; try with_reducible rfl)
                          simp only [Act.put, T.pa, T.pb, T.pc]
                          refine T.qT 2 (some 104) ?v56 rfl rfl hCl ?hy56 (fun hCl => ?_)
                          case hy56 => (intro w hSw; refine T.qVal ?_ hSw; (try dsimp only [List.getElem_toArray, List.getElem_cons_succ, List.getElem_cons_zero]); go_simp; try with_reducible rfl)
                          simp only [Act.put, T.pa, T.pb, T.pc]
                          refine T.qT 4 (some 106) ?v57 rfl rfl hCl ?hy57 (fun hCl => ?_)
                          case hy57 => (intro w hSw; refine T.qVal ?_ hSw; (try dsimp only [List.getElem_toArray, List.getElem_cons_succ, List.getElem_cons_zero]); go_simp; try with_reducible rfl)
                          simp only [Act.put, T.pa, T.pb, T.pc]
                          refine T.qT 7 (some 109) ?v58 rfl rfl hCl ?hy58 (fun hCl => ?_)
                          case hy58 => (intro w hSw; refine T.qVal ?_ hSw; (try dsimp only [List.getElem_toArray, List.getElem_cons_succ, List.getElem_cons_zero]); go_simp; try with_reducible rfl)
                          simp only [Act.put, T.pa, T.pb, T.pc]
                          refine T.qT 9 (some 111) ?v59 rfl rfl hCl ?hy59 (fun hCl => ?_)
                          case hy59 => (intro w hSw; refine T.qVal ?_ hSw; (try dsimp only [List.getElem_toArray, List.getElem_cons_succ, List.getElem_cons_zero]); go_simp; try with_reducible rfl)
                          simp only [Act.put, T.pa, T.pb, T.pc]
                          refine T.qT 1 (some 103) ?v60 rfl rfl hCl ?hy60 (fun hCl => ?_)
                          case hy60 => (intro w hSw; refine T.qVal ?_ hSw; (have fF202 := F202.out w hSw; have fF203 := F203.out w hSw; obtain ⟨y0, y1⟩ := HCc.out _ (HU.out.trans hSw)); (try dsimp only [List.getElem_toArray, List.getElem_cons_succ, List.getElem_cons_zero]); go_simp; try with_reducible rfl)
                          simp only [Act.put, T.pa, T.pb, T.pc]
                          refine T.qT 3 (some 105) ?v61 rfl rfl hCl ?hy61 (fun hCl => ?_)
                          case hy61 => (intro w hSw; refine T.qVal ?_ hSw; (have fF202 := F202.out w hSw; have fF203 := F203.out w hSw; obtain ⟨y0, y1⟩ := HCc.out _ (HU.out.trans hSw)); (try dsimp only [List.getElem_toArray, List.getElem_cons_succ, List.getElem_cons_zero]); go_simp; try with_reducible rfl)
                          simp only [Act.put, T.pa, T.pb, T.pc]
                          refine T.qT 8 (some 110) ?v62 rfl rfl hCl ?hy62 (fun hCl => ?_)
                          case hy62 => (intro w hSw; refine T.qVal ?_ hSw; (have fF202 := F202.out w hSw; have fF203 := F203.out w hSw; obtain ⟨y0, y1⟩ := HCc.out _ (HU.out.trans hSw)); (try dsimp only [List.getElem_toArray, List.getElem_cons_succ, List.getElem_cons_zero]); go_simp; try with_reducible rfl)
                          simp only [Act.put, T.pa, T.pb, T.pc]
                          refine T.qT 10 (some 112) ?v63 rfl rfl hCl ?hy63 (fun hCl => ?_)
                          case hy63 => (intro w hSw; refine T.qVal ?_ hSw; (try dsimp only [List.getElem_toArray, List.getElem_cons_succ, List.getElem_cons_zero]); go_simp; try with_reducible rfl)
                          simp only [Act.put, T.pa, T.pb, T.pc]
                          refine T.qT 5 (some 107) ?v64 rfl rfl hCl ?hy64 (fun hCl => ?_)
                          case hy64 => (intro w hSw; refine T.qVal ?_ hSw; (try dsimp only [List.getElem_toArray, List.getElem_cons_succ, List.getElem_cons_zero]); go_simp; try with_reducible rfl)
                          simp only [Act.put, T.pa, T.pb, T.pc]
                          refine T.qT 11 (some 113) ?v65 rfl rfl hCl ?hy65 (fun hCl => ?_)
                          case hy65 => (intro w hSw; refine T.qVal ?_ hSw; (try dsimp only [List.getElem_toArray, List.getElem_cons_succ, List.getElem_cons_zero]); go_simp; try with_reducible rfl)
                          simp only [Act.put, T.pa, T.pb, T.pc]
                          refine T.qT 6 (some 108) ?v66 rfl rfl hCl ?hy66 (fun hCl => ?_)
                          case hy66 => (intro w hSw; refine T.qVal ?_ hSw; (have fF202 := F202.out w hSw; have fF203 := F203.out w hSw; obtain ⟨y0, y1⟩ := HCc.out _ (HU.out.trans hSw)); (try dsimp only [List.getElem_toArray, List.getElem_cons_succ, List.getElem_cons_zero]); go_simp; try with_reducible rfl)
                          simp only [Act.put, T.pa, T.pb, T.pc]
                          refine T.qT 12 (some 114) ?v67 rfl rfl hCl ?hy67 (fun hCl => ?_)
                          case hy67 => (intro w hSw; refine T.qVal ?_ hSw; (have fF202 := F202.out w hSw; have fF203 := F203.out w hSw; obtain ⟨y0, y1⟩ := HCc.out _ (HU.out.trans hSw)); (try dsimp only [List.getElem_toArray, List.getElem_cons_succ, List.getElem_cons_zero]); go_simp; try with_reducible rfl)
                          simp only [Act.put, T.pa, T.pb, T.pc]
                          refine T.qT 13 (some 115) ?v68 rfl rfl hCl ?hy68 (fun hCl => ?_)
                          case hy68 => (intro w hSw; refine T.qVal ?_ hSw; (try dsimp only [List.getElem_toArray, List.getElem_cons_succ, List.getElem_cons_zero]); go_simp; try with_reducible rfl)
                          simp only [Act.put, T.pa, T.pb, T.pc]
                          refine T.qT 14 (some 116) ((.bool t)) rfl rfl hCl ?hy69 (fun hCl => ?_)
                          case hy69 => (intro w hSw; (have fF202 := F202.out w hSw; have fF203 := F203.out w hSw; obtain ⟨y0, y1⟩ := HCc.out _ (HU.out.trans hSw)); (try dsimp only [List.getElem_toArray, List.getElem_cons_succ, List.getElem_cons_zero]); go_simp; (refine (callsIn_wide.2 (HHa.out w)).mono ?_; rintro e w3 ⟨rfl, u3⟩; exact ⟨rfl, hSw.trans u3⟩))
                          simp only [Act.put, T.pa, T.pb, T.pc]
                          refine T.tail_intro (by kernel_rfl) (fun Y201 hY201 => ?_)
                          replace U := U.trans hY201
                          replace kB := hY201.blk kB
                          replace kT := hY201.blk kT
                          clear F202 F203 hY201
                          refine lastG (i := 15) (by kernel_rfl) rfl (by rfl) (by decide) (fun K hK => ?_)
                          go_simp
                          refine hK.out _ _ ?_
                          clear hK K
                          refine doneG (by kernel_rfl) ?_ _
                          refine S.nrm_intro ?_
                          clear HU HHa HCc hdd ew1
                          go_wp2_with fail
                          go_roundw
                          case rel => exact ⟨kk + 1, t, by omega, by omega, rfl, by go_num, U, kB, kT, HX⟩
                          case measure => (simp only [intOf]; omega)
                        · skip
                          have hkl : N = k := by omega
                          subst hkl
                          have dk : decide ((N : Int) < (N : Int)) = false := decide_eq_false (by omega)
                          have HT := Lib.hid (HX.out.1 rfl)
                          clear HX
                          clear hk hk0 hlt
                          go_wp2_with fail
                          clear dk
                          go_loopw [7, 11] (fun b i wr => ∃ (k : Nat) (t : Bool), 0 ≤ k ∧ k ≤ ls.length ∧ b = .bool t ∧ i = .int .i64 k ∧ Up w wr ∧ mblk wr (q0) = some (.cells (BoC (N : Int) bl bh rl rh (.slice aP ps.length cP) (.slice aQ qs.length cQ) (.slice aL ls.length cL)) 27 (0, 0)) ∧ mblk wr (q0 + 1) = some (.cells #[(.slice aO os.length cO), (.slice aE pe.length cE), (.slice aA pa.length cA)] 30 (0, 0)) ∧ Hid (t = true ↔ (T.rX bl bh rl rh ps qs ls os pe pa ps.length qs.length N k))) (fun _ i _ => ls.length - (intOf i).toNat)
                          case atStart => exact ⟨0, true, Nat.le_refl _, by omega, rfl, rfl, U, kB, kT, Lib.hid ⟨fun _ => HT.out, fun _ => rfl⟩⟩
                          case round =>
                            clear U kB kT HT
                            obtain ⟨k, t, hk0, hk, rfl, rfl, U, kB, kT, HX⟩ := hrel
                            cases t with
                            | false =>
                              have hno : ¬ ((os.length = N ∧ pe.length = ps.length ∧ pa.length = qs.length) ∧ (T.rX bl bh rl rh ps qs ls os pe pa ps.length qs.length N ls.length)) := fun q => by have := HX.out.2 (q.2.mono (by omega) (by omega) (by omega) (by omega)); cases this
                              have HNo := Lib.hid hno
                              clear hno kB kT
                              go_wp2
                              go_ret2
                              exact ⟨⟨false, rfl, ⟨fun q => (by cases q), fun q => absurd q HNo.out⟩⟩, U⟩
                            | true =>
                              by_cases hlt : k < ls.length
                              · skip
                                have ew : IntKind.i64.wrap ((k : Int) + 1) = (k : Int) + 1 := IntWalk.i64_in _ (by omega)
                                have dk : decide ((k : Int) < (ls.length : Int)) = true := decide_eq_true (by omega)
                                have ilt : (k : Int) < (ls.length : Int) := by omega
                                have HT := Lib.hid (HX.out.1 rfl)
                                clear HX
                                have f0 := F0.out
                                have f1 := F1.out
                                have f2 := F2.out
                                obtain ⟨n, wh, kd, r3, r4, hpl, hnN, hkd, hr, he⟩ := T.look_pl HV.out hlt
                                obtain ⟨a', c', e', _, _, hm⟩ := (HK.out w (Up.refl w)).is
                                injection e' with ea eb ec
                                clear eb ec
                                obtain ⟨gS, oS, ga, glS, hxS⟩ := hm (by omega)
                                subst ea ga
                                clear hm
                                obtain ⟨a'', c'', e'', _, _, hm⟩ := (HO.out w (Up.refl w)).is
                                injection e'' with ea eb ec
                                clear eb ec
                                obtain ⟨gV, oV, ga, glV, hxV⟩ := hm (by omega)
                                subst ea ga
                                clear hm
                                have cc0 : wr.cell? ⟨gS, oS + k * 5, none⟩ = some (.int .i64 (n : Int)) := by have := (U.facts.1 gS _ glS).trans (hxS k hlt 0 (by omega)); rw [hpl] at this; exact this
                                have cc1 : wr.cell? ⟨gS, oS + k * 5 + 1, none⟩ = some (.int .i64 kd) := by have := (U.facts.1 gS _ glS).trans (hxS k hlt 1 (by omega)); rw [hpl] at this; exact this
                                have cc2 : wr.cell? ⟨gS, oS + k * 5 + 2, none⟩ = some (.int .i64 (wh : Int)) := by have := (U.facts.1 gS _ glS).trans (hxS k hlt 2 (by omega)); rw [hpl] at this; exact this
                                have cc3 : wr.cell? ⟨gS, oS + k * 5 + 3, none⟩ = some (.int .i64 r3) := by have := (U.facts.1 gS _ glS).trans (hxS k hlt 3 (by omega)); rw [hpl] at this; exact this
                                have cc4 : wr.cell? ⟨gS, oS + k * 5 + 4, none⟩ = some (.int .i64 r4) := by have := (U.facts.1 gS _ glS).trans (hxS k hlt 4 (by omega)); rw [hpl] at this; exact this
                                obtain ⟨on, hon⟩ : ∃ s, os.getD n 0 = s := ⟨_, rfl⟩
                                have cv := (U.facts.1 gV _ glV).trans (hxV n (by omega))
                                rw [hon] at cv
                                have bn := T.rX_bd ⟨HBR.out.1.1, HBR.out.1.2.2⟩ ⟨HBR.out.2.1, HBR.out.2.2.2⟩ HT.out n (by omega) (by omega)
                                rw [hon] at bn
                                have es : IntKind.i64.wrap (r3 - r4) = r3 - r4 := IntWalk.i64_in _ (by omega)
                                have ea : IntKind.i64.wrap (r3 + r4) = r3 + r4 := IntWalk.i64_in _ (by omega)
                                have inn : (n : Int) < (os.length : Int) := by omega
                                have innn : n < os.length := by omega
                                clear hxS glS hxV glV
                                rcases hkd with ⟨rfl, hw⟩ | ⟨rfl, hw⟩
                                · skip
                                  obtain ⟨a'', c'', e'', _, _, hm⟩ := (HE.out w (Up.refl w)).is
                                  injection e'' with ea eb ec
                                  clear eb ec
                                  obtain ⟨gX, oX, ga, glX, hxX⟩ := hm (by omega)
                                  subst ea ga
                                  clear hm
                                  obtain ⟨vx, hvx⟩ : ∃ s, pe.getD wh 0 = s := ⟨_, rfl⟩
                                  have cx := (U.facts.1 gX _ glX).trans (hxX wh (by omega))
                                  rw [hvx] at cx
                                  have iw : (wh : Int) < (pe.length : Int) := by omega
                                  have iwn : wh < pe.length := by omega
                                  have bv : -40000 ≤ vx ∧ vx ≤ 40000 := by
                                    have p := HT.out.2.1 wh hw
                                    rw [hvx] at p
                                    obtain ⟨_, _, hP, hQ, _⟩ := T.valid_parts HV.out
                                    have q := S.spanOk_iff.1 (hP _ (T.getD_mem (d := (0, 0)) hw))
                                    omega
                                  have esn : IntKind.i64.wrap (on + vx) = on + vx := IntWalk.i64_in _ (by omega)
                                  obtain ⟨t, ht⟩ : ∃ t, inB (on + vx) (r3 - r4) (r3 + r4) = t := ⟨_, rfl⟩
                                  have HLi := Lib.hid (fun w => show Calls Try.prog 60 #[.int .i64 (on + vx), .int .i64 (r3 - r4), .int .i64 (r3 + r4)] w fun e w' => e = .returned (.bool t) ∧ w = w' by rw [← ht]; exact B_Lies_any _ _ _ w)
                                  have HX := Lib.hid (show t = true ↔ (T.rX bl bh rl rh ps qs ls os pe pa ps.length qs.length N (k + 1)) by
                                    have q := T.rL_succ (ls := ls) (os := os) (pe := pe) (pa := pa) (k := k)
                                    rw [hpl] at q
                                    unfold T.rSeen at q
                                    dsimp only at q
                                    rw [if_pos rfl, Int.toNat_natCast, Int.toNat_natCast, hon, hvx] at q
                                    rw [← ht, inB_iff]
                                    have p := HT.out
                                    unfold T.rX at p ⊢
                                    rw [q]
                                    exact ⟨fun h => ⟨p.1, p.2.1, p.2.2.1, p.2.2.2.1, p.2.2.2.2, h⟩, fun h => h.2.2.2.2.2⟩)
                                  clear hxX glX hvx hon HT hpl ht bv bn hr he hw f0 f1 f2
                                  have ik := kB
                                  have ik2 := kT
                                  have cv2 := ((Up.refl wr).alloc (.cells #[.int .i64 (n : Int), .int .i64 0, .int .i64 (wh : Int), .int .i64 r3, .int .i64 r4] 63)).cell2 cv
                                  have cx2 := ((Up.refl wr).alloc (.cells #[.int .i64 (n : Int), .int .i64 0, .int .i64 (wh : Int), .int .i64 r3, .int .i64 r4] 63)).cell2 cx
                                  have dkBkX := blk_lt kB
                                  have dkTkX := blk_lt kT
                                  have gkX := U.size
                                  have kX := blk_new wr (.cells #[.int .i64 (n : Int), .int .i64 0, .int .i64 (wh : Int), .int .i64 r3, .int .i64 r4] 63) _ rfl
                                  replace kB := blk_keep (.cells #[.int .i64 (n : Int), .int .i64 0, .int .i64 (wh : Int), .int .i64 r3, .int .i64 r4] 63) kB
                                  replace kT := blk_keep (.cells #[.int .i64 (n : Int), .int .i64 0, .int .i64 (wh : Int), .int .i64 r3, .int .i64 r4] 63) kT
                                  replace U := U.alloc (.cells #[.int .i64 (n : Int), .int .i64 0, .int .i64 (wh : Int), .int .i64 r3, .int .i64 r4] 63)
                                  obtain ⟨pkX, hpkX⟩ : ∃ z, wr.heap.size = z := ⟨_, rfl⟩
                                  obtain ⟨W401, hW401⟩ : ∃ z, wr.alloc (.cells #[.int .i64 (n : Int), .int .i64 0, .int .i64 (wh : Int), .int .i64 r3, .int .i64 r4] 63) = z := ⟨_, rfl⟩
                                  rw [hpkX] at kX dkBkX dkTkX gkX
                                  rw [hW401] at kX U kB kT
                                  skip
                                  rw [hW401] at cv2 cx2
                                  go_wp2_with fail
                                  try rw [hW401]
                                  try rw [hpkX]
                                  clear hW401 hpkX ik ik2 cc0 cc1 cc2 cc3 cc4 cv cx cv2 cx2
                                  refine (HLi.out _).mono ?_
                                  rintro e x402 ⟨rfl, rfl⟩
                                  clear HLi
                                  clear kX
                                  go_wp2_with fail
                                  go_roundw
                                  case rel => exact ⟨k + 1, t, by omega, by omega, rfl, by go_num, U, kB, kT, HX⟩
                                  case measure => (simp only [intOf]; omega)
                                · skip
                                  obtain ⟨a'', c'', e'', _, _, hm⟩ := (HA.out w (Up.refl w)).is
                                  injection e'' with ea eb ec
                                  clear eb ec
                                  obtain ⟨gX, oX, ga, glX, hxX⟩ := hm (by omega)
                                  subst ea ga
                                  clear hm
                                  obtain ⟨vx, hvx⟩ : ∃ s, pa.getD wh 0 = s := ⟨_, rfl⟩
                                  have cx := (U.facts.1 gX _ glX).trans (hxX wh (by omega))
                                  rw [hvx] at cx
                                  have iw : (wh : Int) < (pa.length : Int) := by omega
                                  have iwn : wh < pa.length := by omega
                                  have bv : -40000 ≤ vx ∧ vx ≤ 40000 := by
                                    have p := HT.out.2.2.1 wh hw
                                    rw [hvx] at p
                                    obtain ⟨_, _, hP, hQ, _⟩ := T.valid_parts HV.out
                                    have q := S.spanOk_iff.1 (hQ _ (T.getD_mem (d := (0, 0)) hw))
                                    omega
                                  have esn : IntKind.i64.wrap (on - vx) = on - vx := IntWalk.i64_in _ (by omega)
                                  obtain ⟨t, ht⟩ : ∃ t, inB (on - vx) (r3 - r4) (r3 + r4) = t := ⟨_, rfl⟩
                                  have HLi := Lib.hid (fun w => show Calls Try.prog 60 #[.int .i64 (on - vx), .int .i64 (r3 - r4), .int .i64 (r3 + r4)] w fun e w' => e = .returned (.bool t) ∧ w = w' by rw [← ht]; exact B_Lies_any _ _ _ w)
                                  have HX := Lib.hid (show t = true ↔ (T.rX bl bh rl rh ps qs ls os pe pa ps.length qs.length N (k + 1)) by
                                    have q := T.rL_succ (ls := ls) (os := os) (pe := pe) (pa := pa) (k := k)
                                    rw [hpl] at q
                                    unfold T.rSeen at q
                                    dsimp only at q
                                    rw [if_neg (show ¬ (1 : Int) = 0 by decide), Int.toNat_natCast, Int.toNat_natCast, hon, hvx] at q
                                    rw [← ht, inB_iff]
                                    have p := HT.out
                                    unfold T.rX at p ⊢
                                    rw [q]
                                    exact ⟨fun h => ⟨p.1, p.2.1, p.2.2.1, p.2.2.2.1, p.2.2.2.2, h⟩, fun h => h.2.2.2.2.2⟩)
                                  clear hxX glX hvx hon HT hpl ht bv bn hr he hw f0 f1 f2
                                  have ik := kB
                                  have ik2 := kT
                                  have cv2 := ((Up.refl wr).alloc (.cells #[.int .i64 (n : Int), .int .i64 1, .int .i64 (wh : Int), .int .i64 r3, .int .i64 r4] 63)).cell2 cv
                                  have cx2 := ((Up.refl wr).alloc (.cells #[.int .i64 (n : Int), .int .i64 1, .int .i64 (wh : Int), .int .i64 r3, .int .i64 r4] 63)).cell2 cx
                                  have dkBkX := blk_lt kB
                                  have dkTkX := blk_lt kT
                                  have gkX := U.size
                                  have kX := blk_new wr (.cells #[.int .i64 (n : Int), .int .i64 1, .int .i64 (wh : Int), .int .i64 r3, .int .i64 r4] 63) _ rfl
                                  replace kB := blk_keep (.cells #[.int .i64 (n : Int), .int .i64 1, .int .i64 (wh : Int), .int .i64 r3, .int .i64 r4] 63) kB
                                  replace kT := blk_keep (.cells #[.int .i64 (n : Int), .int .i64 1, .int .i64 (wh : Int), .int .i64 r3, .int .i64 r4] 63) kT
                                  replace U := U.alloc (.cells #[.int .i64 (n : Int), .int .i64 1, .int .i64 (wh : Int), .int .i64 r3, .int .i64 r4] 63)
                                  obtain ⟨pkX, hpkX⟩ : ∃ z, wr.heap.size = z := ⟨_, rfl⟩
                                  obtain ⟨W441, hW441⟩ : ∃ z, wr.alloc (.cells #[.int .i64 (n : Int), .int .i64 1, .int .i64 (wh : Int), .int .i64 r3, .int .i64 r4] 63) = z := ⟨_, rfl⟩
                                  rw [hpkX] at kX dkBkX dkTkX gkX
                                  rw [hW441] at kX U kB kT
                                  skip
                                  rw [hW441] at cv2 cx2
                                  go_wp2_with fail
                                  try rw [hW441]
                                  try rw [hpkX]
                                  clear hW441 hpkX ik ik2 cc0 cc1 cc2 cc3 cc4 cv cx cv2 cx2
                                  refine (HLi.out _).mono ?_
                                  rintro e x442 ⟨rfl, rfl⟩
                                  clear HLi
                                  clear kX
                                  go_wp2_with fail
                                  go_roundw
                                  case rel => exact ⟨k + 1, t, by omega, by omega, rfl, by go_num, U, kB, kT, HX⟩
                                  case measure => (simp only [intOf]; omega)
                              · skip
                                have hkl : ls.length = k := by omega
                                subst hkl
                                have dk : decide ((ls.length : Int) < (ls.length : Int)) = false := decide_eq_false (by omega)
                                have HT := Lib.hid (HX.out.1 rfl)
                                clear HX
                                clear kT
                                go_wp2
                                go_ret2
                                exact ⟨⟨true, rfl, ⟨fun _ => ⟨⟨F0.out, F1.out, F2.out⟩, HT.out⟩, fun _ => rfl⟩⟩, U⟩
      · skip
        have g2 : ((pa.length : Int) == (qs.length : Int)) = false := by rw [beq_eq_false_iff_ne]; omega
        have F2 := Lib.hid f2
        clear f2
        have F14 := Lib.hid (fun w (u : Up x1 w) => cellB (u.blk kB))
        have F15 := Lib.hid (fun w (u : Up x1 w) => cellB (u.blk kT))
        refine (wpIn_wide (n := 5)).1 ?_
        refine wpIn_nrm ?_
        refine T.regionQ (fun w' => Up x1 w') 32 1 hmx (by kernel_rfl) (by kernel_rfl) ((Up.refl x1).drew) (fun hCl => ?_)
        refine T.qT 0 (some 19) ?v70 rfl rfl hCl ?hy70 (fun hCl => ?_)
        case hy70 => (intro w hSw; refine T.qVal ?_ hSw; (try dsimp only [List.getElem_toArray, List.getElem_cons_succ, List.getElem_cons_zero]); go_simp; try with_reducible rfl)
        simp only [Act.put, T.pa, T.pb, T.pc]
        refine T.qT 3 (some 22) ?v71 rfl rfl hCl ?hy71 (fun hCl => ?_)
        case hy71 => (intro w hSw; refine T.qVal ?_ hSw; (try dsimp only [List.getElem_toArray, List.getElem_cons_succ, List.getElem_cons_zero]); go_simp; try with_reducible rfl)
        simp only [Act.put, T.pa, T.pb, T.pc]
        refine T.qT 1 (some 20) ?v72 rfl rfl hCl ?hy72 (fun hCl => ?_)
        case hy72 => (intro w hSw; refine T.qVal ?_ hSw; (have fF14 := F14.out w hSw; have fF15 := F15.out w hSw); (try dsimp only [List.getElem_toArray, List.getElem_cons_succ, List.getElem_cons_zero]); go_simp; try with_reducible rfl)
        simp only [Act.put, T.pa, T.pb, T.pc]
        refine T.qT 4 (some 23) ?v73 rfl rfl hCl ?hy73 (fun hCl => ?_)
        case hy73 => (intro w hSw; refine T.qVal ?_ hSw; (have fF14 := F14.out w hSw; have fF15 := F15.out w hSw); (try dsimp only [List.getElem_toArray, List.getElem_cons_succ, List.getElem_cons_zero]); go_simp; try with_reducible rfl)
        simp only [Act.put, T.pa, T.pb, T.pc]
        refine T.qT 2 (some 21) ?v74 rfl rfl hCl ?hy74 (fun hCl => ?_)
        case hy74 => (intro w hSw; refine T.qVal ?_ hSw; (have fF14 := F14.out w hSw; have fF15 := F15.out w hSw); (try dsimp only [List.getElem_toArray, List.getElem_cons_succ, List.getElem_cons_zero]); go_simp; try with_reducible rfl)
        simp only [Act.put, T.pa, T.pb, T.pc]
        refine T.qT 5 (some 24) ?v75 rfl rfl hCl ?hy75 (fun hCl => ?_)
        case hy75 => (intro w hSw; refine T.qVal ?_ hSw; (try dsimp only [List.getElem_toArray, List.getElem_cons_succ, List.getElem_cons_zero]); go_simp; try with_reducible rfl)
        simp only [Act.put, T.pa, T.pb, T.pc]
        refine T.qT 6 (some 25) ?v76 rfl rfl hCl ?hy76 (fun hCl => ?_)
        case hy76 => (intro w hSw; refine T.qVal ?_ hSw; (try dsimp only [List.getElem_toArray, List.getElem_cons_succ, List.getElem_cons_zero]); go_simp; try with_reducible rfl)
        simp only [Act.put, T.pa, T.pb, T.pc]
        refine T.qT 7 (some 26) ?v77 rfl rfl hCl ?hy77 (fun hCl => ?_)
        case hy77 => (intro w hSw; refine T.qVal ?_ hSw; (try dsimp only [List.getElem_toArray, List.getElem_cons_succ, List.getElem_cons_zero]); go_simp; try with_reducible rfl)
        simp only [Act.put, T.pa, T.pb, T.pc]
        refine T.qT 10 (some 29) ?v78 rfl rfl hCl ?hy78 (fun hCl => ?_)
        case hy78 => (intro w hSw; refine T.qVal ?_ hSw; (try dsimp only [List.getElem_toArray, List.getElem_cons_succ, List.getElem_cons_zero]); go_simp; try with_reducible rfl)
        simp only [Act.put, T.pa, T.pb, T.pc]
        refine T.qT 8 (some 27) ?v79 rfl rfl hCl ?hy79 (fun hCl => ?_)
        case hy79 => (intro w hSw; refine T.qVal ?_ hSw; (have fF14 := F14.out w hSw; have fF15 := F15.out w hSw); (try dsimp only [List.getElem_toArray, List.getElem_cons_succ, List.getElem_cons_zero]); go_simp; try with_reducible rfl)
        simp only [Act.put, T.pa, T.pb, T.pc]
        refine T.qT 11 (some 30) ?v80 rfl rfl hCl ?hy80 (fun hCl => ?_)
        case hy80 => (intro w hSw; refine T.qVal ?_ hSw; (have fF14 := F14.out w hSw; have fF15 := F15.out w hSw); (try dsimp only [List.getElem_toArray, List.getElem_cons_succ, List.getElem_cons_zero]); go_simp; try with_reducible rfl)
        simp only [Act.put, T.pa, T.pb, T.pc]
        refine T.qT 9 (some 28) ?v81 rfl rfl hCl ?hy81 (fun hCl => ?_)
        case hy81 => (intro w hSw; refine T.qVal ?_ hSw; (have fF14 := F14.out w hSw; have fF15 := F15.out w hSw); (try dsimp only [List.getElem_toArray, List.getElem_cons_succ, List.getElem_cons_zero]); go_simp; try with_reducible rfl)
        simp only [Act.put, T.pa, T.pb, T.pc]
        refine T.qT 12 (some 31) ?v82 rfl rfl hCl ?hy82 (fun hCl => ?_)
        case hy82 => (intro w hSw; refine T.qVal ?_ hSw; (have fF14 := F14.out w hSw; have fF15 := F15.out w hSw); (try dsimp only [List.getElem_toArray, List.getElem_cons_succ, List.getElem_cons_zero]); go_simp; try with_reducible rfl)
        simp only [Act.put, T.pa, T.pb, T.pc]
        refine T.qT 13 (some 32) ?v83 rfl rfl hCl ?hy83 (fun hCl => ?_)
        case hy83 => (intro w hSw; refine T.qVal ?_ hSw; (try dsimp only [List.getElem_toArray, List.getElem_cons_succ, List.getElem_cons_zero]); go_simp; try with_reducible rfl)
        simp only [Act.put, T.pa, T.pb, T.pc]
        refine T.qT 14 (some 33) ?v84 rfl rfl hCl ?hy84 (fun hCl => ?_)
        case hy84 => (intro w hSw; refine T.qVal ?_ hSw; (try dsimp only [List.getElem_toArray, List.getElem_cons_succ, List.getElem_cons_zero]); go_simp; try with_reducible rfl)
        simp only [Act.put, T.pa, T.pb, T.pc]
        refine T.qT 15 (some 34) ?v85 rfl rfl hCl ?hy85 (fun hCl => ?_)
        case hy85 => (intro w hSw; refine T.qVal ?_ hSw; (try dsimp only [List.getElem_toArray, List.getElem_cons_succ, List.getElem_cons_zero]); go_simp; try with_reducible rfl)
        simp only [Act.put, T.pa, T.pb, T.pc]
        refine T.qT 16 (some 35) ?v86 rfl rfl hCl ?hy86 (fun hCl => ?_)
        case hy86 => (intro w hSw; refine T.qVal ?_ hSw; (try dsimp only [List.getElem_toArray, List.getElem_cons_succ, List.getElem_cons_zero]); go_simp; try with_reducible rfl)
        simp only [Act.put, T.pa, T.pb, T.pc]
        refine T.qT 19 (some 38) ?v87 rfl rfl hCl ?hy87 (fun hCl => ?_)
        case hy87 => (intro w hSw; refine T.qVal ?_ hSw; (try dsimp only [List.getElem_toArray, List.getElem_cons_succ, List.getElem_cons_zero]); go_simp; try with_reducible rfl)
        simp only [Act.put, T.pa, T.pb, T.pc]
        refine T.qT 17 (some 36) ?v88 rfl rfl hCl ?hy88 (fun hCl => ?_)
        case hy88 => (intro w hSw; refine T.qVal ?_ hSw; (have fF14 := F14.out w hSw; have fF15 := F15.out w hSw); (try dsimp only [List.getElem_toArray, List.getElem_cons_succ, List.getElem_cons_zero]); go_simp; try with_reducible rfl)
        simp only [Act.put, T.pa, T.pb, T.pc]
        refine T.qT 20 (some 39) ?v89 rfl rfl hCl ?hy89 (fun hCl => ?_)
        case hy89 => (intro w hSw; refine T.qVal ?_ hSw; (have fF14 := F14.out w hSw; have fF15 := F15.out w hSw); (try dsimp only [List.getElem_toArray, List.getElem_cons_succ, List.getElem_cons_zero]); go_simp; try with_reducible rfl)
        simp only [Act.put, T.pa, T.pb, T.pc]
        refine T.qT 18 (some 37) ?v90 rfl rfl hCl ?hy90 (fun hCl => ?_)
        case hy90 => (intro w hSw; refine T.qVal ?_ hSw; (have fF14 := F14.out w hSw; have fF15 := F15.out w hSw); (try dsimp only [List.getElem_toArray, List.getElem_cons_succ, List.getElem_cons_zero]); go_simp; try with_reducible rfl)
        simp only [Act.put, T.pa, T.pb, T.pc]
        refine T.qT 21 (some 40) ?v91 rfl rfl hCl ?hy91 (fun hCl => ?_)
        case hy91 => (intro w hSw; refine T.qVal ?_ hSw; (have fF14 := F14.out w hSw; have fF15 := F15.out w hSw); (try dsimp only [List.getElem_toArray, List.getElem_cons_succ, List.getElem_cons_zero]); go_simp; try with_reducible rfl)
        simp only [Act.put, T.pa, T.pb, T.pc]
        refine T.qT 22 (some 41) ?v92 rfl rfl hCl ?hy92 (fun hCl => ?_)
        case hy92 => (intro w hSw; refine T.qVal ?_ hSw; (try dsimp only [List.getElem_toArray, List.getElem_cons_succ, List.getElem_cons_zero]); go_simp; try with_reducible rfl)
        simp only [Act.put, T.pa, T.pb, T.pc]
        refine T.qT 23 (some 42) ?v93 rfl rfl hCl ?hy93 (fun hCl => ?_)
        case hy93 => (intro w hSw; refine T.qVal ?_ hSw; (try dsimp only [List.getElem_toArray, List.getElem_cons_succ, List.getElem_cons_zero]); go_simp; try with_reducible rfl)
        simp only [Act.put, T.pa, T.pb, T.pc]
        refine T.qT 24 (some 43) ?v94 rfl rfl hCl ?hy94 (fun hCl => ?_)
        case hy94 => (intro w hSw; refine T.qVal ?_ hSw; (try dsimp only [List.getElem_toArray, List.getElem_cons_succ, List.getElem_cons_zero]); go_simp; try with_reducible rfl)
        simp only [Act.put, T.pa, T.pb, T.pc]
        refine T.qS 25 (some 44) rfl rfl hCl (fun hCl => ?_)
        simp only [Act.put, T.pa, T.pb, T.pc]
        refine T.qS 27 (some 46) rfl rfl hCl (fun hCl => ?_)
        simp only [Act.put, T.pa, T.pb, T.pc]
        refine T.qS 26 (some 45) rfl rfl hCl (fun hCl => ?_)
        simp only [Act.put, T.pa, T.pb, T.pc]
        refine T.qS 28 (some 47) rfl rfl hCl (fun hCl => ?_)
        simp only [Act.put, T.pa, T.pb, T.pc]
        refine T.qS 29 (some 48) rfl rfl hCl (fun hCl => ?_)
        simp only [Act.put, T.pa, T.pb, T.pc]
        refine T.qS 30 (some 49) rfl rfl hCl (fun hCl => ?_)
        simp only [Act.put, T.pa, T.pb, T.pc]
        refine T.qT 31 (some 50) ?v101 rfl rfl hCl ?hy101 (fun hCl => ?_)
        case hy101 => (intro w hSw; refine T.qVal ?_ hSw; (try dsimp only [List.getElem_toArray, List.getElem_cons_succ, List.getElem_cons_zero]); go_simp; try with_reducible rfl)
        simp only [Act.put, T.pa, T.pb, T.pc]
        refine T.tail_intro (by kernel_rfl) (fun Y13 hY13 => ?_)
        replace U := U.trans hY13
        replace kB := hY13.blk kB
        replace kT := hY13.blk kT
        clear F14 F15 hY13
        refine lastG (i := 32) (by kernel_rfl) rfl (by rfl) (by decide) (fun K hK => ?_)
        go_simp
        refine hK.out _ _ ?_
        clear hK K
        refine doneG (by kernel_rfl) ?_ _
        refine S.nrm_intro ?_
        have hno : ¬ ((os.length = N ∧ pe.length = ps.length ∧ pa.length = qs.length) ∧ (T.rX bl bh rl rh ps qs ls os pe pa ps.length qs.length N ls.length)) := fun q => F2.out q.1.2.2
        have HNo := Lib.hid hno
        clear hno kB kT
        go_wp2_with fail
        go_loopw [7] (fun b wr => b = .bool false ∧ Up w wr) (fun _ _ => 0)
        case atStart => exact ⟨rfl, U⟩
        case round =>
          clear U
          obtain ⟨rfl, U⟩ := hrel
          go_wp2_with fail
          go_loopw [7] (fun b wr => b = .bool false ∧ Up w wr) (fun _ _ => 0)
          case atStart => exact ⟨rfl, U⟩
          case round =>
            clear U
            obtain ⟨rfl, U⟩ := hrel
            go_wp2_with fail
            go_loopw [7] (fun b wr => b = .bool false ∧ Up w wr) (fun _ _ => 0)
            case atStart => exact ⟨rfl, U⟩
            case round =>
              clear U
              obtain ⟨rfl, U⟩ := hrel
              go_wp2_with fail
              go_loopw [7] (fun b wr => b = .bool false ∧ Up w wr) (fun _ _ => 0)
              case atStart => exact ⟨rfl, U⟩
              case round =>
                clear U
                obtain ⟨rfl, U⟩ := hrel
                go_wp2
                go_ret2
                exact ⟨⟨false, rfl, ⟨fun q => (by cases q), fun q => absurd q HNo.out⟩⟩, U⟩
    · skip
      have g1 : ((pe.length : Int) == (ps.length : Int)) = false := by rw [beq_eq_false_iff_ne]; omega
      have F1 := Lib.hid f1
      clear f1
      have F14 := Lib.hid (fun w (u : Up x1 w) => cellB (u.blk kB))
      have F15 := Lib.hid (fun w (u : Up x1 w) => cellB (u.blk kT))
      refine (wpIn_wide (n := 5)).1 ?_
      refine wpIn_nrm ?_
      refine T.regionQ (fun w' => Up x1 w') 32 1 hmx (by kernel_rfl) (by kernel_rfl) ((Up.refl x1).drew) (fun hCl => ?_)
      refine T.qT 0 (some 19) ?v102 rfl rfl hCl ?hy102 (fun hCl => ?_)
      case hy102 => (intro w hSw; refine T.qVal ?_ hSw; (try dsimp only [List.getElem_toArray, List.getElem_cons_succ, List.getElem_cons_zero]); go_simp; try with_reducible rfl)
      simp only [Act.put, T.pa, T.pb, T.pc]
      refine T.qT 3 (some 22) ?v103 rfl rfl hCl ?hy103 (fun hCl => ?_)
      case hy103 => (intro w hSw; refine T.qVal ?_ hSw; (try dsimp only [List.getElem_toArray, List.getElem_cons_succ, List.getElem_cons_zero]); go_simp; try with_reducible rfl)
      simp only [Act.put, T.pa, T.pb, T.pc]
      refine T.qT 1 (some 20) ?v104 rfl rfl hCl ?hy104 (fun hCl => ?_)
      case hy104 => (intro w hSw; refine T.qVal ?_ hSw; (have fF14 := F14.out w hSw; have fF15 := F15.out w hSw); (try dsimp only [List.getElem_toArray, List.getElem_cons_succ, List.getElem_cons_zero]); go_simp; try with_reducible rfl)
      simp only [Act.put, T.pa, T.pb, T.pc]
      refine T.qT 4 (some 23) ?v105 rfl rfl hCl ?hy105 (fun hCl => ?_)
      case hy105 => (intro w hSw; refine T.qVal ?_ hSw; (have fF14 := F14.out w hSw; have fF15 := F15.out w hSw); (try dsimp only [List.getElem_toArray, List.getElem_cons_succ, List.getElem_cons_zero]); go_simp; try with_reducible rfl)
      simp only [Act.put, T.pa, T.pb, T.pc]
      refine T.qT 2 (some 21) ?v106 rfl rfl hCl ?hy106 (fun hCl => ?_)
      case hy106 => (intro w hSw; refine T.qVal ?_ hSw; (have fF14 := F14.out w hSw; have fF15 := F15.out w hSw); (try dsimp only [List.getElem_toArray, List.getElem_cons_succ, List.getElem_cons_zero]); go_simp; try with_reducible rfl)
      simp only [Act.put, T.pa, T.pb, T.pc]
      refine T.qT 5 (some 24) ?v107 rfl rfl hCl ?hy107 (fun hCl => ?_)
      case hy107 => (intro w hSw; refine T.qVal ?_ hSw; (try dsimp only [List.getElem_toArray, List.getElem_cons_succ, List.getElem_cons_zero]); go_simp; try with_reducible rfl)
      simp only [Act.put, T.pa, T.pb, T.pc]
      refine T.qT 6 (some 25) ?v108 rfl rfl hCl ?hy108 (fun hCl => ?_)
      case hy108 => (intro w hSw; refine T.qVal ?_ hSw; (try dsimp only [List.getElem_toArray, List.getElem_cons_succ, List.getElem_cons_zero]); go_simp; try with_reducible rfl)
      simp only [Act.put, T.pa, T.pb, T.pc]
      refine T.qT 7 (some 26) ?v109 rfl rfl hCl ?hy109 (fun hCl => ?_)
      case hy109 => (intro w hSw; refine T.qVal ?_ hSw; (try dsimp only [List.getElem_toArray, List.getElem_cons_succ, List.getElem_cons_zero]); go_simp; try with_reducible rfl)
      simp only [Act.put, T.pa, T.pb, T.pc]
      refine T.qT 10 (some 29) ?v110 rfl rfl hCl ?hy110 (fun hCl => ?_)
      case hy110 => (intro w hSw; refine T.qVal ?_ hSw; (try dsimp only [List.getElem_toArray, List.getElem_cons_succ, List.getElem_cons_zero]); go_simp; try with_reducible rfl)
      simp only [Act.put, T.pa, T.pb, T.pc]
      refine T.qT 8 (some 27) ?v111 rfl rfl hCl ?hy111 (fun hCl => ?_)
      case hy111 => (intro w hSw; refine T.qVal ?_ hSw; (have fF14 := F14.out w hSw; have fF15 := F15.out w hSw); (try dsimp only [List.getElem_toArray, List.getElem_cons_succ, List.getElem_cons_zero]); go_simp; try with_reducible rfl)
      simp only [Act.put, T.pa, T.pb, T.pc]
      refine T.qT 11 (some 30) ?v112 rfl rfl hCl ?hy112 (fun hCl => ?_)
      case hy112 => (intro w hSw; refine T.qVal ?_ hSw; (have fF14 := F14.out w hSw; have fF15 := F15.out w hSw); (try dsimp only [List.getElem_toArray, List.getElem_cons_succ, List.getElem_cons_zero]); go_simp; try with_reducible rfl)
      simp only [Act.put, T.pa, T.pb, T.pc]
      refine T.qT 9 (some 28) ?v113 rfl rfl hCl ?hy113 (fun hCl => ?_)
      case hy113 => (intro w hSw; refine T.qVal ?_ hSw; (have fF14 := F14.out w hSw; have fF15 := F15.out w hSw); (try dsimp only [List.getElem_toArray, List.getElem_cons_succ, List.getElem_cons_zero]); go_simp; try with_reducible rfl)
      simp only [Act.put, T.pa, T.pb, T.pc]
      refine T.qT 12 (some 31) ?v114 rfl rfl hCl ?hy114 (fun hCl => ?_)
      case hy114 => (intro w hSw; refine T.qVal ?_ hSw; (have fF14 := F14.out w hSw; have fF15 := F15.out w hSw); (try dsimp only [List.getElem_toArray, List.getElem_cons_succ, List.getElem_cons_zero]); go_simp; try with_reducible rfl)
      simp only [Act.put, T.pa, T.pb, T.pc]
      refine T.qT 13 (some 32) ?v115 rfl rfl hCl ?hy115 (fun hCl => ?_)
      case hy115 => (intro w hSw; refine T.qVal ?_ hSw; (try dsimp only [List.getElem_toArray, List.getElem_cons_succ, List.getElem_cons_zero]); go_simp; try with_reducible rfl)
      simp only [Act.put, T.pa, T.pb, T.pc]
      refine T.qT 14 (some 33) ?v116 rfl rfl hCl ?hy116 (fun hCl => ?_)
      case hy116 => (intro w hSw; refine T.qVal ?_ hSw; (try dsimp only [List.getElem_toArray, List.getElem_cons_succ, List.getElem_cons_zero]); go_simp; try with_reducible rfl)
      simp only [Act.put, T.pa, T.pb, T.pc]
      refine T.qT 15 (some 34) ?v117 rfl rfl hCl ?hy117 (fun hCl => ?_)
      case hy117 => (intro w hSw; refine T.qVal ?_ hSw; (try dsimp only [List.getElem_toArray, List.getElem_cons_succ, List.getElem_cons_zero]); go_simp; try with_reducible rfl)
      simp only [Act.put, T.pa, T.pb, T.pc]
      refine T.qS 16 (some 35) rfl rfl hCl (fun hCl => ?_)
      simp only [Act.put, T.pa, T.pb, T.pc]
      refine T.qS 19 (some 38) rfl rfl hCl (fun hCl => ?_)
      simp only [Act.put, T.pa, T.pb, T.pc]
      refine T.qS 17 (some 36) rfl rfl hCl (fun hCl => ?_)
      simp only [Act.put, T.pa, T.pb, T.pc]
      refine T.qS 20 (some 39) rfl rfl hCl (fun hCl => ?_)
      simp only [Act.put, T.pa, T.pb, T.pc]
      refine T.qS 18 (some 37) rfl rfl hCl (fun hCl => ?_)
      simp only [Act.put, T.pa, T.pb, T.pc]
      refine T.qS 21 (some 40) rfl rfl hCl (fun hCl => ?_)
      simp only [Act.put, T.pa, T.pb, T.pc]
      refine T.qS 22 (some 41) rfl rfl hCl (fun hCl => ?_)
      simp only [Act.put, T.pa, T.pb, T.pc]
      refine T.qT 23 (some 42) ?v125 rfl rfl hCl ?hy125 (fun hCl => ?_)
      case hy125 => (intro w hSw; refine T.qVal ?_ hSw; (try dsimp only [List.getElem_toArray, List.getElem_cons_succ, List.getElem_cons_zero]); go_simp; try with_reducible rfl)
      simp only [Act.put, T.pa, T.pb, T.pc]
      refine T.qT 24 (some 43) ?v126 rfl rfl hCl ?hy126 (fun hCl => ?_)
      case hy126 => (intro w hSw; refine T.qVal ?_ hSw; (try dsimp only [List.getElem_toArray, List.getElem_cons_succ, List.getElem_cons_zero]); go_simp; try with_reducible rfl)
      simp only [Act.put, T.pa, T.pb, T.pc]
      refine T.qS 25 (some 44) rfl rfl hCl (fun hCl => ?_)
      simp only [Act.put, T.pa, T.pb, T.pc]
      refine T.qS 27 (some 46) rfl rfl hCl (fun hCl => ?_)
      simp only [Act.put, T.pa, T.pb, T.pc]
      refine T.qS 26 (some 45) rfl rfl hCl (fun hCl => ?_)
      simp only [Act.put, T.pa, T.pb, T.pc]
      refine T.qS 28 (some 47) rfl rfl hCl (fun hCl => ?_)
      simp only [Act.put, T.pa, T.pb, T.pc]
      refine T.qS 29 (some 48) rfl rfl hCl (fun hCl => ?_)
      simp only [Act.put, T.pa, T.pb, T.pc]
      refine T.qS 30 (some 49) rfl rfl hCl (fun hCl => ?_)
      simp only [Act.put, T.pa, T.pb, T.pc]
      refine T.qT 31 (some 50) ?v133 rfl rfl hCl ?hy133 (fun hCl => ?_)
      case hy133 => (intro w hSw; refine T.qVal ?_ hSw; (try dsimp only [List.getElem_toArray, List.getElem_cons_succ, List.getElem_cons_zero]); go_simp; try with_reducible rfl)
      simp only [Act.put, T.pa, T.pb, T.pc]
      refine T.tail_intro (by kernel_rfl) (fun Y13 hY13 => ?_)
      replace U := U.trans hY13
      replace kB := hY13.blk kB
      replace kT := hY13.blk kT
      clear F14 F15 hY13
      refine lastG (i := 32) (by kernel_rfl) rfl (by rfl) (by decide) (fun K hK => ?_)
      go_simp
      refine hK.out _ _ ?_
      clear hK K
      refine doneG (by kernel_rfl) ?_ _
      refine S.nrm_intro ?_
      have hno : ¬ ((os.length = N ∧ pe.length = ps.length ∧ pa.length = qs.length) ∧ (T.rX bl bh rl rh ps qs ls os pe pa ps.length qs.length N ls.length)) := fun q => F1.out q.1.2.1
      have HNo := Lib.hid hno
      clear hno kB kT
      go_wp2_with fail
      go_loopw [7] (fun b wr => b = .bool false ∧ Up w wr) (fun _ _ => 0)
      case atStart => exact ⟨rfl, U⟩
      case round =>
        clear U
        obtain ⟨rfl, U⟩ := hrel
        go_wp2_with fail
        go_loopw [7] (fun b wr => b = .bool false ∧ Up w wr) (fun _ _ => 0)
        case atStart => exact ⟨rfl, U⟩
        case round =>
          clear U
          obtain ⟨rfl, U⟩ := hrel
          go_wp2_with fail
          go_loopw [7] (fun b wr => b = .bool false ∧ Up w wr) (fun _ _ => 0)
          case atStart => exact ⟨rfl, U⟩
          case round =>
            clear U
            obtain ⟨rfl, U⟩ := hrel
            go_wp2_with fail
            go_loopw [7] (fun b wr => b = .bool false ∧ Up w wr) (fun _ _ => 0)
            case atStart => exact ⟨rfl, U⟩
            case round =>
              clear U
              obtain ⟨rfl, U⟩ := hrel
              go_wp2
              go_ret2
              exact ⟨⟨false, rfl, ⟨fun q => (by cases q), fun q => absurd q HNo.out⟩⟩, U⟩
  · skip
    have g0 : ((os.length : Int) == (N : Int)) = false := by rw [beq_eq_false_iff_ne]; omega
    have F0 := Lib.hid f0
    clear f0
    have F14 := Lib.hid (fun w (u : Up x1 w) => cellB (u.blk kB))
    have F15 := Lib.hid (fun w (u : Up x1 w) => cellB (u.blk kT))
    refine (wpIn_wide (n := 5)).1 ?_
    refine wpIn_nrm ?_
    refine T.regionQ (fun w' => Up x1 w') 32 1 hmx (by kernel_rfl) (by kernel_rfl) ((Up.refl x1).drew) (fun hCl => ?_)
    refine T.qT 0 (some 19) ?v134 rfl rfl hCl ?hy134 (fun hCl => ?_)
    case hy134 => (intro w hSw; refine T.qVal ?_ hSw; (try dsimp only [List.getElem_toArray, List.getElem_cons_succ, List.getElem_cons_zero]); go_simp; try with_reducible rfl)
    simp only [Act.put, T.pa, T.pb, T.pc]
    refine T.qT 3 (some 22) ?v135 rfl rfl hCl ?hy135 (fun hCl => ?_)
    case hy135 => (intro w hSw; refine T.qVal ?_ hSw; (try dsimp only [List.getElem_toArray, List.getElem_cons_succ, List.getElem_cons_zero]); go_simp; try with_reducible rfl)
    simp only [Act.put, T.pa, T.pb, T.pc]
    refine T.qT 1 (some 20) ?v136 rfl rfl hCl ?hy136 (fun hCl => ?_)
    case hy136 => (intro w hSw; refine T.qVal ?_ hSw; (have fF14 := F14.out w hSw; have fF15 := F15.out w hSw); (try dsimp only [List.getElem_toArray, List.getElem_cons_succ, List.getElem_cons_zero]); go_simp; try with_reducible rfl)
    simp only [Act.put, T.pa, T.pb, T.pc]
    refine T.qT 4 (some 23) ?v137 rfl rfl hCl ?hy137 (fun hCl => ?_)
    case hy137 => (intro w hSw; refine T.qVal ?_ hSw; (have fF14 := F14.out w hSw; have fF15 := F15.out w hSw); (try dsimp only [List.getElem_toArray, List.getElem_cons_succ, List.getElem_cons_zero]); go_simp; try with_reducible rfl)
    simp only [Act.put, T.pa, T.pb, T.pc]
    refine T.qT 2 (some 21) ?v138 rfl rfl hCl ?hy138 (fun hCl => ?_)
    case hy138 => (intro w hSw; refine T.qVal ?_ hSw; (have fF14 := F14.out w hSw; have fF15 := F15.out w hSw); (try dsimp only [List.getElem_toArray, List.getElem_cons_succ, List.getElem_cons_zero]); go_simp; try with_reducible rfl)
    simp only [Act.put, T.pa, T.pb, T.pc]
    refine T.qT 5 (some 24) ?v139 rfl rfl hCl ?hy139 (fun hCl => ?_)
    case hy139 => (intro w hSw; refine T.qVal ?_ hSw; (try dsimp only [List.getElem_toArray, List.getElem_cons_succ, List.getElem_cons_zero]); go_simp; try with_reducible rfl)
    simp only [Act.put, T.pa, T.pb, T.pc]
    refine T.qT 6 (some 25) ?v140 rfl rfl hCl ?hy140 (fun hCl => ?_)
    case hy140 => (intro w hSw; refine T.qVal ?_ hSw; (try dsimp only [List.getElem_toArray, List.getElem_cons_succ, List.getElem_cons_zero]); go_simp; try with_reducible rfl)
    simp only [Act.put, T.pa, T.pb, T.pc]
    refine T.qS 7 (some 26) rfl rfl hCl (fun hCl => ?_)
    simp only [Act.put, T.pa, T.pb, T.pc]
    refine T.qS 10 (some 29) rfl rfl hCl (fun hCl => ?_)
    simp only [Act.put, T.pa, T.pb, T.pc]
    refine T.qS 8 (some 27) rfl rfl hCl (fun hCl => ?_)
    simp only [Act.put, T.pa, T.pb, T.pc]
    refine T.qS 11 (some 30) rfl rfl hCl (fun hCl => ?_)
    simp only [Act.put, T.pa, T.pb, T.pc]
    refine T.qS 9 (some 28) rfl rfl hCl (fun hCl => ?_)
    simp only [Act.put, T.pa, T.pb, T.pc]
    refine T.qS 12 (some 31) rfl rfl hCl (fun hCl => ?_)
    simp only [Act.put, T.pa, T.pb, T.pc]
    refine T.qS 13 (some 32) rfl rfl hCl (fun hCl => ?_)
    simp only [Act.put, T.pa, T.pb, T.pc]
    refine T.qT 14 (some 33) ?v148 rfl rfl hCl ?hy148 (fun hCl => ?_)
    case hy148 => (intro w hSw; refine T.qVal ?_ hSw; (try dsimp only [List.getElem_toArray, List.getElem_cons_succ, List.getElem_cons_zero]); go_simp; try with_reducible rfl)
    simp only [Act.put, T.pa, T.pb, T.pc]
    refine T.qT 15 (some 34) ?v149 rfl rfl hCl ?hy149 (fun hCl => ?_)
    case hy149 => (intro w hSw; refine T.qVal ?_ hSw; (try dsimp only [List.getElem_toArray, List.getElem_cons_succ, List.getElem_cons_zero]); go_simp; try with_reducible rfl)
    simp only [Act.put, T.pa, T.pb, T.pc]
    refine T.qS 16 (some 35) rfl rfl hCl (fun hCl => ?_)
    simp only [Act.put, T.pa, T.pb, T.pc]
    refine T.qS 19 (some 38) rfl rfl hCl (fun hCl => ?_)
    simp only [Act.put, T.pa, T.pb, T.pc]
    refine T.qS 17 (some 36) rfl rfl hCl (fun hCl => ?_)
    simp only [Act.put, T.pa, T.pb, T.pc]
    refine T.qS 20 (some 39) rfl rfl hCl (fun hCl => ?_)
    simp only [Act.put, T.pa, T.pb, T.pc]
    refine T.qS 18 (some 37) rfl rfl hCl (fun hCl => ?_)
    simp only [Act.put, T.pa, T.pb, T.pc]
    refine T.qS 21 (some 40) rfl rfl hCl (fun hCl => ?_)
    simp only [Act.put, T.pa, T.pb, T.pc]
    refine T.qS 22 (some 41) rfl rfl hCl (fun hCl => ?_)
    simp only [Act.put, T.pa, T.pb, T.pc]
    refine T.qT 23 (some 42) ?v157 rfl rfl hCl ?hy157 (fun hCl => ?_)
    case hy157 => (intro w hSw; refine T.qVal ?_ hSw; (try dsimp only [List.getElem_toArray, List.getElem_cons_succ, List.getElem_cons_zero]); go_simp; try with_reducible rfl)
    simp only [Act.put, T.pa, T.pb, T.pc]
    refine T.qT 24 (some 43) ?v158 rfl rfl hCl ?hy158 (fun hCl => ?_)
    case hy158 => (intro w hSw; refine T.qVal ?_ hSw; (try dsimp only [List.getElem_toArray, List.getElem_cons_succ, List.getElem_cons_zero]); go_simp; try with_reducible rfl)
    simp only [Act.put, T.pa, T.pb, T.pc]
    refine T.qS 25 (some 44) rfl rfl hCl (fun hCl => ?_)
    simp only [Act.put, T.pa, T.pb, T.pc]
    refine T.qS 27 (some 46) rfl rfl hCl (fun hCl => ?_)
    simp only [Act.put, T.pa, T.pb, T.pc]
    refine T.qS 26 (some 45) rfl rfl hCl (fun hCl => ?_)
    simp only [Act.put, T.pa, T.pb, T.pc]
    refine T.qS 28 (some 47) rfl rfl hCl (fun hCl => ?_)
    simp only [Act.put, T.pa, T.pb, T.pc]
    refine T.qS 29 (some 48) rfl rfl hCl (fun hCl => ?_)
    simp only [Act.put, T.pa, T.pb, T.pc]
    refine T.qS 30 (some 49) rfl rfl hCl (fun hCl => ?_)
    simp only [Act.put, T.pa, T.pb, T.pc]
    refine T.qT 31 (some 50) ?v165 rfl rfl hCl ?hy165 (fun hCl => ?_)
    case hy165 => (intro w hSw; refine T.qVal ?_ hSw; (try dsimp only [List.getElem_toArray, List.getElem_cons_succ, List.getElem_cons_zero]); go_simp; try with_reducible rfl)
    simp only [Act.put, T.pa, T.pb, T.pc]
    refine T.tail_intro (by kernel_rfl) (fun Y13 hY13 => ?_)
    replace U := U.trans hY13
    replace kB := hY13.blk kB
    replace kT := hY13.blk kT
    clear F14 F15 hY13
    refine lastG (i := 32) (by kernel_rfl) rfl (by rfl) (by decide) (fun K hK => ?_)
    go_simp
    refine hK.out _ _ ?_
    clear hK K
    refine doneG (by kernel_rfl) ?_ _
    refine S.nrm_intro ?_
    have hno : ¬ ((os.length = N ∧ pe.length = ps.length ∧ pa.length = qs.length) ∧ (T.rX bl bh rl rh ps qs ls os pe pa ps.length qs.length N ls.length)) := fun q => F0.out q.1.1
    have HNo := Lib.hid hno
    clear hno kB kT
    go_wp2_with fail
    go_loopw [7] (fun b wr => b = .bool false ∧ Up w wr) (fun _ _ => 0)
    case atStart => exact ⟨rfl, U⟩
    case round =>
      clear U
      obtain ⟨rfl, U⟩ := hrel
      go_wp2_with fail
      go_loopw [7] (fun b wr => b = .bool false ∧ Up w wr) (fun _ _ => 0)
      case atStart => exact ⟨rfl, U⟩
      case round =>
        clear U
        obtain ⟨rfl, U⟩ := hrel
        go_wp2_with fail
        go_loopw [7] (fun b wr => b = .bool false ∧ Up w wr) (fun _ _ => 0)
        case atStart => exact ⟨rfl, U⟩
        case round =>
          clear U
          obtain ⟨rfl, U⟩ := hrel
          go_wp2_with fail
          go_loopw [7] (fun b wr => b = .bool false ∧ Up w wr) (fun _ _ => 0)
          case atStart => exact ⟨rfl, U⟩
          case round =>
            clear U
            obtain ⟨rfl, U⟩ := hrel
            go_wp2
            go_ret2
            exact ⟨⟨false, rfl, ⟨fun q => (by cases q), fun q => absurd q HNo.out⟩⟩, U⟩
end

end Go.Proofs.Ytlpkheoljbdajaa

/- What the program and the reference say of a truth is the same. -/
namespace Go.Proofs.Ytlpkheoljbdajaa
open Go.RowKit

section
variable {bl bh rl rh : Int} {aP aQ aL aO aE aA : Option Addr} {nP cP nQ cQ nL cL nO cO nE cE nA cA : Nat} {ps qs : List (Int × Int)} {ls : List T.T5} {os pe pa : List Int} {w : World}
theorem T.bool_is {r r' : Bool} {X : Prop} (h : r = true ↔ X) (h' : r' = true ↔ X) : r = r' := by
  rw [Bool.eq_iff_iff, h, h']
theorem T.both_IsTruth (M : Int) (I : Sps w (.slice aP nP cP) ps) (J : Sps w (.slice aQ nQ cQ) qs) (K : Lks w (.slice aL nL cL) ls) (IO : Ints w (.slice aO nO cO) os) (IE : Ints w (.slice aE nE cE) pe) (IA : Ints w (.slice aA nA cA) pa) (bo : ∀ x ∈ os, D.in64 x) (be : ∀ x ∈ pe, D.in64 x) (ba : ∀ x ∈ pa, D.in64 x) :
    ∃ r e, ∀ w' (_ : Up w w'), (Calls Try.prog 17 #[BoV M bl bh rl rh (.slice aP nP cP) (.slice aQ nQ cQ) (.slice aL nL cL), .agg #[.slice aO nO cO, .slice aE nE cE, .slice aA nA cA]] w' fun e' w'' => e' = .returned (.tuple #[.bool r, .int .i64 e]) ∧ Up w' w'') ∧
      Calls Try.prog 18 #[BoV M bl bh rl rh (.slice aP nP cP) (.slice aQ nQ cQ) (.slice aL nL cL), .agg #[.slice aO nO cO, .slice aE nE cE, .slice aA nA cA]] w' fun e' w'' => e' = .returned (.tuple #[.bool r, .int .i64 e]) ∧ Up w' w'' := by
  cases hv : T.valid M bl bh rl rh ps qs ls with
  | false => exact ⟨false, 30, fun w' u => ⟨IsTruth_bad (I.up u) (J.up u) (K.up u) hv, r_IsTruth_bad (I.up u) (J.up u) (K.up u) hv⟩⟩
  | true =>
    obtain ⟨N, rfl⟩ := T.valid_N hv
    have B := T.valid_bok hv
    have hoo := IO.len
    have hoe := IE.len
    have hoa := IA.len
    subst hoo hoe hoa
    have key : (T.fit N ps.length qs.length os pe pa = true ∧ T.Sat true (T.web N bl bh rl rh ps qs ls T.o0) (T.nto os pe pa 3)) ↔ (os.length = N ∧ pe.length = ps.length ∧ pa.length = qs.length) ∧ T.rX bl bh rl rh ps qs ls os pe pa ps.length qs.length N ls.length := by
      unfold T.fit
      simp only [Bool.and_eq_true, decide_eq_true_eq]
      constructor
      · rintro ⟨⟨h2, h3, h1⟩, hs⟩
        have h1' : os.length = N := by omega
        exact ⟨⟨h1', h2, h3⟩, (T.rX_tru hv h1' h2 h3 be).2 ((T.sat_tru B).1 hs)⟩
      · rintro ⟨⟨h1, h2, h3⟩, hs⟩
        exact ⟨⟨h2, h3, by omega⟩, (T.sat_tru B).2 ((T.rX_tru hv h1 h2 h3 be).1 hs)⟩
    obtain ⟨r, hr⟩ : ∃ r : Bool, r = true ↔ (os.length = N ∧ pe.length = ps.length ∧ pa.length = qs.length) ∧ T.rX bl bh rl rh ps qs ls os pe pa ps.length qs.length N ls.length := by
      by_cases h : (os.length = N ∧ pe.length = ps.length ∧ pa.length = qs.length) ∧ T.rX bl bh rl rh ps qs ls os pe pa ps.length qs.length N ls.length
      · exact ⟨true, ⟨fun _ => h, fun _ => rfl⟩⟩
      · exact ⟨false, ⟨fun q => (by cases q), fun q => absurd q h⟩⟩
    refine ⟨r, 0, fun w' u => ⟨(IsTruth_ok (I.up u) (J.up u) (K.up u) (IO.up u) (IE.up u) (IA.up u) bo ba hv).mono ?_, (r_IsTruth_ok (I.up u) (J.up u) (K.up u) (IO.up u) (IE.up u) (IA.up u) bo hv).mono ?_⟩⟩
    · rintro e w'' ⟨⟨r', rfl, h⟩, u'⟩
      rw [T.bool_is (h.trans key) hr]
      exact ⟨rfl, u'⟩
    · rintro e w'' ⟨⟨r', rfl, h⟩, u'⟩
      rw [T.bool_is h hr]
      exact ⟨rfl, u'⟩
theorem r_IsTruth_told {N : Nat} (hv : T.valid N bl bh rl rh ps qs ls = true) {y : Int → Int} (hy : T.Tr N bl bh rl rh ps qs ls y) (y0 : y 0 = 0) (I : Sps w (.slice aP nP cP) ps) (J : Sps w (.slice aQ nQ cQ) qs) (K : Lks w (.slice aL nL cL) ls)
    (IO : Ints w (.slice aO N cO) (T.out false y 1 N)) (IE : Ints w (.slice aE ps.length cE) (T.out true y 9 ps.length)) (IA : Ints w (.slice aA qs.length cA) (T.out false y 13 qs.length)) :
    Calls Try.prog 18 #[BoV (N : Int) bl bh rl rh (.slice aP nP cP) (.slice aQ nQ cQ) (.slice aL nL cL), .agg #[.slice aO N cO, .slice aE ps.length cE, .slice aA qs.length cA]] w fun e w' => e = .returned (.tuple #[.bool true, .int .i64 0]) ∧ Up w w' := by
  have B := T.valid_bok hv
  have in6 : ∀ b a n x, (∀ k : Nat, k < n → T.Alive N ps.length qs.length (a + k)) → x ∈ T.out b y a n → D.in64 x := fun b a n x hal hx => by
    obtain ⟨k, hk, rfl⟩ := T.out_mem hx
    have := T.tru_bd hv hy (hal k hk)
    unfold D.in64
    split <;> omega
  refine (r_IsTruth_ok I J K IO IE IA (fun x hx => in6 _ _ _ x (fun k hk => T.al_night ⟨by omega, by omega⟩) hx) hv).mono ?_
  rintro e w' ⟨⟨r, h1, h2⟩, u⟩
  have : r = true := h2.2 ⟨⟨T.out_len .., T.out_len .., T.out_len ..⟩, (T.rX_tru hv (T.out_len ..) (T.out_len ..) (T.out_len ..) (fun x hx => in6 _ _ _ x (fun k hk => T.al_per ⟨by omega, by omega⟩) hx)).2 (T.Tru.congr (T.looks_alive hv) B.n1 hy fun i hi => T.nto_out hv hy y0 hi)⟩
  subst this
  exact ⟨h1, u⟩
end

end Go.Proofs.Ytlpkheoljbdajaa
