import Derived.Test.YtlpkheoljbdajaaRfT
import Derived.Test.YtlpkheoljbdajaaRfB
import Derived.Test.YtlpkheoljbdajaaLws
import Derived.Test.YtlpkheoljbdajaaHeQ
/- The law StarTruths. -/
namespace Go.Proofs.Ytlpkheoljbdajaa
open Go.RowKit Go.Shelf
attribute [local go_sem] Oper.semAt_some

theorem cell_int2 {w : World} {b : Nat} {cs : Array Value} (h : mblk w b = some (.cells cs 31 (0, 0))) (j : Nat) : w.cell? ⟨b, j, none⟩ = cs[j]? := cellB h j
attribute [local go_sem] cell_int2
section
variable {bl bh rl rh : Int} {aP aQ aL : Option Addr} {nP cP nQ cQ nL cL : Nat} {ps qs : List (Int × Int)} {ls : List T.T5}
set_option maxRecDepth 100000 in
set_option maxHeartbeats 8000000 in
set_option linter.unusedSimpArgs false in
theorem starTruths_any {M n0 n1 : Int} {aO aE aA : Option Addr} {nO cO nE cE nA cA : Nat} {os pe pa : List Int} {w : World} (I : Sps w (.slice aP nP cP) ps) (J : Sps w (.slice aQ nQ cQ) qs) (K : Lks w (.slice aL nL cL) ls) (IO : Ints w (.slice aO nO cO) os) (IE : Ints w (.slice aE nE cE) pe) (IA : Ints w (.slice aA nA cA) pa) (bo : ∀ x ∈ os, D.in64 x) (be : ∀ x ∈ pe, D.in64 x) (ba : ∀ x ∈ pa, D.in64 x):
    Calls Try.prog 3 #[BoV M bl bh rl rh (.slice aP nP cP) (.slice aQ nQ cQ) (.slice aL nL cL), .agg #[.slice aO nO cO, .slice aE nE cE, .slice aA nA cA], .agg #[.int .i64 n0, .int .i64 n1]] w fun e w' => e = .returned (.bool true) ∧ Up w w' := by
  have U := ((((Up.refl w).alloc (.cells (BoC M bl bh rl rh (.slice aP nP cP) (.slice aQ nQ cQ) (.slice aL nL cL)) 27)).alloc (.cells #[.slice aO nO cO, .slice aE nE cE, .slice aA nA cA] 30)).alloc (.cells #[.int .i64 n0, .int .i64 n1] 31))
  have HW := Lib.hid (fun w => l_works_any w)
  have hmx : Try.prog.follows .mixedOrders = true := by kernel_rfl
  obtain ⟨r, e1, c1⟩ := T.both_IsTruth (bl := bl) (bh := bh) (rl := rl) (rh := rh) M I J K IO IE IA bo be ba
  have C1 := Lib.hid (fun w' (u : Up w w') => (c1 w' u).1)
  have R1 := Lib.hid (fun w' (u : Up w w') => (c1 w' u).2)
  obtain ⟨lo, ho, eo, c2⟩ := T.both_Between (bl := bl) (bh := bh) (rl := rl) (rh := rh) M n0 n1 I J K
  have C2 := Lib.hid (fun w' (u : Up w w') => (c2 w' u).1)
  have R2 := Lib.hid (fun w' (u : Up w w') => (c2 w' u).2)
  obtain ⟨ck, hck⟩ : ∃ x : Int, (if T.valid M bl bh rl rh ps qs ls = true then (0 : Int) else 30) = x := ⟨_, rfl⟩
  have C3 := Lib.hid (fun w' (u : Up w w') => show Calls Try.prog 19 #[BoV M bl bh rl rh (.slice aP nP cP) (.slice aQ nQ cQ) (.slice aL nL cL)] w' fun e w'' => e = .returned (.int .i64 ck) ∧ Up w' w'' by rw [← hck]; exact Check_any (I.up u) (J.up u) (K.up u))
  have R3 := Lib.hid (fun w' (u : Up w w') => show Calls Try.prog 20 #[BoV M bl bh rl rh (.slice aP nP cP) (.slice aQ nQ cQ) (.slice aL nL cL)] w' fun e w'' => e = .returned (.int .i64 ck) ∧ Up w' w'' by rw [← hck]; exact r_Check_any (I.up u) (J.up u) (K.up u))
  have hrr : (r != r) = false := by cases r <;> rfl
  have hee : (e1 != e1) = false := bne_self_eq_false e1
  have hcc : (ck != ck) = false := bne_self_eq_false ck
  clear c1 c2 I J K IO IE IA bo be ba hck
  go_enter Try.func3, Try.ntmps3
  obtain ⟨q0, e0⟩ : ∃ x, w.heap.size = x := ⟨_, rfl⟩
  have kB := (blk_keep (.cells #[.int .i64 n0, .int .i64 n1] 31) (blk_keep (.cells #[.slice aO nO cO, .slice aE nE cE, .slice aA nA cA] 30) (blk_new w (.cells (BoC M bl bh rl rh (.slice aP nP cP) (.slice aQ nQ cQ) (.slice aL nL cL)) 27) q0 e0.symm)))
  have kT := (blk_keep (.cells #[.int .i64 n0, .int .i64 n1] 31) (blk_new (w.alloc (.cells (BoC M bl bh rl rh (.slice aP nP cP) (.slice aQ nQ cQ) (.slice aL nL cL)) 27)) (.cells #[.slice aO nO cO, .slice aE nE cE, .slice aA nA cA] 30) (q0 + 1) (by simp [e0])))
  have kN := (blk_new ((w.alloc (.cells (BoC M bl bh rl rh (.slice aP nP cP) (.slice aQ nQ cQ) (.slice aL nL cL)) 27)).alloc (.cells #[.slice aO nO cO, .slice aE nE cE, .slice aA nA cA] 30)) (.cells #[.int .i64 n0, .int .i64 n1] 31) (q0 + 2) (by simp [e0]))
  go_wp2_with fail
  refine (C1.out _ U).mono ?_
  rintro e x1 ⟨rfl, u2⟩
  replace U := U.trans u2
  replace kB := u2.blk kB
  replace kT := u2.blk kT
  replace kN := u2.blk kN
  clear u2 C1
  go_wp2_with fail
  refine (R1.out _ U).mono ?_
  rintro e x3 ⟨rfl, u4⟩
  replace U := U.trans u4
  replace kB := u4.blk kB
  replace kT := u4.blk kT
  replace kN := u4.blk kN
  clear u4 R1
  have HU := Lib.hid U
  go_wp2_with fail
  have F6 := Lib.hid (fun w (u : Up x3 w) => cellB (u.blk kB))
  have F7 := Lib.hid (fun w (u : Up x3 w) => cellB (u.blk kT))
  have F8 := Lib.hid (fun w (u : Up x3 w) => cellB (u.blk kN))
  refine (wpIn_wide (n := 5)).1 ?_
  refine wpIn_nrm ?_
  refine T.regionQ (fun w' => Up x3 w') 14 1 hmx (by kernel_rfl) (by kernel_rfl) ((Up.refl x3).drew) (fun hCl => ?_)
  refine T.qT 0 (some 25) ?v1 rfl rfl hCl ?hy1 (fun hCl' => ?_)
  case hy1 => (intro w hSw; refine T.qVal ?_ hSw; (try dsimp only [List.getElem_toArray, List.getElem_cons_succ, List.getElem_cons_zero]); go_simp; try with_reducible rfl)
  simp only [Act.put, List.setIfInBounds_toArray, List.set_cons_zero, List.set_cons_succ]; replace hCl := hCl'; clear hCl'
  refine T.qT 1 (some 26) ?v2 rfl rfl hCl ?hy2 (fun hCl' => ?_)
  case hy2 => (intro w hSw; refine T.qVal ?_ hSw; (try dsimp only [List.getElem_toArray, List.getElem_cons_succ, List.getElem_cons_zero]); go_simp; try with_reducible rfl)
  simp only [Act.put, List.setIfInBounds_toArray, List.set_cons_zero, List.set_cons_succ]; replace hCl := hCl'; clear hCl'
  refine T.qT 2 (some 27) ?v3 rfl rfl hCl ?hy3 (fun hCl' => ?_)
  case hy3 => (intro w hSw; refine T.qVal ?_ hSw; (try dsimp only [List.getElem_toArray, List.getElem_cons_succ, List.getElem_cons_zero]); go_simp; try with_reducible rfl)
  simp only [Act.put, List.setIfInBounds_toArray, List.set_cons_zero, List.set_cons_succ]; replace hCl := hCl'; clear hCl'
  refine T.qT 3 (some 28) ?v4 rfl rfl hCl ?hy4 (fun hCl' => ?_)
  case hy4 => (intro w hSw; refine T.qVal ?_ hSw; (try dsimp only [List.getElem_toArray, List.getElem_cons_succ, List.getElem_cons_zero]); go_simp; try with_reducible rfl)
  simp only [Act.put, List.setIfInBounds_toArray, List.set_cons_zero, List.set_cons_succ]; replace hCl := hCl'; clear hCl'
  refine T.qT 4 (some 29) ?v5 rfl rfl hCl ?hy5 (fun hCl' => ?_)
  case hy5 => (intro w hSw; refine T.qVal ?_ hSw; (try dsimp only [List.getElem_toArray, List.getElem_cons_succ, List.getElem_cons_zero]); go_simp; try with_reducible rfl)
  simp only [Act.put, List.setIfInBounds_toArray, List.set_cons_zero, List.set_cons_succ]; replace hCl := hCl'; clear hCl'
  refine T.qT 5 (some 30) ?v6 rfl rfl hCl ?hy6 (fun hCl' => ?_)
  case hy6 => (intro w hSw; refine T.qVal ?_ hSw; (try dsimp only [List.getElem_toArray, List.getElem_cons_succ, List.getElem_cons_zero]); go_simp; try with_reducible rfl)
  simp only [Act.put, List.setIfInBounds_toArray, List.set_cons_zero, List.set_cons_succ]; replace hCl := hCl'; clear hCl'
  refine T.qT 6 (some 31) ?v7 rfl rfl hCl ?hy7 (fun hCl' => ?_)
  case hy7 => (intro w hSw; refine T.qVal ?_ hSw; (try dsimp only [List.getElem_toArray, List.getElem_cons_succ, List.getElem_cons_zero]); go_simp; try with_reducible rfl)
  simp only [Act.put, List.setIfInBounds_toArray, List.set_cons_zero, List.set_cons_succ]; replace hCl := hCl'; clear hCl'
  refine T.qT 7 (some 32) ?v8 rfl rfl hCl ?hy8 (fun hCl' => ?_)
  case hy8 => (intro w hSw; refine T.qVal ?_ hSw; (try dsimp only [List.getElem_toArray, List.getElem_cons_succ, List.getElem_cons_zero]); go_simp; try with_reducible rfl)
  simp only [Act.put, List.setIfInBounds_toArray, List.set_cons_zero, List.set_cons_succ]; replace hCl := hCl'; clear hCl'
  refine T.qT 8 (some 33) ?v9 rfl rfl hCl ?hy9 (fun hCl' => ?_)
  case hy9 => (intro w hSw; refine T.qVal ?_ hSw; (try dsimp only [List.getElem_toArray, List.getElem_cons_succ, List.getElem_cons_zero]); go_simp; try with_reducible rfl)
  simp only [Act.put, List.setIfInBounds_toArray, List.set_cons_zero, List.set_cons_succ]; replace hCl := hCl'; clear hCl'
  refine T.qT 9 (some 34) ?v10 rfl rfl hCl ?hy10 (fun hCl' => ?_)
  case hy10 => (intro w hSw; refine T.qVal ?_ hSw; (have fF6 := F6.out w hSw; have fF7 := F7.out w hSw; have fF8 := F8.out w hSw); (try dsimp only [List.getElem_toArray, List.getElem_cons_succ, List.getElem_cons_zero]); go_simp; try with_reducible rfl)
  simp only [Act.put, List.setIfInBounds_toArray, List.set_cons_zero, List.set_cons_succ]; replace hCl := hCl'; clear hCl'
  refine T.qT 11 (some 36) ?v11 rfl rfl hCl ?hy11 (fun hCl' => ?_)
  case hy11 => (intro w hSw; refine T.qVal ?_ hSw; (have fF6 := F6.out w hSw; have fF7 := F7.out w hSw; have fF8 := F8.out w hSw); (try dsimp only [List.getElem_toArray, List.getElem_cons_succ, List.getElem_cons_zero]); go_simp; try with_reducible rfl)
  simp only [Act.put, List.setIfInBounds_toArray, List.set_cons_zero, List.set_cons_succ]; replace hCl := hCl'; clear hCl'
  refine T.qT 10 (some 35) ((.int .i64 ck)) rfl rfl hCl ?hy12 (fun hCl' => ?_)
  case hy12 => (intro w hSw; (have fF6 := F6.out w hSw; have fF7 := F7.out w hSw; have fF8 := F8.out w hSw); (try dsimp only [List.getElem_toArray, List.getElem_cons_succ, List.getElem_cons_zero]); go_simp; (refine (callsIn_wide.2 (C3.out w (HU.out.trans hSw))).mono ?_; rintro e w3 ⟨rfl, u3⟩; exact ⟨rfl, hSw.trans u3⟩))
  simp only [Act.put, List.setIfInBounds_toArray, List.set_cons_zero, List.set_cons_succ]
  replace hCl := hCl'; clear hCl'
  refine T.qT 12 (some 37) ((.int .i64 ck)) rfl rfl hCl ?hy13 (fun hCl' => ?_)
  case hy13 => (intro w hSw; (have fF6 := F6.out w hSw; have fF7 := F7.out w hSw; have fF8 := F8.out w hSw); (try dsimp only [List.getElem_toArray, List.getElem_cons_succ, List.getElem_cons_zero]); go_simp; (refine (callsIn_wide.2 (R3.out w (HU.out.trans hSw))).mono ?_; rintro e w3 ⟨rfl, u3⟩; exact ⟨rfl, hSw.trans u3⟩))
  simp only [Act.put, List.setIfInBounds_toArray, List.set_cons_zero, List.set_cons_succ]
  replace hCl := hCl'; clear hCl'
  refine T.qT 13 (some 38) ?v14 rfl rfl hCl ?hy14 (fun hCl' => ?_)
  case hy14 => (intro w hSw; refine T.qVal ?_ hSw; (try dsimp only [List.getElem_toArray, List.getElem_cons_succ, List.getElem_cons_zero]); go_simp; try with_reducible rfl)
  simp only [Act.put, List.setIfInBounds_toArray, List.set_cons_zero, List.set_cons_succ]; replace hCl := hCl'; clear hCl'
  refine T.tail_intro (by kernel_rfl) (fun Y5 hY5 => ?_)
  replace U := U.trans hY5
  replace kB := hY5.blk kB
  replace kT := hY5.blk kT
  replace kN := hY5.blk kN
  clear F6 F7 F8 hY5
  refine lastG (i := 14) (by kernel_rfl) rfl (by rfl) (by decide) (fun K hK => ?_)
  go_simp
  refine hK.out _ _ ?_
  clear hK K
  refine doneG (by kernel_rfl) ?_ _
  refine S.nrm_intro ?_
  clear HU C3 R3
  go_wp2_with fail
  refine (C2.out _ U).mono ?_
  rintro e x9 ⟨rfl, u10⟩
  replace U := U.trans u10
  replace kB := u10.blk kB
  replace kT := u10.blk kT
  replace kN := u10.blk kN
  clear u10 
  have dkBks := blk_lt kB
  have dkTks := blk_lt kT
  have dkNks := blk_lt kN
  have gks := U.size
  have ks := blk_new x9 (.cells #[.int .i64 lo, .int .i64 ho] 23) _ rfl
  replace kB := blk_keep (.cells #[.int .i64 lo, .int .i64 ho] 23) kB
  replace kT := blk_keep (.cells #[.int .i64 lo, .int .i64 ho] 23) kT
  replace kN := blk_keep (.cells #[.int .i64 lo, .int .i64 ho] 23) kN
  replace U := U.alloc (.cells #[.int .i64 lo, .int .i64 ho] 23)
  obtain ⟨pks, hpks⟩ : ∃ z, x9.heap.size = z := ⟨_, rfl⟩
  obtain ⟨W11, hW11⟩ : ∃ z, x9.alloc (.cells #[.int .i64 lo, .int .i64 ho] 23) = z := ⟨_, rfl⟩
  rw [hpks] at ks dkBks dkTks dkNks gks
  rw [hW11] at ks U kB kT kN
  go_wp2_with fail
  clear hpks hW11
  refine (R2.out _ U).mono ?_
  rintro e x12 ⟨rfl, u13⟩
  replace U := U.trans u13
  replace kB := u13.blk kB
  replace kT := u13.blk kT
  replace kN := u13.blk kN
  replace ks := u13.blk ks
  clear u13 
  have dkBkt := blk_lt kB
  have dkTkt := blk_lt kT
  have dkNkt := blk_lt kN
  have dkskt := blk_lt ks
  have gkt := U.size
  have kt := blk_new x12 (.cells #[.int .i64 lo, .int .i64 ho] 23) _ rfl
  replace kB := blk_keep (.cells #[.int .i64 lo, .int .i64 ho] 23) kB
  replace kT := blk_keep (.cells #[.int .i64 lo, .int .i64 ho] 23) kT
  replace kN := blk_keep (.cells #[.int .i64 lo, .int .i64 ho] 23) kN
  replace ks := blk_keep (.cells #[.int .i64 lo, .int .i64 ho] 23) ks
  replace U := U.alloc (.cells #[.int .i64 lo, .int .i64 ho] 23)
  obtain ⟨pkt, hpkt⟩ : ∃ z, x12.heap.size = z := ⟨_, rfl⟩
  obtain ⟨W14, hW14⟩ : ∃ z, x12.alloc (.cells #[.int .i64 lo, .int .i64 ho] 23) = z := ⟨_, rfl⟩
  rw [hpkt] at kt dkBkt dkTkt dkNkt dkskt gkt
  rw [hW14] at kt U kB kT kN ks
  go_wp2_with fail
  clear hpkt hW14
  refine (HW.out _).mono ?_
  rintro e x15 ⟨rfl, u16⟩
  replace U := U.trans u16
  replace kB := u16.blk kB
  replace kT := u16.blk kT
  replace kN := u16.blk kN
  replace ks := u16.blk ks
  replace kt := u16.blk kt
  clear u16 
  go_wp2
  go_ret
  exact ⟨rfl, U⟩
end

end Go.Proofs.Ytlpkheoljbdajaa
