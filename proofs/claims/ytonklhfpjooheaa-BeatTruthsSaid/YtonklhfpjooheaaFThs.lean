import Derived.Test.YtonklhfpjooheaaBth
import Derived.Test.YtonklhfpjooheaaRit
import Derived.Test.YtonklhfpjooheaaHsI
import Derived.Test.YtonklhfpjooheaaLws
import Derived.Test.YtonklhfpjooheaaHeQ
/- The law BeatTruths. -/
namespace Go.Proofs.Ytonklhfpjooheaa
open Go.RowKit Go.Shelf
attribute [local go_sem] Oper.semAt_some

section
variable {aR aO aP aV : Option Addr} {nR cR nO cO nP cP nV cV : Nat} {Hi : Int} {rs : T.LR} {os : T.LO} {ps : T.LP} {rows : List (List Int)}
set_option maxRecDepth 100000 in
set_option maxHeartbeats 1000000 in
theorem r_IsTruth_bad {w : World} {v : Value} (I : Sps w (.slice aR nR cR) rs) (IO : Ops w (.slice aO nO cO) os) (IP : Prs w (.slice aP nP cP) ps) (hv : T.valid Hi rs os ps = false) :
    Calls Try.prog 16 #[ClV Hi (.slice aR nR cR) (.slice aO nO cO) (.slice aP nP cP), v] w fun e w' => e = .returned (.tuple #[.bool false, .int .i64 20]) ∧ Up w w' := by
  have HC := Lib.hid (fun w' (u : Up w w') => show Calls Try.prog 18 #[ClV Hi (.slice aR nR cR) (.slice aO nO cO) (.slice aP nP cP)] w' fun e w'' => e = .returned (.int .i64 20) ∧ Up w' w'' by have := r_Check_any (Hi := Hi) (I.up u) (IO.up u) (IP.up u); rwa [if_pos hv] at this)
  have U := (Up.refl w).alloc (.cells #[.int .i64 Hi, .slice aR nR cR, .slice aO nO cO, .slice aP nP cP] 26)
  clear I IO IP hv
  go_enter Try.func16, Try.ntmps16
  go_wp2_with fail
  refine (HC.out _ U).mono ?_
  rintro e x1 ⟨rfl, u⟩
  have HU := Lib.hid (U.trans u)
  clear U u HC
  go_wp2
  go_ret2
  exact ⟨rfl, HU.out⟩
theorem T.offs6 (h6 : ∀ i, i < rows.length → ∀ j, j < (rows.getD i []).length → D.in64 ((rows.getD i []).getD j 0)) (m : Int × Int) : D.in64 (T.offs rows m) := by
  have z : D.in64 0 := by unfold D.in64; omega
  unfold T.offs T.offsTo
  split
  · exact z
  · split
    · by_cases c : m.1.toNat < rows.length
      · by_cases d : m.2.toNat < (rows.getD m.1.toNat []).length
        · exact h6 _ c _ d
        · rw [List.getD_eq_getElem?_getD, List.getElem?_eq_none (by omega)]
          exact z
      · rw [show rows.getD m.1.toNat [] = [] by rw [List.getD_eq_getElem?_getD, List.getElem?_eq_none (by omega)]; rfl]
        exact z
    · exact z
theorem T.both_IsTruth {w : World} (I : Sps w (.slice aR nR cR) rs) (IO : Ops w (.slice aO nO cO) os) (IP : Prs w (.slice aP nP cP) ps) (IV : T.Rows w (.slice aV nV cV) rows) (h6 : ∀ i, i < rows.length → ∀ j, j < (rows.getD i []).length → D.in64 ((rows.getD i []).getD j 0)) :
    ∃ (r : Bool) (e : Int), ∀ w', Up w w' → (Calls Try.prog 15 #[ClV Hi (.slice aR nR cR) (.slice aO nO cO) (.slice aP nP cP), .slice aV nV cV] w' fun e' w'' => e' = .returned (.tuple #[.bool r, .int .i64 e]) ∧ Up w' w'') ∧
      (Calls Try.prog 16 #[ClV Hi (.slice aR nR cR) (.slice aO nO cO) (.slice aP nP cP), .slice aV nV cV] w' fun e' w'' => e' = .returned (.tuple #[.bool r, .int .i64 e]) ∧ Up w' w'') := by
  cases hv : T.valid Hi rs os ps with
  | false => exact ⟨false, 20, fun w' u => ⟨IsTruth_bad (I.up u) (IO.up u) (IP.up u) hv, r_IsTruth_bad (I.up u) (IO.up u) (IP.up u) hv⟩⟩
  | true =>
    obtain ⟨H, rfl⟩ := T.valid_nat hv
    have G := T.valid_good.1 hv
    have key : ∀ (r r' : Bool), (r = true ↔ r' = true) → r = r' := fun r r' h => by
      rw [Bool.eq_iff_iff]
      exact h
    refine ⟨@decide ((rows.length = rs.length ∧ ∀ x ∈ rows, x.length = H + 1) ∧ T.Tr H rs os ps (T.offs rows)) (Classical.propDecidable _), 0, fun w' u => ⟨?_, ?_⟩⟩
    · refine (IsTruth_tells G (fun m _ => T.offs6 h6 m) (IV.up u) (I.up u) (IO.up u) (IP.up u)).mono ?_
      rintro e x ⟨⟨r, rfl, hr⟩, u'⟩
      rw [key r _ (hr.trans (@decide_eq_true_iff _ (Classical.propDecidable _)).symm)]
      exact ⟨rfl, u'⟩
    · refine (r_IsTruth_any G (I.up u) (IO.up u) (IP.up u) (IV.up u)).mono ?_
      rintro e x ⟨⟨r, rfl, hr⟩, u'⟩
      rw [key r _ (hr.trans (@decide_eq_true_iff _ (Classical.propDecidable _)).symm)]
      exact ⟨rfl, u'⟩
theorem cell_int2 {w : World} {b : Nat} {cs : Array Value} (h : mblk w b = some (.cells cs 28 (0, 0))) (j : Nat) : w.cell? ⟨b, j, none⟩ = cs[j]? := cellB h j
attribute [local go_sem] cell_int2
set_option maxRecDepth 100000 in
set_option maxHeartbeats 8000000 in
set_option linter.unusedSimpArgs false in
theorem beatTruths_any {n0 n1 : Int} {w : World} (I : Sps w (.slice aR nR cR) rs) (IO : Ops w (.slice aO nO cO) os) (IP : Prs w (.slice aP nP cP) ps) (IV : T.Rows w (.slice aV nV cV) rows) (h6 : ∀ i, i < rows.length → ∀ j, j < (rows.getD i []).length → D.in64 ((rows.getD i []).getD j 0)) :
    Calls Try.prog 3 #[ClV Hi (.slice aR nR cR) (.slice aO nO cO) (.slice aP nP cP), .slice aV nV cV, .agg #[.int .i64 n0, .int .i64 n1]] w fun e w' => e = .returned (.bool true) ∧ Up w w' := by
  have HW := Lib.hid (fun w => l_works_any w)
  obtain ⟨r, e, hT⟩ := T.both_IsTruth (Hi := Hi) I IO IP IV h6
  obtain ⟨l, h, e', hO⟩ := T.both_Offset (Hi := Hi) I IO IP n0 n1
  obtain ⟨ec, hec⟩ : ∃ c : Int, (if T.valid Hi rs os ps = false then 20 else 0) = c := ⟨_, rfl⟩
  have HC := Lib.hid (fun w' (u : Up w w') => show Calls Try.prog 17 #[ClV Hi (.slice aR nR cR) (.slice aO nO cO) (.slice aP nP cP)] w' fun e w'' => e = .returned (.int .i64 ec) ∧ Up w' w'' by rw [← hec]; exact Check_any (I.up u) (IO.up u) (IP.up u))
  have HD := Lib.hid (fun w' (u : Up w w') => show Calls Try.prog 18 #[ClV Hi (.slice aR nR cR) (.slice aO nO cO) (.slice aP nP cP)] w' fun e w'' => e = .returned (.int .i64 ec) ∧ Up w' w'' by rw [← hec]; exact r_Check_any (I.up u) (IO.up u) (IP.up u))
  have HT := Lib.hid hT
  have HO := Lib.hid (fun w' u => And.intro (hO w' u).1 (hO w' u).2.1)
  have hmx : Try.prog.follows .mixedOrders = true := by kernel_rfl
  clear hT hO hec I IO IP IV h6
  go_enter Try.func3, Try.ntmps3
  have U := ((Up.refl w).alloc (.cells #[.int .i64 Hi, .slice aR nR cR, .slice aO nO cO, .slice aP nP cP] 26)).alloc (.cells #[.int .i64 n0, .int .i64 n1] 28)
  obtain ⟨q0, e0⟩ : ∃ x, w.heap.size = x := ⟨_, rfl⟩
  have kC := blk_keep (.cells #[.int .i64 n0, .int .i64 n1] 28) (blk_new w (.cells #[.int .i64 Hi, .slice aR nR cR, .slice aO nO cO, .slice aP nP cP] 26) q0 e0.symm)
  have kN := blk_new (w.alloc (.cells #[.int .i64 Hi, .slice aR nR cR, .slice aO nO cO, .slice aP nP cP] 26)) (.cells #[.int .i64 n0, .int .i64 n1] 28) (q0 + 1) (by simp [e0])
  go_wp2_with fail
  refine ((HT.out _ U).1).mono ?_
  rintro e x1 ⟨rfl, u2⟩
  replace U := U.trans u2
  replace kC := u2.blk kC
  replace kN := u2.blk kN
  clear u2 
  go_wp2_with fail
  refine ((HT.out _ U).2).mono ?_
  rintro e x3 ⟨rfl, u4⟩
  replace U := U.trans u4
  replace kC := u4.blk kC
  replace kN := u4.blk kN
  clear u4 
  have HUw := Lib.hid U
  go_wp2_with fail
  have F6 := Lib.hid (fun w (u : Up x3 w) => cellB (u.blk kC))
  have F7 := Lib.hid (fun w (u : Up x3 w) => cellB (u.blk kN))
  refine (wpIn_wide (n := 5)).1 ?_
  refine wpIn_nrm ?_
  refine T.regionQ (fun w' => Up x3 w') 14 1 hmx (by kernel_rfl) (by kernel_rfl) ((Up.refl x3).drew) (fun hCl => ?_)
  refine T.qT 0 (some 25) ?v1 rfl rfl hCl ?hy1 (fun hCl' => ?_)
  case hy1 => (intro w hSw; refine T.qVal ?_ hSw; (try dsimp only [List.getElem_toArray, List.getElem_cons_succ, List.getElem_cons_zero]); go_simp; try with_reducible rfl)
  simp only [Act.put, List.setIfInBounds_toArray, List.set_cons_zero, List.set_cons_succ]; replace hCl := hCl'; clear hCl'
  refine T.qT 1 (some 26) ?v2 rfl rfl hCl ?hy2 (fun hCl' => ?_)
  case hy2 => (intro w hSw; refine T.qVal ?_ hSw; (try dsimp only [List.getElem_toArray, List.getElem_cons_succ, List.getElem_cons_zero]); go_simp; try with_reducible rfl)
  simp only [Act.put, List.setIfInBounds_toArray, List.set_cons_zero, List.set_cons_succ]; replace hCl := hCl'; clear hCl'
  refine T.qT 2 (some 27) ?v3 rfl rfl hCl ?hy3 (fun hCl' => ?_)
  case hy3 => (intro w hSw; refine T.qVal ?_ hSw; (try dsimp only [List.getElem_toArray, List.getElem_cons_succ, List.getElem_cons_zero]); go_simp; try with_reducible rfl)
  simp only [Act.put, List.setIfInBounds_toArray, List.set_cons_zero, List.set_cons_succ]; replace hCl := hCl'; clear hCl'
  refine T.qT 3 (some 28) ?v4 rfl rfl hCl ?hy4 (fun hCl' => ?_)
  case hy4 => (intro w hSw; refine T.qVal ?_ hSw; (try dsimp only [List.getElem_toArray, List.getElem_cons_succ, List.getElem_cons_zero]); go_simp; try with_reducible rfl)
  simp only [Act.put, List.setIfInBounds_toArray, List.set_cons_zero, List.set_cons_succ]; replace hCl := hCl'; clear hCl'
  refine T.qT 4 (some 29) ?v5 rfl rfl hCl ?hy5 (fun hCl' => ?_)
  case hy5 => (intro w hSw; refine T.qVal ?_ hSw; (try dsimp only [List.getElem_toArray, List.getElem_cons_succ, List.getElem_cons_zero]); go_simp; try with_reducible rfl)
  simp only [Act.put, List.setIfInBounds_toArray, List.set_cons_zero, List.set_cons_succ]; replace hCl := hCl'; clear hCl'
  refine T.qT 5 (some 30) ?v6 rfl rfl hCl ?hy6 (fun hCl' => ?_)
  case hy6 => (intro w hSw; refine T.qVal ?_ hSw; (try dsimp only [List.getElem_toArray, List.getElem_cons_succ, List.getElem_cons_zero]); go_simp; try with_reducible rfl)
  simp only [Act.put, List.setIfInBounds_toArray, List.set_cons_zero, List.set_cons_succ]; replace hCl := hCl'; clear hCl'
  refine T.qT 6 (some 31) ?v7 rfl rfl hCl ?hy7 (fun hCl' => ?_)
  case hy7 => (intro w hSw; refine T.qVal ?_ hSw; (try dsimp only [List.getElem_toArray, List.getElem_cons_succ, List.getElem_cons_zero]); go_simp; try with_reducible rfl)
  simp only [Act.put, List.setIfInBounds_toArray, List.set_cons_zero, List.set_cons_succ]; replace hCl := hCl'; clear hCl'
  refine T.qT 7 (some 32) ?v8 rfl rfl hCl ?hy8 (fun hCl' => ?_)
  case hy8 => (intro w hSw; refine T.qVal ?_ hSw; (try dsimp only [List.getElem_toArray, List.getElem_cons_succ, List.getElem_cons_zero]); go_simp; try with_reducible rfl)
  simp only [Act.put, List.setIfInBounds_toArray, List.set_cons_zero, List.set_cons_succ]; replace hCl := hCl'; clear hCl'
  refine T.qT 8 (some 33) ?v9 rfl rfl hCl ?hy9 (fun hCl' => ?_)
  case hy9 => (intro w hSw; refine T.qVal ?_ hSw; (try dsimp only [List.getElem_toArray, List.getElem_cons_succ, List.getElem_cons_zero]); go_simp; try with_reducible rfl)
  simp only [Act.put, List.setIfInBounds_toArray, List.set_cons_zero, List.set_cons_succ]; replace hCl := hCl'; clear hCl'
  refine T.qT 9 (some 34) ?v10 rfl rfl hCl ?hy10 (fun hCl' => ?_)
  case hy10 => (intro w hSw; refine T.qVal ?_ hSw; (have fF6 := F6.out w hSw; have fF7 := F7.out w hSw); (try dsimp only [List.getElem_toArray, List.getElem_cons_succ, List.getElem_cons_zero]); go_simp; try with_reducible rfl)
  simp only [Act.put, List.setIfInBounds_toArray, List.set_cons_zero, List.set_cons_succ]; replace hCl := hCl'; clear hCl'
  refine T.qT 11 (some 36) ?v11 rfl rfl hCl ?hy11 (fun hCl' => ?_)
  case hy11 => (intro w hSw; refine T.qVal ?_ hSw; (have fF6 := F6.out w hSw; have fF7 := F7.out w hSw); (try dsimp only [List.getElem_toArray, List.getElem_cons_succ, List.getElem_cons_zero]); go_simp; try with_reducible rfl)
  simp only [Act.put, List.setIfInBounds_toArray, List.set_cons_zero, List.set_cons_succ]; replace hCl := hCl'; clear hCl'
  refine T.qT 10 (some 35) ((.int .i64 ec)) rfl rfl hCl ?hy12 (fun hCl' => ?_)
  case hy12 => (intro w hSw; (have fF6 := F6.out w hSw; have fF7 := F7.out w hSw); (try dsimp only [List.getElem_toArray, List.getElem_cons_succ, List.getElem_cons_zero]); go_simp; (refine (callsIn_wide.2 (HC.out w (HUw.out.trans hSw))).mono ?_; rintro e w3 ⟨rfl, u3⟩; exact ⟨rfl, hSw.trans u3⟩))
  simp only [Act.put, List.setIfInBounds_toArray, List.set_cons_zero, List.set_cons_succ]
  replace hCl := hCl'; clear hCl'
  refine T.qT 12 (some 37) ((.int .i64 ec)) rfl rfl hCl ?hy13 (fun hCl' => ?_)
  case hy13 => (intro w hSw; (have fF6 := F6.out w hSw; have fF7 := F7.out w hSw); (try dsimp only [List.getElem_toArray, List.getElem_cons_succ, List.getElem_cons_zero]); go_simp; (refine (callsIn_wide.2 (HD.out w (HUw.out.trans hSw))).mono ?_; rintro e w3 ⟨rfl, u3⟩; exact ⟨rfl, hSw.trans u3⟩))
  simp only [Act.put, List.setIfInBounds_toArray, List.set_cons_zero, List.set_cons_succ]
  replace hCl := hCl'; clear hCl'
  refine T.qT 13 (some 38) ?v14 rfl rfl hCl ?hy14 (fun hCl' => ?_)
  case hy14 => (intro w hSw; refine T.qVal ?_ hSw; (try dsimp only [List.getElem_toArray, List.getElem_cons_succ, List.getElem_cons_zero]); go_simp; try with_reducible rfl)
  simp only [Act.put, List.setIfInBounds_toArray, List.set_cons_zero, List.set_cons_succ]; replace hCl := hCl'; clear hCl'
  refine T.tail_intro (by kernel_rfl) (fun Y5 hY5 => ?_)
  replace U := U.trans hY5
  replace kC := hY5.blk kC
  replace kN := hY5.blk kN
  clear F6 F7 hY5
  refine lastG (i := 14) (by kernel_rfl) rfl (by rfl) (by decide) (fun K hK => ?_)
  go_simp
  refine hK.out _ _ ?_
  clear hK K
  refine doneG (by kernel_rfl) ?_ _
  refine S.nrm_intro ?_
  clear HUw
  go_wp2_with fail
  refine ((HO.out _ U).1).mono ?_
  rintro e x8 ⟨rfl, u9⟩
  replace U := U.trans u9
  replace kC := u9.blk kC
  replace kN := u9.blk kN
  clear u9 
  have dkCks := blk_lt kC
  have dkNks := blk_lt kN
  have gks := U.size
  have ks := blk_new x8 (.cells #[.int .i64 l, .int .i64 h] 34) _ rfl
  replace kC := blk_keep (.cells #[.int .i64 l, .int .i64 h] 34) kC
  replace kN := blk_keep (.cells #[.int .i64 l, .int .i64 h] 34) kN
  replace U := U.alloc (.cells #[.int .i64 l, .int .i64 h] 34)
  obtain ⟨pks, hpks⟩ : ∃ z, x8.heap.size = z := ⟨_, rfl⟩
  obtain ⟨W10, hW10⟩ : ∃ z, x8.alloc (.cells #[.int .i64 l, .int .i64 h] 34) = z := ⟨_, rfl⟩
  rw [hpks] at ks dkCks dkNks gks
  rw [hW10] at ks U kC kN
  go_wp2_with fail
  clear hpks hW10
  refine ((HO.out _ U).2).mono ?_
  rintro e x11 ⟨rfl, u12⟩
  replace U := U.trans u12
  replace kC := u12.blk kC
  replace kN := u12.blk kN
  replace ks := u12.blk ks
  clear u12 
  have dkCkt := blk_lt kC
  have dkNkt := blk_lt kN
  have dkskt := blk_lt ks
  have gkt := U.size
  have kt := blk_new x11 (.cells #[.int .i64 l, .int .i64 h] 34) _ rfl
  replace kC := blk_keep (.cells #[.int .i64 l, .int .i64 h] 34) kC
  replace kN := blk_keep (.cells #[.int .i64 l, .int .i64 h] 34) kN
  replace ks := blk_keep (.cells #[.int .i64 l, .int .i64 h] 34) ks
  replace U := U.alloc (.cells #[.int .i64 l, .int .i64 h] 34)
  obtain ⟨pkt, hpkt⟩ : ∃ z, x11.heap.size = z := ⟨_, rfl⟩
  obtain ⟨W13, hW13⟩ : ∃ z, x11.alloc (.cells #[.int .i64 l, .int .i64 h] 34) = z := ⟨_, rfl⟩
  rw [hpkt] at kt dkCkt dkNkt dkskt gkt
  rw [hW13] at kt U kC kN ks
  go_wp2_with fail
  clear hpkt hW13
  refine (HW.out _).mono ?_
  rintro e x14 ⟨rfl, u15⟩
  replace U := U.trans u15
  replace kC := u15.blk kC
  replace kN := u15.blk kN
  replace ks := u15.blk ks
  replace kt := u15.blk kt
  clear u15 
  go_wp2
  go_ret
  exact ⟨rfl, U⟩
end

end Go.Proofs.Ytonklhfpjooheaa
