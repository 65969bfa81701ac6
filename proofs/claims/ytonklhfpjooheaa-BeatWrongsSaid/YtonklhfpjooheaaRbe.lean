import Derived.Test.YtonklhfpjooheaaRas
import Derived.Test.YtonklhfpjooheaaTeR
import Derived.Test.YtonklhfpjooheaaHsI
import Derived.Test.YtonklhfpjooheaaHeQ
/- The contract of the reference's Best. -/
namespace Go.Proofs.Ytonklhfpjooheaa
open Go.RowKit Go.Shelf
attribute [local go_sem] Oper.semAt_some

/-- what is held before a clock: none yet, or the first of the least -/
def T.rbI (wd : Nat → Int) (k : Nat) (b l : Int) : Prop := (k = 0 ∧ b = 0 ∧ l = -1) ∨ (0 < k ∧ b = (T.bst wd k).1 ∧ l = (T.bst wd k).2)
theorem T.rbI_in {wd : Nat → Int} {k : Nat} {b l : Int} (h : k = 0 ∨ wd k < (T.bst wd k).2) (hb : b = k) (hl : l = wd k) : T.rbI wd (k + 1) b l := by
  refine .inr ⟨Nat.succ_pos _, ?_⟩
  unfold T.bst
  rw [if_pos h]
  exact ⟨hb, hl⟩
theorem T.rbI_no {wd : Nat → Int} {k : Nat} {b l : Int} (h0 : 0 < k) (h : ¬ wd k < l) (q : T.rbI wd k b l) : T.rbI wd (k + 1) b l := by
  rcases q with ⟨a, _⟩ | ⟨_, rfl, rfl⟩
  · omega
  · refine .inr ⟨Nat.succ_pos _, ?_⟩
    rw [show T.bst wd (k + 1) = if k = 0 ∨ wd k < (T.bst wd k).2 then (k, wd k) else T.bst wd k from rfl, if_neg (by omega)]
    exact ⟨rfl, rfl⟩
theorem T.bst_pos {wd : Nat → Int} : ∀ k, (∀ j, j < k → 0 ≤ wd j) → 0 ≤ (T.bst wd k).2
  | 0, _ => Int.le_refl _
  | k + 1, h => by
    rw [show T.bst wd (k + 1) = if k = 0 ∨ wd k < (T.bst wd k).2 then (k, wd k) else T.bst wd k from rfl]
    split
    · exact h k (Nat.lt_succ_self k)
    · exact T.bst_pos k fun j hj => h j (Nat.lt_succ_of_lt hj)
theorem cell_spanb {w : World} {b : Nat} {cs : Array Value} (h : mblk w b = some (.cells cs 34 (0, 0))) (j : Nat) : w.cell? ⟨b, j, none⟩ = cs[j]? := cellB h j
attribute [local go_sem] cell_spanb
section
variable {H : Nat} {Hi : Int} {aR aO aP : Option Addr} {nR cR nO cO nP cP : Nat} {rs : T.LR} {os : T.LO} {ps : T.LP}
theorem T.refErr_ok {k h : Int} (G : T.Good H rs os ps) (hk : 0 ≤ k ∧ k < rs.length) (hh : 0 ≤ h ∧ h ≤ H) : T.refErr H rs os ps k h (-1) 0 = 0 := by
  unfold T.refErr
  rw [if_neg (by rw [T.valid_good.2 G]; decide), inB_yes (show (-1 : Int) ≤ -1 by omega) (by omega), inB_yes (show (0 : Int) ≤ 0 by omega) (by omega), Bool.true_and, Bool.and_true, inB_yes hk.1 (by omega), inB_yes hh.1 hh.2]
  rfl
set_option maxRecDepth 100000 in
set_option maxHeartbeats 4000000 in
set_option linter.unusedSimpArgs false in
theorem r_Best_bad {w : World} {h e lo hi : Int} (h0 : e ≠ 0) (hO : ∀ w', Up w w' → Calls Try.prog 20 #[ClV Hi (.slice aR nR cR) (.slice aO nO cO) (.slice aP nP cP), .int .i64 0, .int .i64 h] w' fun e' w'' => e' = .returned (.tuple #[SpV lo hi, .int .i64 e]) ∧ Up w' w'') :
    Calls Try.prog 31 #[ClV Hi (.slice aR nR cR) (.slice aO nO cO) (.slice aP nP cP), .int .i64 h] w fun e' w' => e' = .returned (.tuple #[.int .i64 0, .int .i64 0, .int .i64 e]) ∧ Up w w' := by
  have HO := Lib.hid hO
  have f2 : (e != 0) = true := by rw [bne_iff_ne]; exact h0
  clear hO h0
  go_enter Try.func31, Try.ntmps31
  obtain ⟨q0, e0⟩ : ∃ x, w.heap.size = x := ⟨_, rfl⟩
  have U := (Up.refl w).alloc (.cells #[.int .i64 Hi, .slice aR nR cR, .slice aO nO cO, .slice aP nP cP] 26)
  have kC := blk_new w (.cells #[.int .i64 Hi, .slice aR nR cR, .slice aO nO cO, .slice aP nP cP] 26) q0 e0.symm
  go_wp2_with fail
  go_loopw [7, 8, 9] (fun b l i wr => b = .int .i64 0 ∧ l = .int .i64 (-1) ∧ i = .int .i64 0 ∧ Up w wr ∧ mblk wr q0 = some (.cells #[.int .i64 Hi, .slice aR nR cR, .slice aO nO cO, .slice aP nP cP] 26 (0, 0))) (fun _ _ _ _ => 0)
  case atStart => exact ⟨rfl, rfl, rfl, U, kC⟩
  case round =>
    clear U kC
    obtain ⟨rfl, rfl, rfl, U, kC⟩ := hrel
    go_wp2_with fail
    refine (HO.out _ U).mono ?_
    rintro e x1 ⟨rfl, u2⟩
    replace U := U.trans u2
    replace kC := u2.blk kC
    clear u2 
    have dkCks := blk_lt kC
    have gks := U.size
    have ks := blk_new x1 (.cells #[.int .i64 lo, .int .i64 hi] 34) _ rfl
    replace kC := blk_keep (.cells #[.int .i64 lo, .int .i64 hi] 34) kC
    replace U := U.alloc (.cells #[.int .i64 lo, .int .i64 hi] 34)
    obtain ⟨pks, hpks⟩ : ∃ z, x1.heap.size = z := ⟨_, rfl⟩
    obtain ⟨W3, hW3⟩ : ∃ z, x1.alloc (.cells #[.int .i64 lo, .int .i64 hi] 34) = z := ⟨_, rfl⟩
    rw [hpks] at ks dkCks gks
    rw [hW3] at ks U kC
    go_wp2
    clear hpks hW3
    go_ret3
    exact ⟨rfl, U⟩
set_option maxRecDepth 100000 in
set_option maxHeartbeats 8000000 in
set_option linter.unusedSimpArgs false in
theorem r_Best_ok {w : World} {h : Int} (G : T.Good H rs os ps) (hh : 0 ≤ h ∧ h ≤ H) (I : Sps w (.slice aR nR cR) rs) (IO : Ops w (.slice aO nO cO) os) (IP : Prs w (.slice aP nP cP) ps) {Lo Hi : Nat → Int} (q : ∀ k : Nat, k < rs.length → T.Tells H rs os ps ((k : Int), h) (-1, 0) (Lo k) (Hi k) 0) :
    Calls Try.prog 31 #[ClV H (.slice aR nR cR) (.slice aO nO cO) (.slice aP nP cP), .int .i64 h] w fun e w' => e = .returned (.tuple #[.int .i64 (T.bst (fun k => Hi k - Lo k) rs.length).1, .int .i64 (T.bst (fun k => Hi k - Lo k) rs.length).2, .int .i64 0]) ∧ Up w w' := by
  have hn := I.len
  subst hn
  have HA := Lib.hid (fun w' (u : Up w w') (k : Nat) (hk : k < rs.length) => r_Offset_any (I.up u) (IO.up u) (IP.up u) (k := (k : Int)) (t := h) (.inr ⟨T.refErr_ok G ⟨by omega, by omega⟩ hh, H, rfl, q k hk⟩))
  have HB := Lib.hid (show ∀ k, k < rs.length → -200000 ≤ Lo k ∧ Lo k ≤ Hi k ∧ Hi k ≤ 200000 from fun k hk => T.Tells.bd G (T.mom_in ⟨by omega, by omega⟩ hh) T.mom_0 (q k hk))
  have r1 := G.r1
  have r5 := G.r2
  have hmx : Try.prog.follows .mixedOrders = true := by kernel_rfl
  obtain ⟨wd, hwd⟩ : ∃ f : Nat → Int, (fun k => Hi k - Lo k) = f := ⟨_, rfl⟩
  have HD := Lib.hid (show ∀ k, wd k = Hi k - Lo k from fun k => by rw [← hwd])
  rw [hwd]
  clear I IO IP q hwd hh G
  go_enter Try.func31, Try.ntmps31
  obtain ⟨q0, e0⟩ : ∃ x, w.heap.size = x := ⟨_, rfl⟩
  have U := (Up.refl w).alloc (.cells #[.int .i64 H, .slice aR rs.length cR, .slice aO nO cO, .slice aP nP cP] 26)
  have kC := blk_new w (.cells #[.int .i64 H, .slice aR rs.length cR, .slice aO nO cO, .slice aP nP cP] 26) q0 e0.symm
  go_wp2_with fail
  go_loopw [7, 8, 9] (fun b l i wr => ∃ (k : Nat) (bb ll : Int), k ≤ rs.length ∧ b = .int .i64 bb ∧ l = .int .i64 ll ∧ i = .int .i64 k ∧ Up w wr ∧ mblk wr q0 = some (.cells #[.int .i64 H, .slice aR rs.length cR, .slice aO nO cO, .slice aP nP cP] 26 (0, 0)) ∧ Hid (T.rbI wd k bb ll)) (fun _ _ i _ => rs.length - (intOf i).toNat)
  case atStart => exact ⟨0, 0, -1, Nat.zero_le _, rfl, rfl, rfl, U, kC, Lib.hid (.inl ⟨rfl, rfl, rfl⟩)⟩
  case round =>
    clear U kC
    obtain ⟨k, bb, ll, hk, rfl, rfl, rfl, U, kC, HR⟩ := hrel
    by_cases hlt : k < rs.length
    · skip
      have ew : IntKind.i64.wrap ((k : Int) + 1) = (k : Int) + 1 := IntWalk.i64_in _ (by omega)
      have bd := HB.out k hlt
      have hdk := HD.out k
      obtain ⟨lo, hlo⟩ : ∃ x, Lo k = x := ⟨_, rfl⟩
      obtain ⟨hi, hhi⟩ : ∃ x, Hi k = x := ⟨_, rfl⟩
      have HC := Lib.hid (HA.out wr U k hlt)
      rw [hlo, hhi] at bd hdk HC
      have HDK := Lib.hid hdk
      have wv : IntKind.i64.wrap (hi - lo) = hi - lo := IntWalk.i64_in _ (by omega)
      clear hlo hhi hdk
      by_cases h0 : k = 0
      · skip
        subst h0
        obtain ⟨rfl, rfl⟩ : bb = 0 ∧ ll = -1 := by
          rcases HR.out with ⟨_, a, b⟩ | ⟨a, _⟩
          · exact ⟨a, b⟩
          · omega
        have HC0 := Lib.hid (show Calls Try.prog 20 #[ClV H (.slice aR rs.length cR) (.slice aO nO cO) (.slice aP nP cP), .int .i64 0, .int .i64 h] wr _ from HC.out)
        clear bd
        go_wp2_with fail
        refine (HC0.out).mono ?_
        rintro e x21 ⟨rfl, u22⟩
        replace U := U.trans u22
        replace kC := u22.blk kC
        clear u22 
        have dkCks := blk_lt kC
        have gks := U.size
        have ks := blk_new x21 (.cells #[.int .i64 lo, .int .i64 hi] 34) _ rfl
        replace kC := blk_keep (.cells #[.int .i64 lo, .int .i64 hi] 34) kC
        replace U := U.alloc (.cells #[.int .i64 lo, .int .i64 hi] 34)
        obtain ⟨pks, hpks⟩ : ∃ z, x21.heap.size = z := ⟨_, rfl⟩
        obtain ⟨W23, hW23⟩ : ∃ z, x21.alloc (.cells #[.int .i64 lo, .int .i64 hi] 34) = z := ⟨_, rfl⟩
        rw [hpks] at ks dkCks gks
        rw [hW23] at ks U kC
        go_wp2_with fail
        clear hpks hW23
        have F25 := Lib.hid (fun w (u : Up W23 w) => cellB (u.blk kC))
        have F26 := Lib.hid (fun w (u : Up W23 w) => cellB (u.blk ks))
        refine (wpIn_wide (n := 5)).1 ?_
        refine wpIn_nrm ?_
        refine T.regionQ (fun w' => Up W23 w') 7 1 hmx (by kernel_rfl) (by kernel_rfl) ((Up.refl W23).drew) (fun hCl => ?_)
        refine T.qT 0 (some 44) ?v1 rfl rfl hCl ?hy1 (fun hCl' => ?_)
        case hy1 => (intro w hSw; refine T.qVal ?_ hSw; (try dsimp only [List.getElem_toArray, List.getElem_cons_succ, List.getElem_cons_zero]); go_simp; try with_reducible rfl)
        simp only [Act.put, List.setIfInBounds_toArray, List.set_cons_zero, List.set_cons_succ]; replace hCl := hCl'; clear hCl'
        refine T.qT 1 (some 45) ?v2 rfl rfl hCl ?hy2 (fun hCl' => ?_)
        case hy2 => (intro w hSw; refine T.qVal ?_ hSw; (try dsimp only [List.getElem_toArray, List.getElem_cons_succ, List.getElem_cons_zero]); go_simp; try with_reducible rfl)
        simp only [Act.put, List.setIfInBounds_toArray, List.set_cons_zero, List.set_cons_succ]; replace hCl := hCl'; clear hCl'
        refine T.qT 3 (some 47) ?v3 rfl rfl hCl ?hy3 (fun hCl' => ?_)
        case hy3 => (intro w hSw; refine T.qVal ?_ hSw; (try dsimp only [List.getElem_toArray, List.getElem_cons_succ, List.getElem_cons_zero]); go_simp; try with_reducible rfl)
        simp only [Act.put, List.setIfInBounds_toArray, List.set_cons_zero, List.set_cons_succ]; replace hCl := hCl'; clear hCl'
        refine T.qT 2 (some 46) ?v4 rfl rfl hCl ?hy4 (fun hCl' => ?_)
        case hy4 => (intro w hSw; refine T.qVal ?_ hSw; (have fF25 := F25.out w hSw; have fF26 := F26.out w hSw); (try dsimp only [List.getElem_toArray, List.getElem_cons_succ, List.getElem_cons_zero]); go_simp; try with_reducible rfl)
        simp only [Act.put, List.setIfInBounds_toArray, List.set_cons_zero, List.set_cons_succ]; replace hCl := hCl'; clear hCl'
        refine T.qT 4 (some 48) ?v5 rfl rfl hCl ?hy5 (fun hCl' => ?_)
        case hy5 => (intro w hSw; refine T.qVal ?_ hSw; (have fF25 := F25.out w hSw; have fF26 := F26.out w hSw); (try dsimp only [List.getElem_toArray, List.getElem_cons_succ, List.getElem_cons_zero]); go_simp; try with_reducible rfl)
        simp only [Act.put, List.setIfInBounds_toArray, List.set_cons_zero, List.set_cons_succ]; replace hCl := hCl'; clear hCl'
        refine T.qT 6 (some 7) ?v6 rfl rfl hCl ?hy6 (fun hCl' => ?_)
        case hy6 => (intro w hSw; refine T.qVal ?_ hSw; (try dsimp only [List.getElem_toArray, List.getElem_cons_succ, List.getElem_cons_zero]); go_simp; try with_reducible rfl)
        simp only [Act.put, List.setIfInBounds_toArray, List.set_cons_zero, List.set_cons_succ]; replace hCl := hCl'; clear hCl'
        refine T.qT 5 (some 49) ?v7 rfl rfl hCl ?hy7 (fun hCl' => ?_)
        case hy7 => (intro w hSw; refine T.qVal ?_ hSw; (try dsimp only [List.getElem_toArray, List.getElem_cons_succ, List.getElem_cons_zero]); go_simp; try with_reducible rfl)
        simp only [Act.put, List.setIfInBounds_toArray, List.set_cons_zero, List.set_cons_succ]; replace hCl := hCl'; clear hCl'
        refine T.tail_intro (by kernel_rfl) (fun Y24 hY24 => ?_)
        replace U := U.trans hY24
        replace kC := hY24.blk kC
        replace ks := hY24.blk ks
        clear F25 F26 hY24
        refine lastG (i := 7) (by kernel_rfl) rfl (by rfl) (by decide) (fun K hK => ?_)
        go_simp
        refine hK.out _ _ ?_
        clear hK K
        refine doneG (by kernel_rfl) ?_ _
        refine S.nrm_intro ?_
        clear ks
        have HR2 := Lib.hid (show T.rbI wd (0 + 1) (0) (hi - lo) from T.rbI_in (.inl rfl) rfl HDK.out.symm)
        clear HR
        go_wp2_with fail
        go_roundw
        case rel => exact ⟨0 + 1, 0, hi - lo, by omega, rfl, rfl, by go_num, U, kC, HR2⟩
        case measure => (simp only [intOf]; omega)
      · skip
        have hz : ((k : Int) == 0) = false := by rw [beq_eq_false_iff_ne]; omega
        have h0' : ¬ (k : Int) = 0 := by omega
        have dk : decide ((k : Int) < (rs.length : Int)) = true := decide_eq_true (by omega)
        have ilt : (k : Int) < (rs.length : Int) := by omega
        have hll : ll = (T.bst wd k).2 ∧ 0 ≤ ll := by
          rcases HR.out with ⟨a, _⟩ | ⟨_, _, a⟩
          · exact absurd a h0
          · refine ⟨a, ?_⟩
            rw [a]
            exact T.bst_pos k fun j hj => by
              have := HB.out j (by omega)
              rw [HD.out]
              omega
        have HLL := Lib.hid hll.1
        have dn : decide (ll < 0) = false := decide_eq_false (by omega)
        have dn' : ¬ ll < 0 := by omega
        clear bd hll
        go_wp2_with fail
        refine (HC.out).mono ?_
        rintro e x41 ⟨rfl, u42⟩
        replace U := U.trans u42
        replace kC := u42.blk kC
        clear u42 
        by_cases hl : hi - lo < ll
        · skip
          have dl : decide (hi - lo < ll) = true := decide_eq_true hl
          have dkCks := blk_lt kC
          have gks := U.size
          have ks := blk_new x41 (.cells #[.int .i64 lo, .int .i64 hi] 34) _ rfl
          replace kC := blk_keep (.cells #[.int .i64 lo, .int .i64 hi] 34) kC
          replace U := U.alloc (.cells #[.int .i64 lo, .int .i64 hi] 34)
          obtain ⟨pks, hpks⟩ : ∃ z, x41.heap.size = z := ⟨_, rfl⟩
          obtain ⟨W51, hW51⟩ : ∃ z, x41.alloc (.cells #[.int .i64 lo, .int .i64 hi] 34) = z := ⟨_, rfl⟩
          rw [hpks] at ks dkCks gks
          rw [hW51] at ks U kC
          go_wp2_with fail
          clear hpks hW51
          have F53 := Lib.hid (fun w (u : Up W51 w) => cellB (u.blk kC))
          have F54 := Lib.hid (fun w (u : Up W51 w) => cellB (u.blk ks))
          refine (wpIn_wide (n := 5)).1 ?_
          refine wpIn_nrm ?_
          refine T.regionQ (fun w' => Up W51 w') 7 1 hmx (by kernel_rfl) (by kernel_rfl) ((Up.refl W51).drew) (fun hCl => ?_)
          refine T.qT 0 (some 44) ?v8 rfl rfl hCl ?hy8 (fun hCl' => ?_)
          case hy8 => (intro w hSw; refine T.qVal ?_ hSw; (try dsimp only [List.getElem_toArray, List.getElem_cons_succ, List.getElem_cons_zero]); go_simp; try with_reducible rfl)
          simp only [Act.put, List.setIfInBounds_toArray, List.set_cons_zero, List.set_cons_succ]; replace hCl := hCl'; clear hCl'
          refine T.qT 1 (some 45) ?v9 rfl rfl hCl ?hy9 (fun hCl' => ?_)
          case hy9 => (intro w hSw; refine T.qVal ?_ hSw; (try dsimp only [List.getElem_toArray, List.getElem_cons_succ, List.getElem_cons_zero]); go_simp; try with_reducible rfl)
          simp only [Act.put, List.setIfInBounds_toArray, List.set_cons_zero, List.set_cons_succ]; replace hCl := hCl'; clear hCl'
          refine T.qT 3 (some 47) ?v10 rfl rfl hCl ?hy10 (fun hCl' => ?_)
          case hy10 => (intro w hSw; refine T.qVal ?_ hSw; (try dsimp only [List.getElem_toArray, List.getElem_cons_succ, List.getElem_cons_zero]); go_simp; try with_reducible rfl)
          simp only [Act.put, List.setIfInBounds_toArray, List.set_cons_zero, List.set_cons_succ]; replace hCl := hCl'; clear hCl'
          refine T.qT 2 (some 46) ?v11 rfl rfl hCl ?hy11 (fun hCl' => ?_)
          case hy11 => (intro w hSw; refine T.qVal ?_ hSw; (have fF53 := F53.out w hSw; have fF54 := F54.out w hSw); (try dsimp only [List.getElem_toArray, List.getElem_cons_succ, List.getElem_cons_zero]); go_simp; try with_reducible rfl)
          simp only [Act.put, List.setIfInBounds_toArray, List.set_cons_zero, List.set_cons_succ]; replace hCl := hCl'; clear hCl'
          refine T.qT 4 (some 48) ?v12 rfl rfl hCl ?hy12 (fun hCl' => ?_)
          case hy12 => (intro w hSw; refine T.qVal ?_ hSw; (have fF53 := F53.out w hSw; have fF54 := F54.out w hSw); (try dsimp only [List.getElem_toArray, List.getElem_cons_succ, List.getElem_cons_zero]); go_simp; try with_reducible rfl)
          simp only [Act.put, List.setIfInBounds_toArray, List.set_cons_zero, List.set_cons_succ]; replace hCl := hCl'; clear hCl'
          refine T.qT 6 (some 7) ?v13 rfl rfl hCl ?hy13 (fun hCl' => ?_)
          case hy13 => (intro w hSw; refine T.qVal ?_ hSw; (try dsimp only [List.getElem_toArray, List.getElem_cons_succ, List.getElem_cons_zero]); go_simp; try with_reducible rfl)
          simp only [Act.put, List.setIfInBounds_toArray, List.set_cons_zero, List.set_cons_succ]; replace hCl := hCl'; clear hCl'
          refine T.qT 5 (some 49) ?v14 rfl rfl hCl ?hy14 (fun hCl' => ?_)
          case hy14 => (intro w hSw; refine T.qVal ?_ hSw; (try dsimp only [List.getElem_toArray, List.getElem_cons_succ, List.getElem_cons_zero]); go_simp; try with_reducible rfl)
          simp only [Act.put, List.setIfInBounds_toArray, List.set_cons_zero, List.set_cons_succ]; replace hCl := hCl'; clear hCl'
          refine T.tail_intro (by kernel_rfl) (fun Y52 hY52 => ?_)
          replace U := U.trans hY52
          replace kC := hY52.blk kC
          replace ks := hY52.blk ks
          clear F53 F54 hY52
          refine lastG (i := 7) (by kernel_rfl) rfl (by rfl) (by decide) (fun K hK => ?_)
          go_simp
          refine hK.out _ _ ?_
          clear hK K
          refine doneG (by kernel_rfl) ?_ _
          refine S.nrm_intro ?_
          clear ks
          have HR2 := Lib.hid (show T.rbI wd (k + 1) ((k : Int)) (hi - lo) from T.rbI_in (.inr (by rw [← HLL.out, HDK.out]; omega)) rfl HDK.out.symm)
          clear HR
          go_wp2_with fail
          go_roundw
          case rel => exact ⟨k + 1, (k : Int), hi - lo, by omega, rfl, rfl, by go_num, U, kC, HR2⟩
          case measure => (simp only [intOf]; omega)
        · skip
          have dl : decide (hi - lo < ll) = false := decide_eq_false hl
          have dkCks := blk_lt kC
          have gks := U.size
          have ks := blk_new x41 (.cells #[.int .i64 lo, .int .i64 hi] 34) _ rfl
          replace kC := blk_keep (.cells #[.int .i64 lo, .int .i64 hi] 34) kC
          replace U := U.alloc (.cells #[.int .i64 lo, .int .i64 hi] 34)
          obtain ⟨pks, hpks⟩ : ∃ z, x41.heap.size = z := ⟨_, rfl⟩
          obtain ⟨W61, hW61⟩ : ∃ z, x41.alloc (.cells #[.int .i64 lo, .int .i64 hi] 34) = z := ⟨_, rfl⟩
          rw [hpks] at ks dkCks gks
          rw [hW61] at ks U kC
          skip
          have HR2 := Lib.hid (show T.rbI wd (k + 1) (bb) (ll) from T.rbI_no (by omega) (by rw [HDK.out]; omega) HR.out)
          clear HR
          go_wp2_with fail
          go_roundw
          case rel => exact ⟨k + 1, bb, ll, by omega, rfl, rfl, by go_num, U, kC, HR2⟩
          case measure => (simp only [intOf]; omega)
    · skip
      obtain rfl : k = rs.length := by omega
      have hz : ((rs.length : Int) == 0) = false := by rw [beq_eq_false_iff_ne]; omega
      have h0' : ¬ (rs.length : Int) = 0 := by omega
      have dk : decide ((rs.length : Int) < (rs.length : Int)) = false := decide_eq_false (by omega)
      obtain ⟨rfl, rfl⟩ : bb = (T.bst wd rs.length).1 ∧ ll = (T.bst wd rs.length).2 := by
        rcases HR.out with ⟨a, _⟩ | ⟨_, a⟩
        · omega
        · exact a
      go_wp2
      go_ret3
      exact ⟨rfl, U⟩
end

end Go.Proofs.Ytonklhfpjooheaa
