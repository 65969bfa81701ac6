import Derived.Test.YtonklhfpjooheaaRmo
import Derived.Test.YtonklhfpjooheaaRck
import Derived.Test.YtonklhfpjooheaaTeR
import Derived.Test.YtonklhfpjooheaaHsI
import Derived.Test.YtonklhfpjooheaaHeQ
/- The contract of the reference's IsTruth. -/
namespace Go.Proofs.Ytonklhfpjooheaa
open Go.RowKit Go.Shelf
attribute [local go_sem] Oper.semAt_some

section
variable {H : Nat} {rs : T.LR} {os : T.LO} {ps : T.LP} {rows : List (List Int)}
/-- what is asked of an offset by itself, and beside the one before -/
def T.okAt (rs : T.LR) (os : T.LO) (rows : List (List Int)) (k h : Nat) : Prop :=
  (-100000 ≤ (rows.getD k []).getD h 0 ∧ (rows.getD k []).getD h 0 ≤ 100000) ∧ (0 < h → T.In (T.grw rs os k ((h - 1 : Nat) : Int)) ((rows.getD k []).getD h 0 - (rows.getD k []).getD (h - 1) 0))
theorem T.offs_at {k h : Nat} (hk : k < rows.length) : T.offs rows ((k : Int), (h : Int)) = (rows.getD k []).getD h 0 := by
  unfold T.offs T.offsTo
  rw [if_neg (by show ¬ (k : Int) < 0; omega), if_pos (.inl (by show (k : Int) < rows.length; omega))]
  rfl
/-- what a comparison asks -/
def T.okCmp (rows : List (List Int)) (x : Int × Int × Int × Int × Int) : Prop := T.In x.2.2.2 (T.offs rows (x.2.1, x.1) - T.offs rows (x.2.2.1, if x.2.2.1 = -1 then 0 else x.1))
theorem T.tr_parts (hl : rows.length = rs.length) : T.Tr H rs os ps (T.offs rows) ↔ (∀ k h : Nat, k < rs.length → h ≤ H → T.okAt rs os rows k h) ∧ ∀ x ∈ ps, T.okCmp rows x := by
  constructor
  · intro t
    refine ⟨fun k h hk hh => ⟨?_, fun h0 => ?_⟩, fun x hx => t.cmp x hx (T.has_none _) (T.has_none _)⟩
    · have q := t.lim (k : Int) (h : Int) (by omega) (by omega) (by omega) (by omega)
      rw [T.offs_at (by omega), T.offs0] at q
      unfold T.In at q
      simp only at q
      omega
    · have q := t.grow (k : Int) ((h - 1 : Nat) : Int) (by omega) (by omega) (by omega) (by omega)
      rw [show ((h - 1 : Nat) : Int) + 1 = (h : Int) by omega, T.offs_at (by omega), T.offs_at (by omega)] at q
      exact q
  · intro ⟨p, q⟩
    refine ⟨fun k h a b c d => ?_, fun k h a b c d => ?_, fun x hx _ _ => q x hx⟩
    · obtain ⟨k, rfl⟩ := Int.eq_ofNat_of_zero_le a
      obtain ⟨h, rfl⟩ := Int.eq_ofNat_of_zero_le c
      have := (p k h (by omega) (by omega)).1
      rw [T.offs_at (by omega), T.offs0]
      unfold T.In
      simp only
      omega
    · obtain ⟨k, rfl⟩ := Int.eq_ofNat_of_zero_le a
      obtain ⟨h, rfl⟩ := Int.eq_ofNat_of_zero_le c
      have := (p k (h + 1) (by omega) (by omega)).2 (by omega)
      rw [show (h : Int) + 1 = ((h + 1 : Nat) : Int) by omega, T.offs_at (by omega), T.offs_at (by omega)]
      exact this
variable {aR aO aP aV : Option Addr} {nR cR nO cO nP cP nV cV : Nat}
set_option maxRecDepth 100000 in
set_option maxHeartbeats 4000000 in
set_option linter.unusedSimpArgs false in
theorem r_IsTruth_any {w : World} (G : T.Good H rs os ps) (I : Sps w (.slice aR nR cR) rs) (IO : Ops w (.slice aO nO cO) os) (IP : Prs w (.slice aP nP cP) ps) (IV : T.Rows w (.slice aV nV cV) rows) :
    Calls Try.prog 16 #[ClV H (.slice aR nR cR) (.slice aO nO cO) (.slice aP nP cP), .slice aV nV cV] w fun e w' => (∃ r, e = .returned (.tuple #[.bool r, .int .i64 0]) ∧ (r = true ↔ ((rows.length = rs.length ∧ ∀ x ∈ rows, x.length = H + 1) ∧ T.Tr H rs os ps (T.offs rows)))) ∧ Up w w' := by
  have hn := I.len
  subst hn
  have hnp := IP.len
  subst hnp
  obtain ⟨av, cv, eV, v1, v2, hrw⟩ := IV.is
  injection eV with e1 e2 e3
  subst e1 e2 e3
  have q1 := G.h1
  have q2 := G.h2
  have q3 := G.r1
  have q4 := G.r2
  have hmx : Try.prog.follows .mixedOrders = true := by kernel_rfl
  have wH : IntKind.i64.wrap ((H : Int) + 1) = (H : Int) + 1 := IntWalk.i64_in _ (by omega)
  have HC := Lib.hid (fun w' (u : Up w w') => show Calls Try.prog 18 #[ClV (H : Int) (.slice aR rs.length cR) (.slice aO nO cO) (.slice aP ps.length cP)] w' fun e w'' => e = .returned (.int .i64 0) ∧ Up w' w'' by have := r_Check_any (Hi := (H : Int)) (I.up u) (IO.up u) (IP.up u); rwa [if_neg (by rw [T.valid_good.2 G]; decide)] at this)
  have HGr := Lib.hid (fun w' (u : Up w w') (k h : Nat) (hk : k < rs.length) => r_grows_any (aP := aP) (nP := ps.length) (cP := cP) G (h := h) hk (I.up u) (IO.up u))
  have HP := Lib.hid (fun w' (u : Up w w') => IP.up u)
  have HG := Lib.hid G
  have HRW := Lib.hid hrw
  have HV1 := Lib.hid (And.intro v1 v2)
  clear G I IO IP IV hrw v1
  go_enter Try.func16, Try.ntmps16
  obtain ⟨q0, e0⟩ : ∃ x, w.heap.size = x := ⟨_, rfl⟩
  have U := (Up.refl w).alloc (.cells #[.int .i64 H, .slice aR rs.length cR, .slice aO nO cO, .slice aP ps.length cP] 26)
  have kC := blk_new w (.cells #[.int .i64 H, .slice aR rs.length cR, .slice aO nO cO, .slice aP ps.length cP] 26) q0 e0.symm
  go_wp2_with fail
  refine (HC.out _ U).mono ?_
  rintro e x1 ⟨rfl, u2⟩
  replace U := U.trans u2
  replace kC := u2.blk kC
  clear u2 HC
  by_cases hlen : rows.length = rs.length
  · skip
    have f0 : ((rows.length : Int) == (rs.length : Int)) = true := by rw [beq_iff_eq]; omega
    have f1 : ((rows.length : Int) != (rs.length : Int)) = false := by simp [hlen]
    obtain ⟨gV, oV, hga, hgl, hx⟩ := HRW.out (by omega)
    subst hga
    have HX := Lib.hid hx
    have HLn := Lib.hid hlen
    obtain ⟨n, hnn⟩ : ∃ n, rows.length = n := ⟨_, rfl⟩
    have hn5 : n ≤ 5 := by omega
    rw [hnn] at f0 f1 v2 ⊢
    have HN := Lib.hid hnn
    clear hx hlen HRW hnn
    go_wp2_with fail
    go_loopw [7] (fun i wr => ∃ (k : Nat), k ≤ n ∧ i = .int .i64 k ∧ Up w wr ∧ mblk wr q0 = some (.cells #[.int .i64 H, .slice aR rs.length cR, .slice aO nO cO, .slice aP ps.length cP] 26 (0, 0)) ∧ Hid (∀ j, j < k → (rows.getD j []).length = H + 1 ∧ ∀ h, h ≤ H → T.okAt rs os rows j h)) (fun i _ => n - (intOf i).toNat)
    case atStart => exact ⟨0, Nat.zero_le _, rfl, U, kC, Lib.hid (fun j hj => absurd hj (Nat.not_lt_zero j))⟩
    case round =>
      clear U kC
      obtain ⟨k, hk, rfl, U, kC, HA⟩ := hrel
      by_cases hlt : k < n
      · skip
        have d1 : decide ((k : Int) < (n : Int)) = true := decide_eq_true (by omega)
        have ilt : (k : Int) < (n : Int) := by omega
        have ek : IntKind.i64.wrap ((k : Int) + 1) = (k : Int) + 1 := IntWalk.i64_in _ (by omega)
        have hkr : k < rs.length := by have := HN.out; have := HLn.out; omega
        obtain ⟨u1, cu, IL⟩ := HX.out k (by have := HN.out; omega)
        obtain ⟨ak, ck, rfl, lk1, lk2, hmk⟩ := IL.is
        obtain ⟨len, hlen⟩ : ∃ z, (rows.getD k []).length = z := ⟨_, rfl⟩
        rw [hlen] at hmk cu lk2
        have HLE := Lib.hid hlen
        have HMK := Lib.hid hmk
        have cu' := U.cell2 cu
        have HCU := Lib.hid (fun w' (u : Up w w') => u.cell2 cu)
        clear IL hmk hlen cu lk1
        have Uz := Up.refl wr
        go_wp2_with fail
        clear cu'
        have HUw := Lib.hid U
        have F12 := Lib.hid (fun w (u : Up wr w) => cellB (u.blk kC))
        refine (wpIn_wide (n := 5)).1 ?_
        refine wpIn_nrm ?_
        refine T.regionQ (fun w' => Up wr w') 8 1 hmx (by kernel_rfl) (by kernel_rfl) ((Up.refl wr).drew) (fun hCl => ?_)
        refine T.qT 0 (some 29) ?v1 rfl rfl hCl ?hy1 (fun hCl' => ?_)
        case hy1 => (intro w hSw; refine T.qVal ?_ hSw; (try dsimp only [List.getElem_toArray, List.getElem_cons_succ, List.getElem_cons_zero]); go_simp; try with_reducible rfl)
        simp only [Act.put, List.setIfInBounds_toArray, List.set_cons_zero, List.set_cons_succ]; replace hCl := hCl'; clear hCl'
        refine T.qT 1 (some 30) ?v2 rfl rfl hCl ?hy2 (fun hCl' => ?_)
        case hy2 => (intro w hSw; refine T.qVal ?_ hSw; (try dsimp only [List.getElem_toArray, List.getElem_cons_succ, List.getElem_cons_zero]); go_simp; try with_reducible rfl)
        simp only [Act.put, List.setIfInBounds_toArray, List.set_cons_zero, List.set_cons_succ]; replace hCl := hCl'; clear hCl'
        refine T.qT 5 (some 34) ?v3 rfl rfl hCl ?hy3 (fun hCl' => ?_)
        case hy3 => (intro w hSw; refine T.qVal ?_ hSw; (try dsimp only [List.getElem_toArray, List.getElem_cons_succ, List.getElem_cons_zero]); go_simp; try with_reducible rfl)
        simp only [Act.put, List.setIfInBounds_toArray, List.set_cons_zero, List.set_cons_succ]; replace hCl := hCl'; clear hCl'
        refine T.qT 2 (some 31) ?v4 rfl rfl hCl ?hy4 (fun hCl' => ?_)
        case hy4 => (intro w hSw; refine T.qVal ?_ hSw; (try dsimp only [List.getElem_toArray, List.getElem_cons_succ, List.getElem_cons_zero]); go_simp; try with_reducible rfl)
        simp only [Act.put, List.setIfInBounds_toArray, List.set_cons_zero, List.set_cons_succ]; replace hCl := hCl'; clear hCl'
        refine T.qT 6 (some 35) ?v5 rfl rfl hCl ?hy5 (fun hCl' => ?_)
        case hy5 => (intro w hSw; refine T.qVal ?_ hSw; (have fF12 := F12.out w hSw; have z1 := HCU.out w (HUw.out.trans hSw)); (try dsimp only [List.getElem_toArray, List.getElem_cons_succ, List.getElem_cons_zero]); go_simp; try with_reducible rfl)
        simp only [Act.put, List.setIfInBounds_toArray, List.set_cons_zero, List.set_cons_succ]; replace hCl := hCl'; clear hCl'
        refine T.qT 3 (some 32) ?v6 rfl rfl hCl ?hy6 (fun hCl' => ?_)
        case hy6 => (intro w hSw; refine T.qVal ?_ hSw; (have fF12 := F12.out w hSw; have z1 := HCU.out w (HUw.out.trans hSw)); (try dsimp only [List.getElem_toArray, List.getElem_cons_succ, List.getElem_cons_zero]); go_simp; try with_reducible rfl)
        simp only [Act.put, List.setIfInBounds_toArray, List.set_cons_zero, List.set_cons_succ]; replace hCl := hCl'; clear hCl'
        refine T.qT 7 (some 36) ?v7 rfl rfl hCl ?hy7 (fun hCl' => ?_)
        case hy7 => (intro w hSw; refine T.qVal ?_ hSw; (try dsimp only [List.getElem_toArray, List.getElem_cons_succ, List.getElem_cons_zero]); go_simp; try with_reducible rfl)
        simp only [Act.put, List.setIfInBounds_toArray, List.set_cons_zero, List.set_cons_succ]; replace hCl := hCl'; clear hCl'
        refine T.qT 4 (some 33) ?v8 rfl rfl hCl ?hy8 (fun hCl' => ?_)
        case hy8 => (intro w hSw; refine T.qVal ?_ hSw; (have fF12 := F12.out w hSw; have z1 := HCU.out w (HUw.out.trans hSw)); (try dsimp only [List.getElem_toArray, List.getElem_cons_succ, List.getElem_cons_zero]); go_simp; try with_reducible rfl)
        simp only [Act.put, List.setIfInBounds_toArray, List.set_cons_zero, List.set_cons_succ]; replace hCl := hCl'; clear hCl'
        refine T.tail_intro (by kernel_rfl) (fun Y11 hY11 => ?_)
        replace U := U.trans hY11
        replace kC := hY11.blk kC
        replace Uz := Uz.trans hY11
        clear F12 hY11
        refine lastG (i := 8) (by kernel_rfl) rfl (by rfl) (by decide) (fun K hK => ?_)
        go_simp
        refine hK.out _ _ ?_
        clear hK K
        refine doneG (by kernel_rfl) ?_ _
        refine S.nrm_intro ?_
        clear HUw Uz
        by_cases hl : len = H + 1
        · skip
          have f2 : ((len : Int) == (H : Int) + 1) = true := by rw [beq_iff_eq]; omega
          have f3 : ((len : Int) != (H : Int) + 1) = false := by rw [bne_eq_false_iff_eq]; omega
          obtain ⟨gk, ok, hgk, hgkl, hxk⟩ := HMK.out (by omega)
          subst hgk
          have HXK := Lib.hid hxk
          have HLL := Lib.hid hl
          clear hxk HMK hl
          simp only [f3]
          go_wp2_with fail
          go_loopw [8] (fun i wr => ∃ (h : Nat), h ≤ H + 1 ∧ i = .int .i64 h ∧ Up w wr ∧ mblk wr q0 = some (.cells #[.int .i64 H, .slice aR rs.length cR, .slice aO nO cO, .slice aP ps.length cP] 26 (0, 0)) ∧ Hid (∀ h', h' < h → T.okAt rs os rows k h')) (fun i _ => H + 1 - (intOf i).toNat)
          case atStart => exact ⟨0, Nat.zero_le _, rfl, U, kC, Lib.hid (fun j hj => absurd hj (Nat.not_lt_zero j))⟩
          case round =>
            clear U kC
            obtain ⟨h, hh, rfl, U, kC, HB⟩ := hrel
            by_cases hlt2 : h ≤ H
            · skip
              have d2 : decide ((h : Int) ≤ (H : Int)) = true := decide_eq_true (by omega)
              have ilt2 : (h : Int) ≤ (H : Int) := by omega
              have eh : IntKind.i64.wrap ((h : Int) + 1) = (h : Int) + 1 := IntWalk.i64_in _ (by omega)
              have ihH : (h : Int) < (len : Int) := by have := HLL.out; omega
              have cv := HXK.out h (by have := HLE.out; have := HLL.out; omega)
              obtain ⟨v, hv⟩ : ∃ z, (rows.getD k []).getD h 0 = z := ⟨_, rfl⟩
              rw [hv] at cv
              have HCV := Lib.hid (fun w' (u : Up w w') => And.intro (HCU.out w' u) (u.cell2 cv))
              obtain ⟨b1, hb1⟩ : ∃ q, inB v (-100000) 100000 = q := ⟨_, rfl⟩
              have HL1 := Lib.hid (fun w => show Calls Try.prog 47 #[.int .i64 v, .int .i64 (-100000), .int .i64 100000] w fun e w' => e = .returned (.bool b1) ∧ w = w' by rw [← hb1]; exact B_Lies_any _ _ _ w)
              have HVV := Lib.hid (And.intro hv hb1)
              have HUw := Lib.hid U
              clear cv hv hb1
              cases b1 with
              | false =>
                go_wp2_with fail
                have F42 := Lib.hid (fun w (u : Up wr w) => cellB (u.blk kC))
                refine (wpIn_wide (n := 5)).1 ?_
                refine wpIn_nrm ?_
                refine T.regionQ (fun w' => Up wr w') 37 1 hmx (by kernel_rfl) (by kernel_rfl) ((Up.refl wr).drew) (fun hCl => ?_)
                refine T.qT 0 (some 44) ?v9 rfl rfl hCl ?hy9 (fun hCl' => ?_)
                case hy9 => (intro w hSw; refine T.qVal ?_ hSw; (try dsimp only [List.getElem_toArray, List.getElem_cons_succ, List.getElem_cons_zero]); go_simp; try with_reducible rfl)
                simp only [Act.put, List.setIfInBounds_toArray, List.set_cons_zero, List.set_cons_succ]; replace hCl := hCl'; clear hCl'
                refine T.qT 1 (some 45) ?v10 rfl rfl hCl ?hy10 (fun hCl' => ?_)
                case hy10 => (intro w hSw; refine T.qVal ?_ hSw; (try dsimp only [List.getElem_toArray, List.getElem_cons_succ, List.getElem_cons_zero]); go_simp; try with_reducible rfl)
                simp only [Act.put, List.setIfInBounds_toArray, List.set_cons_zero, List.set_cons_succ]; replace hCl := hCl'; clear hCl'
                refine T.qT 4 (some 48) ?v11 rfl rfl hCl ?hy11 (fun hCl' => ?_)
                case hy11 => (intro w hSw; refine T.qVal ?_ hSw; (try dsimp only [List.getElem_toArray, List.getElem_cons_succ, List.getElem_cons_zero]); go_simp; try with_reducible rfl)
                simp only [Act.put, List.setIfInBounds_toArray, List.set_cons_zero, List.set_cons_succ]; replace hCl := hCl'; clear hCl'
                refine T.qT 2 (some 46) ?v12 rfl rfl hCl ?hy12 (fun hCl' => ?_)
                case hy12 => (intro w hSw; refine T.qVal ?_ hSw; (try dsimp only [List.getElem_toArray, List.getElem_cons_succ, List.getElem_cons_zero]); go_simp; try with_reducible rfl)
                simp only [Act.put, List.setIfInBounds_toArray, List.set_cons_zero, List.set_cons_succ]; replace hCl := hCl'; clear hCl'
                refine T.qT 3 (some 47) ?v13 rfl rfl hCl ?hy13 (fun hCl' => ?_)
                case hy13 => (intro w hSw; refine T.qVal ?_ hSw; (have fF42 := F42.out w hSw; obtain ⟨z1, z2⟩ := HCV.out w (HUw.out.trans hSw)); (try dsimp only [List.getElem_toArray, List.getElem_cons_succ, List.getElem_cons_zero]); go_simp; try with_reducible rfl)
                simp only [Act.put, List.setIfInBounds_toArray, List.set_cons_zero, List.set_cons_succ]; replace hCl := hCl'; clear hCl'
                refine T.qT 5 (some 49) ?v14 rfl rfl hCl ?hy14 (fun hCl' => ?_)
                case hy14 => (intro w hSw; refine T.qVal ?_ hSw; (try dsimp only [List.getElem_toArray, List.getElem_cons_succ, List.getElem_cons_zero]); go_simp; try with_reducible rfl)
                simp only [Act.put, List.setIfInBounds_toArray, List.set_cons_zero, List.set_cons_succ]; replace hCl := hCl'; clear hCl'
                refine T.qT 6 (some 50) ?v15 rfl rfl hCl ?hy15 (fun hCl' => ?_)
                case hy15 => (intro w hSw; refine T.qVal ?_ hSw; (have fF42 := F42.out w hSw; obtain ⟨z1, z2⟩ := HCV.out w (HUw.out.trans hSw)); (try dsimp only [List.getElem_toArray, List.getElem_cons_succ, List.getElem_cons_zero]); go_simp; try with_reducible rfl)
                simp only [Act.put, List.setIfInBounds_toArray, List.set_cons_zero, List.set_cons_succ]; replace hCl := hCl'; clear hCl'
                refine T.qT 7 (some 51) ((.bool false)) rfl rfl hCl ?hy16 (fun hCl' => ?_)
                case hy16 => (intro w hSw; (have fF42 := F42.out w hSw; obtain ⟨z1, z2⟩ := HCV.out w (HUw.out.trans hSw)); (try dsimp only [List.getElem_toArray, List.getElem_cons_succ, List.getElem_cons_zero]); go_simp; (refine (callsIn_wide.2 (HL1.out w)).mono ?_; rintro e w3 ⟨rfl, rfl⟩; exact ⟨rfl, hSw⟩))
                simp only [Act.put, List.setIfInBounds_toArray, List.set_cons_zero, List.set_cons_succ]
                replace hCl := hCl'; clear hCl'
                refine T.qT 8 (some 52) ?v17 rfl rfl hCl ?hy17 (fun hCl' => ?_)
                case hy17 => (intro w hSw; refine T.qVal ?_ hSw; (try dsimp only [List.getElem_toArray, List.getElem_cons_succ, List.getElem_cons_zero]); go_simp; try with_reducible rfl)
                simp only [Act.put, List.setIfInBounds_toArray, List.set_cons_zero, List.set_cons_succ]; replace hCl := hCl'; clear hCl'
                refine T.qT 9 (some 53) ?v18 rfl rfl hCl ?hy18 (fun hCl' => ?_)
                case hy18 => (intro w hSw; refine T.qVal ?_ hSw; (try dsimp only [List.getElem_toArray, List.getElem_cons_succ, List.getElem_cons_zero]); go_simp; try with_reducible rfl)
                simp only [Act.put, List.setIfInBounds_toArray, List.set_cons_zero, List.set_cons_succ]; replace hCl := hCl'; clear hCl'
                refine T.qS 10 (some 54) rfl rfl hCl (fun hCl' => ?_)
                simp only [Act.put, List.setIfInBounds_toArray, List.set_cons_zero, List.set_cons_succ]; replace hCl := hCl'; clear hCl'
                refine T.qS 11 (some 55) rfl rfl hCl (fun hCl' => ?_)
                simp only [Act.put, List.setIfInBounds_toArray, List.set_cons_zero, List.set_cons_succ]; replace hCl := hCl'; clear hCl'
                refine T.qS 12 (some 56) rfl rfl hCl (fun hCl' => ?_)
                simp only [Act.put, List.setIfInBounds_toArray, List.set_cons_zero, List.set_cons_succ]; replace hCl := hCl'; clear hCl'
                refine T.qS 13 (some 57) rfl rfl hCl (fun hCl' => ?_)
                simp only [Act.put, List.setIfInBounds_toArray, List.set_cons_zero, List.set_cons_succ]; replace hCl := hCl'; clear hCl'
                refine T.qS 14 (some 58) rfl rfl hCl (fun hCl' => ?_)
                simp only [Act.put, List.setIfInBounds_toArray, List.set_cons_zero, List.set_cons_succ]; replace hCl := hCl'; clear hCl'
                refine T.qS 15 (some 59) rfl rfl hCl (fun hCl' => ?_)
                simp only [Act.put, List.setIfInBounds_toArray, List.set_cons_zero, List.set_cons_succ]; replace hCl := hCl'; clear hCl'
                refine T.qS 18 (some 62) rfl rfl hCl (fun hCl' => ?_)
                simp only [Act.put, List.setIfInBounds_toArray, List.set_cons_zero, List.set_cons_succ]; replace hCl := hCl'; clear hCl'
                refine T.qS 19 (some 63) rfl rfl hCl (fun hCl' => ?_)
                simp only [Act.put, List.setIfInBounds_toArray, List.set_cons_zero, List.set_cons_succ]; replace hCl := hCl'; clear hCl'
                refine T.qS 22 (some 66) rfl rfl hCl (fun hCl' => ?_)
                simp only [Act.put, List.setIfInBounds_toArray, List.set_cons_zero, List.set_cons_succ]; replace hCl := hCl'; clear hCl'
                refine T.qS 25 (some 69) rfl rfl hCl (fun hCl' => ?_)
                simp only [Act.put, List.setIfInBounds_toArray, List.set_cons_zero, List.set_cons_succ]; replace hCl := hCl'; clear hCl'
                refine T.qS 26 (some 70) rfl rfl hCl (fun hCl' => ?_)
                simp only [Act.put, List.setIfInBounds_toArray, List.set_cons_zero, List.set_cons_succ]; replace hCl := hCl'; clear hCl'
                refine T.qS 29 (some 73) rfl rfl hCl (fun hCl' => ?_)
                simp only [Act.put, List.setIfInBounds_toArray, List.set_cons_zero, List.set_cons_succ]; replace hCl := hCl'; clear hCl'
                refine T.qS 16 (some 60) rfl rfl hCl (fun hCl' => ?_)
                simp only [Act.put, List.setIfInBounds_toArray, List.set_cons_zero, List.set_cons_succ]; replace hCl := hCl'; clear hCl'
                refine T.qS 20 (some 64) rfl rfl hCl (fun hCl' => ?_)
                simp only [Act.put, List.setIfInBounds_toArray, List.set_cons_zero, List.set_cons_succ]; replace hCl := hCl'; clear hCl'
                refine T.qS 27 (some 71) rfl rfl hCl (fun hCl' => ?_)
                simp only [Act.put, List.setIfInBounds_toArray, List.set_cons_zero, List.set_cons_succ]; replace hCl := hCl'; clear hCl'
                refine T.qS 30 (some 74) rfl rfl hCl (fun hCl' => ?_)
                simp only [Act.put, List.setIfInBounds_toArray, List.set_cons_zero, List.set_cons_succ]; replace hCl := hCl'; clear hCl'
                refine T.qS 17 (some 61) rfl rfl hCl (fun hCl' => ?_)
                simp only [Act.put, List.setIfInBounds_toArray, List.set_cons_zero, List.set_cons_succ]; replace hCl := hCl'; clear hCl'
                refine T.qS 21 (some 65) rfl rfl hCl (fun hCl' => ?_)
                simp only [Act.put, List.setIfInBounds_toArray, List.set_cons_zero, List.set_cons_succ]; replace hCl := hCl'; clear hCl'
                refine T.qS 28 (some 72) rfl rfl hCl (fun hCl' => ?_)
                simp only [Act.put, List.setIfInBounds_toArray, List.set_cons_zero, List.set_cons_succ]; replace hCl := hCl'; clear hCl'
                refine T.qS 23 (some 67) rfl rfl hCl (fun hCl' => ?_)
                simp only [Act.put, List.setIfInBounds_toArray, List.set_cons_zero, List.set_cons_succ]; replace hCl := hCl'; clear hCl'
                refine T.qS 31 (some 75) rfl rfl hCl (fun hCl' => ?_)
                simp only [Act.put, List.setIfInBounds_toArray, List.set_cons_zero, List.set_cons_succ]; replace hCl := hCl'; clear hCl'
                refine T.qS 24 (some 68) rfl rfl hCl (fun hCl' => ?_)
                simp only [Act.put, List.setIfInBounds_toArray, List.set_cons_zero, List.set_cons_succ]; replace hCl := hCl'; clear hCl'
                refine T.qS 32 (some 76) rfl rfl hCl (fun hCl' => ?_)
                simp only [Act.put, List.setIfInBounds_toArray, List.set_cons_zero, List.set_cons_succ]; replace hCl := hCl'; clear hCl'
                refine T.qS 33 (some 77) rfl rfl hCl (fun hCl' => ?_)
                simp only [Act.put, List.setIfInBounds_toArray, List.set_cons_zero, List.set_cons_succ]; replace hCl := hCl'; clear hCl'
                refine T.qS 34 (some 78) rfl rfl hCl (fun hCl' => ?_)
                simp only [Act.put, List.setIfInBounds_toArray, List.set_cons_zero, List.set_cons_succ]; replace hCl := hCl'; clear hCl'
                refine T.qS 35 (some 79) rfl rfl hCl (fun hCl' => ?_)
                simp only [Act.put, List.setIfInBounds_toArray, List.set_cons_zero, List.set_cons_succ]; replace hCl := hCl'; clear hCl'
                refine T.qS 36 (some 80) rfl rfl hCl (fun hCl' => ?_)
                simp only [Act.put, List.setIfInBounds_toArray, List.set_cons_zero, List.set_cons_succ]; replace hCl := hCl'; clear hCl'
                refine T.tail_intro (by kernel_rfl) (fun Y41 hY41 => ?_)
                replace U := U.trans hY41
                replace kC := hY41.blk kC
                clear F42 hY41
                refine lastG (i := 37) (by kernel_rfl) rfl (by rfl) (by decide) (fun K hK => ?_)
                go_simp
                refine hK.out _ _ ?_
                clear hK K
                refine doneG (by kernel_rfl) ?_ _
                refine S.nrm_intro ?_
                have HNo := Lib.hid (show ((rows.length = rs.length ∧ ∀ x ∈ rows, x.length = H + 1) ∧ T.Tr H rs os ps (T.offs rows)) → False from fun q => by
                  have := (((T.tr_parts q.1.1).1 q.2).1 k h hkr hlt2).1
                  have e := HVV.out.2
                  rw [HVV.out.1] at this
                  rw [inB_yes this.1 this.2] at e
                  cases e)
                have HU := Lib.hid U
                go_wp2
                go_ret2
                exact ⟨⟨false, rfl, ⟨fun h => (by cases h), fun h => (HNo.out h).elim⟩⟩, HU.out⟩
              | true =>
                have iv := inB_iff.1 HVV.out.2
                by_cases hh0 : h = 0
                · skip
                  subst hh0
                  have ihz : 0 < len := by have := HLL.out; omega
                  have d3 : decide (((0 : Nat) : Int) > 0) = false := by decide
                  have d3' : decide ((0 : Int) > 0) = false := by decide
                  go_wp2_with fail
                  have F52 := Lib.hid (fun w (u : Up wr w) => cellB (u.blk kC))
                  refine (wpIn_wide (n := 5)).1 ?_
                  refine wpIn_nrm ?_
                  refine T.regionQ (fun w' => Up wr w') 37 1 hmx (by kernel_rfl) (by kernel_rfl) ((Up.refl wr).drew) (fun hCl => ?_)
                  refine T.qT 0 (some 44) ?v46 rfl rfl hCl ?hy46 (fun hCl' => ?_)
                  case hy46 => (intro w hSw; refine T.qVal ?_ hSw; (try dsimp only [List.getElem_toArray, List.getElem_cons_succ, List.getElem_cons_zero]); go_simp; try with_reducible rfl)
                  simp only [Act.put, List.setIfInBounds_toArray, List.set_cons_zero, List.set_cons_succ]; replace hCl := hCl'; clear hCl'
                  refine T.qT 1 (some 45) ?v47 rfl rfl hCl ?hy47 (fun hCl' => ?_)
                  case hy47 => (intro w hSw; refine T.qVal ?_ hSw; (try dsimp only [List.getElem_toArray, List.getElem_cons_succ, List.getElem_cons_zero]); go_simp; try with_reducible rfl)
                  simp only [Act.put, List.setIfInBounds_toArray, List.set_cons_zero, List.set_cons_succ]; replace hCl := hCl'; clear hCl'
                  refine T.qT 4 (some 48) ?v48 rfl rfl hCl ?hy48 (fun hCl' => ?_)
                  case hy48 => (intro w hSw; refine T.qVal ?_ hSw; (try dsimp only [List.getElem_toArray, List.getElem_cons_succ, List.getElem_cons_zero]); go_simp; try with_reducible rfl)
                  simp only [Act.put, List.setIfInBounds_toArray, List.set_cons_zero, List.set_cons_succ]; replace hCl := hCl'; clear hCl'
                  refine T.qT 2 (some 46) ?v49 rfl rfl hCl ?hy49 (fun hCl' => ?_)
                  case hy49 => (intro w hSw; refine T.qVal ?_ hSw; (try dsimp only [List.getElem_toArray, List.getElem_cons_succ, List.getElem_cons_zero]); go_simp; try with_reducible rfl)
                  simp only [Act.put, List.setIfInBounds_toArray, List.set_cons_zero, List.set_cons_succ]; replace hCl := hCl'; clear hCl'
                  refine T.qT 3 (some 47) ?v50 rfl rfl hCl ?hy50 (fun hCl' => ?_)
                  case hy50 => (intro w hSw; refine T.qVal ?_ hSw; (have fF52 := F52.out w hSw; obtain ⟨z1, z2⟩ := HCV.out w (HUw.out.trans hSw); rw [Nat.add_zero] at z2); (try dsimp only [List.getElem_toArray, List.getElem_cons_succ, List.getElem_cons_zero]); go_simp; try with_reducible rfl)
                  simp only [Act.put, List.setIfInBounds_toArray, List.set_cons_zero, List.set_cons_succ]; replace hCl := hCl'; clear hCl'
                  refine T.qT 5 (some 49) ?v51 rfl rfl hCl ?hy51 (fun hCl' => ?_)
                  case hy51 => (intro w hSw; refine T.qVal ?_ hSw; (try dsimp only [List.getElem_toArray, List.getElem_cons_succ, List.getElem_cons_zero]); go_simp; try with_reducible rfl)
                  simp only [Act.put, List.setIfInBounds_toArray, List.set_cons_zero, List.set_cons_succ]; replace hCl := hCl'; clear hCl'
                  refine T.qT 6 (some 50) ?v52 rfl rfl hCl ?hy52 (fun hCl' => ?_)
                  case hy52 => (intro w hSw; refine T.qVal ?_ hSw; (have fF52 := F52.out w hSw; obtain ⟨z1, z2⟩ := HCV.out w (HUw.out.trans hSw); rw [Nat.add_zero] at z2); (try dsimp only [List.getElem_toArray, List.getElem_cons_succ, List.getElem_cons_zero]); go_simp; try with_reducible rfl)
                  simp only [Act.put, List.setIfInBounds_toArray, List.set_cons_zero, List.set_cons_succ]; replace hCl := hCl'; clear hCl'
                  refine T.qT 7 (some 51) ((.bool true)) rfl rfl hCl ?hy53 (fun hCl' => ?_)
                  case hy53 => (intro w hSw; (have fF52 := F52.out w hSw; obtain ⟨z1, z2⟩ := HCV.out w (HUw.out.trans hSw); rw [Nat.add_zero] at z2); (try dsimp only [List.getElem_toArray, List.getElem_cons_succ, List.getElem_cons_zero]); go_simp; (refine (callsIn_wide.2 (HL1.out w)).mono ?_; rintro e w3 ⟨rfl, rfl⟩; exact ⟨rfl, hSw⟩))
                  simp only [Act.put, List.setIfInBounds_toArray, List.set_cons_zero, List.set_cons_succ]
                  replace hCl := hCl'; clear hCl'
                  refine T.qT 8 (some 52) ?v54 rfl rfl hCl ?hy54 (fun hCl' => ?_)
                  case hy54 => (intro w hSw; refine T.qVal ?_ hSw; (try dsimp only [List.getElem_toArray, List.getElem_cons_succ, List.getElem_cons_zero]); go_simp; try with_reducible rfl)
                  simp only [Act.put, List.setIfInBounds_toArray, List.set_cons_zero, List.set_cons_succ]; replace hCl := hCl'; clear hCl'
                  refine T.qT 9 (some 53) ?v55 rfl rfl hCl ?hy55 (fun hCl' => ?_)
                  case hy55 => (intro w hSw; refine T.qVal ?_ hSw; (try dsimp only [List.getElem_toArray, List.getElem_cons_succ, List.getElem_cons_zero]); go_simp; try with_reducible rfl)
                  simp only [Act.put, List.setIfInBounds_toArray, List.set_cons_zero, List.set_cons_succ]; replace hCl := hCl'; clear hCl'
                  refine T.qT 10 (some 54) ?v56 rfl rfl hCl ?hy56 (fun hCl' => ?_)
                  case hy56 => (intro w hSw; refine T.qVal ?_ hSw; (try dsimp only [List.getElem_toArray, List.getElem_cons_succ, List.getElem_cons_zero]); go_simp; try with_reducible rfl)
                  simp only [Act.put, List.setIfInBounds_toArray, List.set_cons_zero, List.set_cons_succ]; replace hCl := hCl'; clear hCl'
                  refine T.qT 11 (some 55) ?v57 rfl rfl hCl ?hy57 (fun hCl' => ?_)
                  case hy57 => (intro w hSw; refine T.qVal ?_ hSw; (try dsimp only [List.getElem_toArray, List.getElem_cons_succ, List.getElem_cons_zero]); go_simp; try with_reducible rfl)
                  simp only [Act.put, List.setIfInBounds_toArray, List.set_cons_zero, List.set_cons_succ]; replace hCl := hCl'; clear hCl'
                  refine T.qT 12 (some 56) ?v58 rfl rfl hCl ?hy58 (fun hCl' => ?_)
                  case hy58 => (intro w hSw; refine T.qVal ?_ hSw; (try dsimp only [List.getElem_toArray, List.getElem_cons_succ, List.getElem_cons_zero]); go_simp; try with_reducible rfl)
                  simp only [Act.put, List.setIfInBounds_toArray, List.set_cons_zero, List.set_cons_succ]; replace hCl := hCl'; clear hCl'
                  refine T.qS 13 (some 57) rfl rfl hCl (fun hCl' => ?_)
                  simp only [Act.put, List.setIfInBounds_toArray, List.set_cons_zero, List.set_cons_succ]; replace hCl := hCl'; clear hCl'
                  refine T.qS 14 (some 58) rfl rfl hCl (fun hCl' => ?_)
                  simp only [Act.put, List.setIfInBounds_toArray, List.set_cons_zero, List.set_cons_succ]; replace hCl := hCl'; clear hCl'
                  refine T.qS 15 (some 59) rfl rfl hCl (fun hCl' => ?_)
                  simp only [Act.put, List.setIfInBounds_toArray, List.set_cons_zero, List.set_cons_succ]; replace hCl := hCl'; clear hCl'
                  refine T.qS 18 (some 62) rfl rfl hCl (fun hCl' => ?_)
                  simp only [Act.put, List.setIfInBounds_toArray, List.set_cons_zero, List.set_cons_succ]; replace hCl := hCl'; clear hCl'
                  refine T.qS 19 (some 63) rfl rfl hCl (fun hCl' => ?_)
                  simp only [Act.put, List.setIfInBounds_toArray, List.set_cons_zero, List.set_cons_succ]; replace hCl := hCl'; clear hCl'
                  refine T.qS 22 (some 66) rfl rfl hCl (fun hCl' => ?_)
                  simp only [Act.put, List.setIfInBounds_toArray, List.set_cons_zero, List.set_cons_succ]; replace hCl := hCl'; clear hCl'
                  refine T.qS 25 (some 69) rfl rfl hCl (fun hCl' => ?_)
                  simp only [Act.put, List.setIfInBounds_toArray, List.set_cons_zero, List.set_cons_succ]; replace hCl := hCl'; clear hCl'
                  refine T.qS 26 (some 70) rfl rfl hCl (fun hCl' => ?_)
                  simp only [Act.put, List.setIfInBounds_toArray, List.set_cons_zero, List.set_cons_succ]; replace hCl := hCl'; clear hCl'
                  refine T.qS 29 (some 73) rfl rfl hCl (fun hCl' => ?_)
                  simp only [Act.put, List.setIfInBounds_toArray, List.set_cons_zero, List.set_cons_succ]; replace hCl := hCl'; clear hCl'
                  refine T.qS 16 (some 60) rfl rfl hCl (fun hCl' => ?_)
                  simp only [Act.put, List.setIfInBounds_toArray, List.set_cons_zero, List.set_cons_succ]; replace hCl := hCl'; clear hCl'
                  refine T.qS 20 (some 64) rfl rfl hCl (fun hCl' => ?_)
                  simp only [Act.put, List.setIfInBounds_toArray, List.set_cons_zero, List.set_cons_succ]; replace hCl := hCl'; clear hCl'
                  refine T.qS 27 (some 71) rfl rfl hCl (fun hCl' => ?_)
                  simp only [Act.put, List.setIfInBounds_toArray, List.set_cons_zero, List.set_cons_succ]; replace hCl := hCl'; clear hCl'
                  refine T.qS 30 (some 74) rfl rfl hCl (fun hCl' => ?_)
                  simp only [Act.put, List.setIfInBounds_toArray, List.set_cons_zero, List.set_cons_succ]; replace hCl := hCl'; clear hCl'
                  refine T.qS 17 (some 61) rfl rfl hCl (fun hCl' => ?_)
                  simp only [Act.put, List.setIfInBounds_toArray, List.set_cons_zero, List.set_cons_succ]; replace hCl := hCl'; clear hCl'
                  refine T.qS 21 (some 65) rfl rfl hCl (fun hCl' => ?_)
                  simp only [Act.put, List.setIfInBounds_toArray, List.set_cons_zero, List.set_cons_succ]; replace hCl := hCl'; clear hCl'
                  refine T.qS 28 (some 72) rfl rfl hCl (fun hCl' => ?_)
                  simp only [Act.put, List.setIfInBounds_toArray, List.set_cons_zero, List.set_cons_succ]; replace hCl := hCl'; clear hCl'
                  refine T.qS 23 (some 67) rfl rfl hCl (fun hCl' => ?_)
                  simp only [Act.put, List.setIfInBounds_toArray, List.set_cons_zero, List.set_cons_succ]; replace hCl := hCl'; clear hCl'
                  refine T.qS 31 (some 75) rfl rfl hCl (fun hCl' => ?_)
                  simp only [Act.put, List.setIfInBounds_toArray, List.set_cons_zero, List.set_cons_succ]; replace hCl := hCl'; clear hCl'
                  refine T.qS 24 (some 68) rfl rfl hCl (fun hCl' => ?_)
                  simp only [Act.put, List.setIfInBounds_toArray, List.set_cons_zero, List.set_cons_succ]; replace hCl := hCl'; clear hCl'
                  refine T.qS 32 (some 76) rfl rfl hCl (fun hCl' => ?_)
                  simp only [Act.put, List.setIfInBounds_toArray, List.set_cons_zero, List.set_cons_succ]; replace hCl := hCl'; clear hCl'
                  refine T.qS 33 (some 77) rfl rfl hCl (fun hCl' => ?_)
                  simp only [Act.put, List.setIfInBounds_toArray, List.set_cons_zero, List.set_cons_succ]; replace hCl := hCl'; clear hCl'
                  refine T.qS 34 (some 78) rfl rfl hCl (fun hCl' => ?_)
                  simp only [Act.put, List.setIfInBounds_toArray, List.set_cons_zero, List.set_cons_succ]; replace hCl := hCl'; clear hCl'
                  refine T.qS 35 (some 79) rfl rfl hCl (fun hCl' => ?_)
                  simp only [Act.put, List.setIfInBounds_toArray, List.set_cons_zero, List.set_cons_succ]; replace hCl := hCl'; clear hCl'
                  refine T.qT 36 (some 80) ?v82 rfl rfl hCl ?hy82 (fun hCl' => ?_)
                  case hy82 => (intro w hSw; refine T.qVal ?_ hSw; (try dsimp only [List.getElem_toArray, List.getElem_cons_succ, List.getElem_cons_zero]); go_simp; try with_reducible rfl)
                  simp only [Act.put, List.setIfInBounds_toArray, List.set_cons_zero, List.set_cons_succ]; replace hCl := hCl'; clear hCl'
                  refine T.tail_intro (by kernel_rfl) (fun Y51 hY51 => ?_)
                  replace U := U.trans hY51
                  replace kC := hY51.blk kC
                  clear F52 hY51
                  refine lastG (i := 37) (by kernel_rfl) rfl (by rfl) (by decide) (fun K hK => ?_)
                  go_simp
                  refine hK.out _ _ ?_
                  clear hK K
                  refine doneG (by kernel_rfl) ?_ _
                  refine S.nrm_intro ?_
                  have HOK := Lib.hid (show T.okAt rs os rows k 0 from ⟨by rw [HVV.out.1]; exact iv, fun c => absurd c (by omega)⟩)
                  have HB2 := Lib.hid (show ∀ h', h' < 0 + 1 → T.okAt rs os rows k h' from fun h' q => by
                    by_cases e : h' = 0
                    · subst e
                      exact HOK.out
                    · exact HB.out h' (by omega))
                  clear HB
                  go_wp2_with fail
                  go_roundw
                  case rel => exact ⟨0 + 1, by omega, by go_num, U, kC, HB2⟩
                  case measure => (simp only [intOf]; omega)
                · skip
                  have d3 : decide ((h : Int) > 0) = true := decide_eq_true (by omega)
                  have f5 : (0 : Int) < (h : Int) := by omega
                  have d3n : decide (0 < h) = true := decide_eq_true (by omega)
                  have f5n : 0 < h := by omega
                  obtain ⟨h', hh'⟩ : ∃ h', h - 1 = h' := ⟨_, rfl⟩
                  have wh : IntKind.i64.wrap ((h : Int) - 1) = (h' : Int) := by rw [show (h : Int) - 1 = (h' : Int) by omega]; exact IntWalk.i64_in _ (by omega)
                  have ih' : (h' : Int) < (len : Int) := by have := HLL.out; omega
                  have hlt' : h' < h := by omega
                  have cv := HXK.out h' (by have := HLE.out; have := HLL.out; omega)
                  obtain ⟨v', hv'⟩ : ∃ z, (rows.getD k []).getD h' 0 = z := ⟨_, rfl⟩
                  rw [hv'] at cv
                  have iv' := (HB.out h' hlt').1
                  rw [hv'] at iv'
                  have HCW := Lib.hid (fun w' (u : Up w w') => u.cell2 cv)
                  obtain ⟨lo, hlo⟩ : ∃ x, (T.grw rs os (k : Int) (h' : Int)).1 = x := ⟨_, rfl⟩
                  obtain ⟨hi, hhi⟩ : ∃ x, (T.grw rs os (k : Int) (h' : Int)).2 = x := ⟨_, rfl⟩
                  have HGk := Lib.hid (fun w' (u : Up w w') => show Calls Try.prog 48 #[ClV H (.slice aR rs.length cR) (.slice aO nO cO) (.slice aP ps.length cP), .int .i64 (k : Int), .int .i64 (h' : Int)] w' fun e w'' => e = .returned (SpV lo hi) ∧ Up w' w'' by rw [← hlo, ← hhi]; exact HGr.out w' u k h' hkr)
                  obtain ⟨qv, hqv⟩ : ∃ q, inB (v - v') lo hi = q := ⟨_, rfl⟩
                  have HHa := Lib.hid (fun w => show Calls Try.prog 35 #[SpV lo hi, .int .i64 (v - v')] w fun e w' => e = .returned (.bool qv) ∧ Up w w' by rw [← hqv]; exact B_Has_any _ _ _ w)
                  have wv : IntKind.i64.wrap (v - v') = v - v' := IntWalk.i64_in _ (by omega)
                  have HOK0 := Lib.hid (show T.okAt rs os rows k h ↔ qv = true by
                    unfold T.okAt
                    rw [HVV.out.1, hh', hv', ← hqv, inB_iff]
                    unfold T.In
                    rw [hlo, hhi]
                    exact ⟨fun q => q.2 (by omega), fun q => ⟨iv, fun _ => q⟩⟩)
                  clear cv hv' hlo hhi hqv hh'
                  cases qv with
                  | false =>
                    go_wp2_with fail
                    have F72 := Lib.hid (fun w (u : Up wr w) => cellB (u.blk kC))
                    refine (wpIn_wide (n := 5)).1 ?_
                    refine wpIn_nrm ?_
                    refine T.regionQ (fun w' => Up wr w') 37 1 hmx (by kernel_rfl) (by kernel_rfl) ((Up.refl wr).drew) (fun hCl => ?_)
                    refine T.qT 0 (some 44) ?v83 rfl rfl hCl ?hy83 (fun hCl' => ?_)
                    case hy83 => (intro w hSw; refine T.qVal ?_ hSw; (try dsimp only [List.getElem_toArray, List.getElem_cons_succ, List.getElem_cons_zero]); go_simp; try with_reducible rfl)
                    simp only [Act.put, List.setIfInBounds_toArray, List.set_cons_zero, List.set_cons_succ]; replace hCl := hCl'; clear hCl'
                    refine T.qT 1 (some 45) ?v84 rfl rfl hCl ?hy84 (fun hCl' => ?_)
                    case hy84 => (intro w hSw; refine T.qVal ?_ hSw; (try dsimp only [List.getElem_toArray, List.getElem_cons_succ, List.getElem_cons_zero]); go_simp; try with_reducible rfl)
                    simp only [Act.put, List.setIfInBounds_toArray, List.set_cons_zero, List.set_cons_succ]; replace hCl := hCl'; clear hCl'
                    refine T.qT 4 (some 48) ?v85 rfl rfl hCl ?hy85 (fun hCl' => ?_)
                    case hy85 => (intro w hSw; refine T.qVal ?_ hSw; (try dsimp only [List.getElem_toArray, List.getElem_cons_succ, List.getElem_cons_zero]); go_simp; try with_reducible rfl)
                    simp only [Act.put, List.setIfInBounds_toArray, List.set_cons_zero, List.set_cons_succ]; replace hCl := hCl'; clear hCl'
                    refine T.qT 2 (some 46) ?v86 rfl rfl hCl ?hy86 (fun hCl' => ?_)
                    case hy86 => (intro w hSw; refine T.qVal ?_ hSw; (try dsimp only [List.getElem_toArray, List.getElem_cons_succ, List.getElem_cons_zero]); go_simp; try with_reducible rfl)
                    simp only [Act.put, List.setIfInBounds_toArray, List.set_cons_zero, List.set_cons_succ]; replace hCl := hCl'; clear hCl'
                    refine T.qT 3 (some 47) ?v87 rfl rfl hCl ?hy87 (fun hCl' => ?_)
                    case hy87 => (intro w hSw; refine T.qVal ?_ hSw; (have fF72 := F72.out w hSw; obtain ⟨z1, z2⟩ := HCV.out w (HUw.out.trans hSw); have z3 := HCW.out w (HUw.out.trans hSw)); (try dsimp only [List.getElem_toArray, List.getElem_cons_succ, List.getElem_cons_zero]); go_simp; try with_reducible rfl)
                    simp only [Act.put, List.setIfInBounds_toArray, List.set_cons_zero, List.set_cons_succ]; replace hCl := hCl'; clear hCl'
                    refine T.qT 5 (some 49) ?v88 rfl rfl hCl ?hy88 (fun hCl' => ?_)
                    case hy88 => (intro w hSw; refine T.qVal ?_ hSw; (try dsimp only [List.getElem_toArray, List.getElem_cons_succ, List.getElem_cons_zero]); go_simp; try with_reducible rfl)
                    simp only [Act.put, List.setIfInBounds_toArray, List.set_cons_zero, List.set_cons_succ]; replace hCl := hCl'; clear hCl'
                    refine T.qT 6 (some 50) ?v89 rfl rfl hCl ?hy89 (fun hCl' => ?_)
                    case hy89 => (intro w hSw; refine T.qVal ?_ hSw; (have fF72 := F72.out w hSw; obtain ⟨z1, z2⟩ := HCV.out w (HUw.out.trans hSw); have z3 := HCW.out w (HUw.out.trans hSw)); (try dsimp only [List.getElem_toArray, List.getElem_cons_succ, List.getElem_cons_zero]); go_simp; try with_reducible rfl)
                    simp only [Act.put, List.setIfInBounds_toArray, List.set_cons_zero, List.set_cons_succ]; replace hCl := hCl'; clear hCl'
                    refine T.qT 7 (some 51) ((.bool true)) rfl rfl hCl ?hy90 (fun hCl' => ?_)
                    case hy90 => (intro w hSw; (have fF72 := F72.out w hSw; obtain ⟨z1, z2⟩ := HCV.out w (HUw.out.trans hSw); have z3 := HCW.out w (HUw.out.trans hSw)); (try dsimp only [List.getElem_toArray, List.getElem_cons_succ, List.getElem_cons_zero]); go_simp; (refine (callsIn_wide.2 (HL1.out w)).mono ?_; rintro e w3 ⟨rfl, rfl⟩; exact ⟨rfl, hSw⟩))
                    simp only [Act.put, List.setIfInBounds_toArray, List.set_cons_zero, List.set_cons_succ]
                    replace hCl := hCl'; clear hCl'
                    refine T.qT 8 (some 52) ?v91 rfl rfl hCl ?hy91 (fun hCl' => ?_)
                    case hy91 => (intro w hSw; refine T.qVal ?_ hSw; (try dsimp only [List.getElem_toArray, List.getElem_cons_succ, List.getElem_cons_zero]); go_simp; try with_reducible rfl)
                    simp only [Act.put, List.setIfInBounds_toArray, List.set_cons_zero, List.set_cons_succ]; replace hCl := hCl'; clear hCl'
                    refine T.qT 9 (some 53) ?v92 rfl rfl hCl ?hy92 (fun hCl' => ?_)
                    case hy92 => (intro w hSw; refine T.qVal ?_ hSw; (try dsimp only [List.getElem_toArray, List.getElem_cons_succ, List.getElem_cons_zero]); go_simp; try with_reducible rfl)
                    simp only [Act.put, List.setIfInBounds_toArray, List.set_cons_zero, List.set_cons_succ]; replace hCl := hCl'; clear hCl'
                    refine T.qT 10 (some 54) ?v93 rfl rfl hCl ?hy93 (fun hCl' => ?_)
                    case hy93 => (intro w hSw; refine T.qVal ?_ hSw; (try dsimp only [List.getElem_toArray, List.getElem_cons_succ, List.getElem_cons_zero]); go_simp; try with_reducible rfl)
                    simp only [Act.put, List.setIfInBounds_toArray, List.set_cons_zero, List.set_cons_succ]; replace hCl := hCl'; clear hCl'
                    refine T.qT 11 (some 55) ?v94 rfl rfl hCl ?hy94 (fun hCl' => ?_)
                    case hy94 => (intro w hSw; refine T.qVal ?_ hSw; (try dsimp only [List.getElem_toArray, List.getElem_cons_succ, List.getElem_cons_zero]); go_simp; try with_reducible rfl)
                    simp only [Act.put, List.setIfInBounds_toArray, List.set_cons_zero, List.set_cons_succ]; replace hCl := hCl'; clear hCl'
                    refine T.qT 12 (some 56) ?v95 rfl rfl hCl ?hy95 (fun hCl' => ?_)
                    case hy95 => (intro w hSw; refine T.qVal ?_ hSw; (try dsimp only [List.getElem_toArray, List.getElem_cons_succ, List.getElem_cons_zero]); go_simp; try with_reducible rfl)
                    simp only [Act.put, List.setIfInBounds_toArray, List.set_cons_zero, List.set_cons_succ]; replace hCl := hCl'; clear hCl'
                    refine T.qT 13 (some 57) ?v96 rfl rfl hCl ?hy96 (fun hCl' => ?_)
                    case hy96 => (intro w hSw; refine T.qVal ?_ hSw; (have fF72 := F72.out w hSw; obtain ⟨z1, z2⟩ := HCV.out w (HUw.out.trans hSw); have z3 := HCW.out w (HUw.out.trans hSw)); (try dsimp only [List.getElem_toArray, List.getElem_cons_succ, List.getElem_cons_zero]); go_simp; try with_reducible rfl)
                    simp only [Act.put, List.setIfInBounds_toArray, List.set_cons_zero, List.set_cons_succ]; replace hCl := hCl'; clear hCl'
                    refine T.qT 14 (some 58) ?v97 rfl rfl hCl ?hy97 (fun hCl' => ?_)
                    case hy97 => (intro w hSw; refine T.qVal ?_ hSw; (try dsimp only [List.getElem_toArray, List.getElem_cons_succ, List.getElem_cons_zero]); go_simp; try with_reducible rfl)
                    simp only [Act.put, List.setIfInBounds_toArray, List.set_cons_zero, List.set_cons_succ]; replace hCl := hCl'; clear hCl'
                    refine T.qT 15 (some 59) ?v98 rfl rfl hCl ?hy98 (fun hCl' => ?_)
                    case hy98 => (intro w hSw; refine T.qVal ?_ hSw; (try dsimp only [List.getElem_toArray, List.getElem_cons_succ, List.getElem_cons_zero]); go_simp; try with_reducible rfl)
                    simp only [Act.put, List.setIfInBounds_toArray, List.set_cons_zero, List.set_cons_succ]; replace hCl := hCl'; clear hCl'
                    refine T.qT 18 (some 62) ?v99 rfl rfl hCl ?hy99 (fun hCl' => ?_)
                    case hy99 => (intro w hSw; refine T.qVal ?_ hSw; (try dsimp only [List.getElem_toArray, List.getElem_cons_succ, List.getElem_cons_zero]); go_simp; try with_reducible rfl)
                    simp only [Act.put, List.setIfInBounds_toArray, List.set_cons_zero, List.set_cons_succ]; replace hCl := hCl'; clear hCl'
                    refine T.qT 19 (some 63) ?v100 rfl rfl hCl ?hy100 (fun hCl' => ?_)
                    case hy100 => (intro w hSw; refine T.qVal ?_ hSw; (try dsimp only [List.getElem_toArray, List.getElem_cons_succ, List.getElem_cons_zero]); go_simp; try with_reducible rfl)
                    simp only [Act.put, List.setIfInBounds_toArray, List.set_cons_zero, List.set_cons_succ]; replace hCl := hCl'; clear hCl'
                    refine T.qT 22 (some 66) ?v101 rfl rfl hCl ?hy101 (fun hCl' => ?_)
                    case hy101 => (intro w hSw; refine T.qVal ?_ hSw; (try dsimp only [List.getElem_toArray, List.getElem_cons_succ, List.getElem_cons_zero]); go_simp; try with_reducible rfl)
                    simp only [Act.put, List.setIfInBounds_toArray, List.set_cons_zero, List.set_cons_succ]; replace hCl := hCl'; clear hCl'
                    refine T.qT 25 (some 69) ?v102 rfl rfl hCl ?hy102 (fun hCl' => ?_)
                    case hy102 => (intro w hSw; refine T.qVal ?_ hSw; (try dsimp only [List.getElem_toArray, List.getElem_cons_succ, List.getElem_cons_zero]); go_simp; try with_reducible rfl)
                    simp only [Act.put, List.setIfInBounds_toArray, List.set_cons_zero, List.set_cons_succ]; replace hCl := hCl'; clear hCl'
                    refine T.qT 26 (some 70) ?v103 rfl rfl hCl ?hy103 (fun hCl' => ?_)
                    case hy103 => (intro w hSw; refine T.qVal ?_ hSw; (try dsimp only [List.getElem_toArray, List.getElem_cons_succ, List.getElem_cons_zero]); go_simp; try with_reducible rfl)
                    simp only [Act.put, List.setIfInBounds_toArray, List.set_cons_zero, List.set_cons_succ]; replace hCl := hCl'; clear hCl'
                    refine T.qT 29 (some 73) ?v104 rfl rfl hCl ?hy104 (fun hCl' => ?_)
                    case hy104 => (intro w hSw; refine T.qVal ?_ hSw; (try dsimp only [List.getElem_toArray, List.getElem_cons_succ, List.getElem_cons_zero]); go_simp; try with_reducible rfl)
                    simp only [Act.put, List.setIfInBounds_toArray, List.set_cons_zero, List.set_cons_succ]; replace hCl := hCl'; clear hCl'
                    refine T.qT 16 (some 60) ?v105 rfl rfl hCl ?hy105 (fun hCl' => ?_)
                    case hy105 => (intro w hSw; refine T.qVal ?_ hSw; (try dsimp only [List.getElem_toArray, List.getElem_cons_succ, List.getElem_cons_zero]); go_simp; try with_reducible rfl)
                    simp only [Act.put, List.setIfInBounds_toArray, List.set_cons_zero, List.set_cons_succ]; replace hCl := hCl'; clear hCl'
                    refine T.qT 20 (some 64) ?v106 rfl rfl hCl ?hy106 (fun hCl' => ?_)
                    case hy106 => (intro w hSw; refine T.qVal ?_ hSw; (try dsimp only [List.getElem_toArray, List.getElem_cons_succ, List.getElem_cons_zero]); go_simp; try with_reducible rfl)
                    simp only [Act.put, List.setIfInBounds_toArray, List.set_cons_zero, List.set_cons_succ]; replace hCl := hCl'; clear hCl'
                    refine T.qT 27 (some 71) ?v107 rfl rfl hCl ?hy107 (fun hCl' => ?_)
                    case hy107 => (intro w hSw; refine T.qVal ?_ hSw; (try dsimp only [List.getElem_toArray, List.getElem_cons_succ, List.getElem_cons_zero]); go_simp; try with_reducible rfl)
                    simp only [Act.put, List.setIfInBounds_toArray, List.set_cons_zero, List.set_cons_succ]; replace hCl := hCl'; clear hCl'
                    refine T.qT 30 (some 74) ?v108 rfl rfl hCl ?hy108 (fun hCl' => ?_)
                    case hy108 => (intro w hSw; refine T.qVal ?_ hSw; (try dsimp only [List.getElem_toArray, List.getElem_cons_succ, List.getElem_cons_zero]); go_simp; try with_reducible rfl)
                    simp only [Act.put, List.setIfInBounds_toArray, List.set_cons_zero, List.set_cons_succ]; replace hCl := hCl'; clear hCl'
                    refine T.qT 21 (some 65) ?v109 rfl rfl hCl ?hy109 (fun hCl' => ?_)
                    case hy109 => (intro w hSw; refine T.qVal ?_ hSw; (have fF72 := F72.out w hSw; obtain ⟨z1, z2⟩ := HCV.out w (HUw.out.trans hSw); have z3 := HCW.out w (HUw.out.trans hSw)); (try dsimp only [List.getElem_toArray, List.getElem_cons_succ, List.getElem_cons_zero]); go_simp; try with_reducible rfl)
                    simp only [Act.put, List.setIfInBounds_toArray, List.set_cons_zero, List.set_cons_succ]; replace hCl := hCl'; clear hCl'
                    refine T.qT 28 (some 72) ?v110 rfl rfl hCl ?hy110 (fun hCl' => ?_)
                    case hy110 => (intro w hSw; refine T.qVal ?_ hSw; (have fF72 := F72.out w hSw; obtain ⟨z1, z2⟩ := HCV.out w (HUw.out.trans hSw); have z3 := HCW.out w (HUw.out.trans hSw)); (try dsimp only [List.getElem_toArray, List.getElem_cons_succ, List.getElem_cons_zero]); go_simp; try with_reducible rfl)
                    simp only [Act.put, List.setIfInBounds_toArray, List.set_cons_zero, List.set_cons_succ]; replace hCl := hCl'; clear hCl'
                    refine T.qT 23 (some 67) ?v111 rfl rfl hCl ?hy111 (fun hCl' => ?_)
                    case hy111 => (intro w hSw; refine T.qVal ?_ hSw; (try dsimp only [List.getElem_toArray, List.getElem_cons_succ, List.getElem_cons_zero]); go_simp; try with_reducible rfl)
                    simp only [Act.put, List.setIfInBounds_toArray, List.set_cons_zero, List.set_cons_succ]; replace hCl := hCl'; clear hCl'
                    refine T.qT 31 (some 75) ?v112 rfl rfl hCl ?hy112 (fun hCl' => ?_)
                    case hy112 => (intro w hSw; refine T.qVal ?_ hSw; (try dsimp only [List.getElem_toArray, List.getElem_cons_succ, List.getElem_cons_zero]); go_simp; try with_reducible rfl)
                    simp only [Act.put, List.setIfInBounds_toArray, List.set_cons_zero, List.set_cons_succ]; replace hCl := hCl'; clear hCl'
                    refine T.qT 24 (some 68) ?v113 rfl rfl hCl ?hy113 (fun hCl' => ?_)
                    case hy113 => (intro w hSw; refine T.qVal ?_ hSw; (have fF72 := F72.out w hSw; obtain ⟨z1, z2⟩ := HCV.out w (HUw.out.trans hSw); have z3 := HCW.out w (HUw.out.trans hSw)); (try dsimp only [List.getElem_toArray, List.getElem_cons_succ, List.getElem_cons_zero]); go_simp; try with_reducible rfl)
                    simp only [Act.put, List.setIfInBounds_toArray, List.set_cons_zero, List.set_cons_succ]; replace hCl := hCl'; clear hCl'
                    refine T.qT 32 (some 76) ?v114 rfl rfl hCl ?hy114 (fun hCl' => ?_)
                    case hy114 => (intro w hSw; refine T.qVal ?_ hSw; (have fF72 := F72.out w hSw; obtain ⟨z1, z2⟩ := HCV.out w (HUw.out.trans hSw); have z3 := HCW.out w (HUw.out.trans hSw)); (try dsimp only [List.getElem_toArray, List.getElem_cons_succ, List.getElem_cons_zero]); go_simp; try with_reducible rfl)
                    simp only [Act.put, List.setIfInBounds_toArray, List.set_cons_zero, List.set_cons_succ]; replace hCl := hCl'; clear hCl'
                    refine T.qT 33 (some 77) ?v115 rfl rfl hCl ?hy115 (fun hCl' => ?_)
                    case hy115 => (intro w hSw; refine T.qVal ?_ hSw; (try dsimp only [List.getElem_toArray, List.getElem_cons_succ, List.getElem_cons_zero]); go_simp; try with_reducible rfl)
                    simp only [Act.put, List.setIfInBounds_toArray, List.set_cons_zero, List.set_cons_succ]; replace hCl := hCl'; clear hCl'
                    refine T.qT 17 (some 61) ((SpV lo hi)) rfl rfl hCl ?hy116 (fun hCl' => ?_)
                    case hy116 => (intro w hSw; (have fF72 := F72.out w hSw; obtain ⟨z1, z2⟩ := HCV.out w (HUw.out.trans hSw); have z3 := HCW.out w (HUw.out.trans hSw)); (try dsimp only [List.getElem_toArray, List.getElem_cons_succ, List.getElem_cons_zero]); go_simp; (refine (callsIn_wide.2 (HGk.out w (HUw.out.trans hSw))).mono ?_; rintro e w3 ⟨rfl, u3⟩; exact ⟨rfl, hSw.trans u3⟩))
                    simp only [Act.put, List.setIfInBounds_toArray, List.set_cons_zero, List.set_cons_succ]
                    replace hCl := hCl'; clear hCl'
                    refine T.qT 34 (some 78) ((.bool false)) rfl rfl hCl ?hy117 (fun hCl' => ?_)
                    case hy117 => (intro w hSw; (have fF72 := F72.out w hSw; obtain ⟨z1, z2⟩ := HCV.out w (HUw.out.trans hSw); have z3 := HCW.out w (HUw.out.trans hSw)); (try dsimp only [List.getElem_toArray, List.getElem_cons_succ, List.getElem_cons_zero]); go_simp; (refine (callsIn_wide.2 (HHa.out w)).mono ?_; rintro e w3 ⟨rfl, u3⟩; exact ⟨rfl, hSw.trans u3⟩))
                    simp only [Act.put, List.setIfInBounds_toArray, List.set_cons_zero, List.set_cons_succ]
                    replace hCl := hCl'; clear hCl'
                    refine T.qT 35 (some 79) ?v118 rfl rfl hCl ?hy118 (fun hCl' => ?_)
                    case hy118 => (intro w hSw; refine T.qVal ?_ hSw; (try dsimp only [List.getElem_toArray, List.getElem_cons_succ, List.getElem_cons_zero]); go_simp; try with_reducible rfl)
                    simp only [Act.put, List.setIfInBounds_toArray, List.set_cons_zero, List.set_cons_succ]; replace hCl := hCl'; clear hCl'
                    refine T.qT 36 (some 80) ?v119 rfl rfl hCl ?hy119 (fun hCl' => ?_)
                    case hy119 => (intro w hSw; refine T.qVal ?_ hSw; (try dsimp only [List.getElem_toArray, List.getElem_cons_succ, List.getElem_cons_zero]); go_simp; try with_reducible rfl)
                    simp only [Act.put, List.setIfInBounds_toArray, List.set_cons_zero, List.set_cons_succ]; replace hCl := hCl'; clear hCl'
                    refine T.tail_intro (by kernel_rfl) (fun Y71 hY71 => ?_)
                    replace U := U.trans hY71
                    replace kC := hY71.blk kC
                    clear F72 hY71
                    refine lastG (i := 37) (by kernel_rfl) rfl (by rfl) (by decide) (fun K hK => ?_)
                    go_simp
                    refine hK.out _ _ ?_
                    clear hK K
                    refine doneG (by kernel_rfl) ?_ _
                    refine S.nrm_intro ?_
                    have HNo := Lib.hid (show ((rows.length = rs.length ∧ ∀ x ∈ rows, x.length = H + 1) ∧ T.Tr H rs os ps (T.offs rows)) → False from fun q => by
                      have := HOK0.out.1 (((T.tr_parts q.1.1).1 q.2).1 k h hkr hlt2)
                      cases this)
                    have HU := Lib.hid U
                    go_wp2
                    go_ret2
                    exact ⟨⟨false, rfl, ⟨fun h => (by cases h), fun h => (HNo.out h).elim⟩⟩, HU.out⟩
                  | true =>
                    go_wp2_with fail
                    have F82 := Lib.hid (fun w (u : Up wr w) => cellB (u.blk kC))
                    refine (wpIn_wide (n := 5)).1 ?_
                    refine wpIn_nrm ?_
                    refine T.regionQ (fun w' => Up wr w') 37 1 hmx (by kernel_rfl) (by kernel_rfl) ((Up.refl wr).drew) (fun hCl => ?_)
                    refine T.qT 0 (some 44) ?v120 rfl rfl hCl ?hy120 (fun hCl' => ?_)
                    case hy120 => (intro w hSw; refine T.qVal ?_ hSw; (try dsimp only [List.getElem_toArray, List.getElem_cons_succ, List.getElem_cons_zero]); go_simp; try with_reducible rfl)
                    simp only [Act.put, List.setIfInBounds_toArray, List.set_cons_zero, List.set_cons_succ]; replace hCl := hCl'; clear hCl'
                    refine T.qT 1 (some 45) ?v121 rfl rfl hCl ?hy121 (fun hCl' => ?_)
                    case hy121 => (intro w hSw; refine T.qVal ?_ hSw; (try dsimp only [List.getElem_toArray, List.getElem_cons_succ, List.getElem_cons_zero]); go_simp; try with_reducible rfl)
                    simp only [Act.put, List.setIfInBounds_toArray, List.set_cons_zero, List.set_cons_succ]; replace hCl := hCl'; clear hCl'
                    refine T.qT 4 (some 48) ?v122 rfl rfl hCl ?hy122 (fun hCl' => ?_)
                    case hy122 => (intro w hSw; refine T.qVal ?_ hSw; (try dsimp only [List.getElem_toArray, List.getElem_cons_succ, List.getElem_cons_zero]); go_simp; try with_reducible rfl)
                    simp only [Act.put, List.setIfInBounds_toArray, List.set_cons_zero, List.set_cons_succ]; replace hCl := hCl'; clear hCl'
                    refine T.qT 2 (some 46) ?v123 rfl rfl hCl ?hy123 (fun hCl' => ?_)
                    case hy123 => (intro w hSw; refine T.qVal ?_ hSw; (try dsimp only [List.getElem_toArray, List.getElem_cons_succ, List.getElem_cons_zero]); go_simp; try with_reducible rfl)
                    simp only [Act.put, List.setIfInBounds_toArray, List.set_cons_zero, List.set_cons_succ]; replace hCl := hCl'; clear hCl'
                    refine T.qT 3 (some 47) ?v124 rfl rfl hCl ?hy124 (fun hCl' => ?_)
                    case hy124 => (intro w hSw; refine T.qVal ?_ hSw; (have fF82 := F82.out w hSw; obtain ⟨z1, z2⟩ := HCV.out w (HUw.out.trans hSw); have z3 := HCW.out w (HUw.out.trans hSw)); (try dsimp only [List.getElem_toArray, List.getElem_cons_succ, List.getElem_cons_zero]); go_simp; try with_reducible rfl)
                    simp only [Act.put, List.setIfInBounds_toArray, List.set_cons_zero, List.set_cons_succ]; replace hCl := hCl'; clear hCl'
                    refine T.qT 5 (some 49) ?v125 rfl rfl hCl ?hy125 (fun hCl' => ?_)
                    case hy125 => (intro w hSw; refine T.qVal ?_ hSw; (try dsimp only [List.getElem_toArray, List.getElem_cons_succ, List.getElem_cons_zero]); go_simp; try with_reducible rfl)
                    simp only [Act.put, List.setIfInBounds_toArray, List.set_cons_zero, List.set_cons_succ]; replace hCl := hCl'; clear hCl'
                    refine T.qT 6 (some 50) ?v126 rfl rfl hCl ?hy126 (fun hCl' => ?_)
                    case hy126 => (intro w hSw; refine T.qVal ?_ hSw; (have fF82 := F82.out w hSw; obtain ⟨z1, z2⟩ := HCV.out w (HUw.out.trans hSw); have z3 := HCW.out w (HUw.out.trans hSw)); (try dsimp only [List.getElem_toArray, List.getElem_cons_succ, List.getElem_cons_zero]); go_simp; try with_reducible rfl)
                    simp only [Act.put, List.setIfInBounds_toArray, List.set_cons_zero, List.set_cons_succ]; replace hCl := hCl'; clear hCl'
                    refine T.qT 7 (some 51) ((.bool true)) rfl rfl hCl ?hy127 (fun hCl' => ?_)
                    case hy127 => (intro w hSw; (have fF82 := F82.out w hSw; obtain ⟨z1, z2⟩ := HCV.out w (HUw.out.trans hSw); have z3 := HCW.out w (HUw.out.trans hSw)); (try dsimp only [List.getElem_toArray, List.getElem_cons_succ, List.getElem_cons_zero]); go_simp; (refine (callsIn_wide.2 (HL1.out w)).mono ?_; rintro e w3 ⟨rfl, rfl⟩; exact ⟨rfl, hSw⟩))
                    simp only [Act.put, List.setIfInBounds_toArray, List.set_cons_zero, List.set_cons_succ]
                    replace hCl := hCl'; clear hCl'
                    refine T.qT 8 (some 52) ?v128 rfl rfl hCl ?hy128 (fun hCl' => ?_)
                    case hy128 => (intro w hSw; refine T.qVal ?_ hSw; (try dsimp only [List.getElem_toArray, List.getElem_cons_succ, List.getElem_cons_zero]); go_simp; try with_reducible rfl)
                    simp only [Act.put, List.setIfInBounds_toArray, List.set_cons_zero, List.set_cons_succ]; replace hCl := hCl'; clear hCl'
                    refine T.qT 9 (some 53) ?v129 rfl rfl hCl ?hy129 (fun hCl' => ?_)
                    case hy129 => (intro w hSw; refine T.qVal ?_ hSw; (try dsimp only [List.getElem_toArray, List.getElem_cons_succ, List.getElem_cons_zero]); go_simp; try with_reducible rfl)
                    simp only [Act.put, List.setIfInBounds_toArray, List.set_cons_zero, List.set_cons_succ]; replace hCl := hCl'; clear hCl'
                    refine T.qT 10 (some 54) ?v130 rfl rfl hCl ?hy130 (fun hCl' => ?_)
                    case hy130 => (intro w hSw; refine T.qVal ?_ hSw; (try dsimp only [List.getElem_toArray, List.getElem_cons_succ, List.getElem_cons_zero]); go_simp; try with_reducible rfl)
                    simp only [Act.put, List.setIfInBounds_toArray, List.set_cons_zero, List.set_cons_succ]; replace hCl := hCl'; clear hCl'
                    refine T.qT 11 (some 55) ?v131 rfl rfl hCl ?hy131 (fun hCl' => ?_)
                    case hy131 => (intro w hSw; refine T.qVal ?_ hSw; (try dsimp only [List.getElem_toArray, List.getElem_cons_succ, List.getElem_cons_zero]); go_simp; try with_reducible rfl)
                    simp only [Act.put, List.setIfInBounds_toArray, List.set_cons_zero, List.set_cons_succ]; replace hCl := hCl'; clear hCl'
                    refine T.qT 12 (some 56) ?v132 rfl rfl hCl ?hy132 (fun hCl' => ?_)
                    case hy132 => (intro w hSw; refine T.qVal ?_ hSw; (try dsimp only [List.getElem_toArray, List.getElem_cons_succ, List.getElem_cons_zero]); go_simp; try with_reducible rfl)
                    simp only [Act.put, List.setIfInBounds_toArray, List.set_cons_zero, List.set_cons_succ]; replace hCl := hCl'; clear hCl'
                    refine T.qT 13 (some 57) ?v133 rfl rfl hCl ?hy133 (fun hCl' => ?_)
                    case hy133 => (intro w hSw; refine T.qVal ?_ hSw; (have fF82 := F82.out w hSw; obtain ⟨z1, z2⟩ := HCV.out w (HUw.out.trans hSw); have z3 := HCW.out w (HUw.out.trans hSw)); (try dsimp only [List.getElem_toArray, List.getElem_cons_succ, List.getElem_cons_zero]); go_simp; try with_reducible rfl)
                    simp only [Act.put, List.setIfInBounds_toArray, List.set_cons_zero, List.set_cons_succ]; replace hCl := hCl'; clear hCl'
                    refine T.qT 14 (some 58) ?v134 rfl rfl hCl ?hy134 (fun hCl' => ?_)
                    case hy134 => (intro w hSw; refine T.qVal ?_ hSw; (try dsimp only [List.getElem_toArray, List.getElem_cons_succ, List.getElem_cons_zero]); go_simp; try with_reducible rfl)
                    simp only [Act.put, List.setIfInBounds_toArray, List.set_cons_zero, List.set_cons_succ]; replace hCl := hCl'; clear hCl'
                    refine T.qT 15 (some 59) ?v135 rfl rfl hCl ?hy135 (fun hCl' => ?_)
                    case hy135 => (intro w hSw; refine T.qVal ?_ hSw; (try dsimp only [List.getElem_toArray, List.getElem_cons_succ, List.getElem_cons_zero]); go_simp; try with_reducible rfl)
                    simp only [Act.put, List.setIfInBounds_toArray, List.set_cons_zero, List.set_cons_succ]; replace hCl := hCl'; clear hCl'
                    refine T.qT 18 (some 62) ?v136 rfl rfl hCl ?hy136 (fun hCl' => ?_)
                    case hy136 => (intro w hSw; refine T.qVal ?_ hSw; (try dsimp only [List.getElem_toArray, List.getElem_cons_succ, List.getElem_cons_zero]); go_simp; try with_reducible rfl)
                    simp only [Act.put, List.setIfInBounds_toArray, List.set_cons_zero, List.set_cons_succ]; replace hCl := hCl'; clear hCl'
                    refine T.qT 19 (some 63) ?v137 rfl rfl hCl ?hy137 (fun hCl' => ?_)
                    case hy137 => (intro w hSw; refine T.qVal ?_ hSw; (try dsimp only [List.getElem_toArray, List.getElem_cons_succ, List.getElem_cons_zero]); go_simp; try with_reducible rfl)
                    simp only [Act.put, List.setIfInBounds_toArray, List.set_cons_zero, List.set_cons_succ]; replace hCl := hCl'; clear hCl'
                    refine T.qT 22 (some 66) ?v138 rfl rfl hCl ?hy138 (fun hCl' => ?_)
                    case hy138 => (intro w hSw; refine T.qVal ?_ hSw; (try dsimp only [List.getElem_toArray, List.getElem_cons_succ, List.getElem_cons_zero]); go_simp; try with_reducible rfl)
                    simp only [Act.put, List.setIfInBounds_toArray, List.set_cons_zero, List.set_cons_succ]; replace hCl := hCl'; clear hCl'
                    refine T.qT 25 (some 69) ?v139 rfl rfl hCl ?hy139 (fun hCl' => ?_)
                    case hy139 => (intro w hSw; refine T.qVal ?_ hSw; (try dsimp only [List.getElem_toArray, List.getElem_cons_succ, List.getElem_cons_zero]); go_simp; try with_reducible rfl)
                    simp only [Act.put, List.setIfInBounds_toArray, List.set_cons_zero, List.set_cons_succ]; replace hCl := hCl'; clear hCl'
                    refine T.qT 26 (some 70) ?v140 rfl rfl hCl ?hy140 (fun hCl' => ?_)
                    case hy140 => (intro w hSw; refine T.qVal ?_ hSw; (try dsimp only [List.getElem_toArray, List.getElem_cons_succ, List.getElem_cons_zero]); go_simp; try with_reducible rfl)
                    simp only [Act.put, List.setIfInBounds_toArray, List.set_cons_zero, List.set_cons_succ]; replace hCl := hCl'; clear hCl'
                    refine T.qT 29 (some 73) ?v141 rfl rfl hCl ?hy141 (fun hCl' => ?_)
                    case hy141 => (intro w hSw; refine T.qVal ?_ hSw; (try dsimp only [List.getElem_toArray, List.getElem_cons_succ, List.getElem_cons_zero]); go_simp; try with_reducible rfl)
                    simp only [Act.put, List.setIfInBounds_toArray, List.set_cons_zero, List.set_cons_succ]; replace hCl := hCl'; clear hCl'
                    refine T.qT 16 (some 60) ?v142 rfl rfl hCl ?hy142 (fun hCl' => ?_)
                    case hy142 => (intro w hSw; refine T.qVal ?_ hSw; (try dsimp only [List.getElem_toArray, List.getElem_cons_succ, List.getElem_cons_zero]); go_simp; try with_reducible rfl)
                    simp only [Act.put, List.setIfInBounds_toArray, List.set_cons_zero, List.set_cons_succ]; replace hCl := hCl'; clear hCl'
                    refine T.qT 20 (some 64) ?v143 rfl rfl hCl ?hy143 (fun hCl' => ?_)
                    case hy143 => (intro w hSw; refine T.qVal ?_ hSw; (try dsimp only [List.getElem_toArray, List.getElem_cons_succ, List.getElem_cons_zero]); go_simp; try with_reducible rfl)
                    simp only [Act.put, List.setIfInBounds_toArray, List.set_cons_zero, List.set_cons_succ]; replace hCl := hCl'; clear hCl'
                    refine T.qT 27 (some 71) ?v144 rfl rfl hCl ?hy144 (fun hCl' => ?_)
                    case hy144 => (intro w hSw; refine T.qVal ?_ hSw; (try dsimp only [List.getElem_toArray, List.getElem_cons_succ, List.getElem_cons_zero]); go_simp; try with_reducible rfl)
                    simp only [Act.put, List.setIfInBounds_toArray, List.set_cons_zero, List.set_cons_succ]; replace hCl := hCl'; clear hCl'
                    refine T.qT 30 (some 74) ?v145 rfl rfl hCl ?hy145 (fun hCl' => ?_)
                    case hy145 => (intro w hSw; refine T.qVal ?_ hSw; (try dsimp only [List.getElem_toArray, List.getElem_cons_succ, List.getElem_cons_zero]); go_simp; try with_reducible rfl)
                    simp only [Act.put, List.setIfInBounds_toArray, List.set_cons_zero, List.set_cons_succ]; replace hCl := hCl'; clear hCl'
                    refine T.qT 21 (some 65) ?v146 rfl rfl hCl ?hy146 (fun hCl' => ?_)
                    case hy146 => (intro w hSw; refine T.qVal ?_ hSw; (have fF82 := F82.out w hSw; obtain ⟨z1, z2⟩ := HCV.out w (HUw.out.trans hSw); have z3 := HCW.out w (HUw.out.trans hSw)); (try dsimp only [List.getElem_toArray, List.getElem_cons_succ, List.getElem_cons_zero]); go_simp; try with_reducible rfl)
                    simp only [Act.put, List.setIfInBounds_toArray, List.set_cons_zero, List.set_cons_succ]; replace hCl := hCl'; clear hCl'
                    refine T.qT 28 (some 72) ?v147 rfl rfl hCl ?hy147 (fun hCl' => ?_)
                    case hy147 => (intro w hSw; refine T.qVal ?_ hSw; (have fF82 := F82.out w hSw; obtain ⟨z1, z2⟩ := HCV.out w (HUw.out.trans hSw); have z3 := HCW.out w (HUw.out.trans hSw)); (try dsimp only [List.getElem_toArray, List.getElem_cons_succ, List.getElem_cons_zero]); go_simp; try with_reducible rfl)
                    simp only [Act.put, List.setIfInBounds_toArray, List.set_cons_zero, List.set_cons_succ]; replace hCl := hCl'; clear hCl'
                    refine T.qT 23 (some 67) ?v148 rfl rfl hCl ?hy148 (fun hCl' => ?_)
                    case hy148 => (intro w hSw; refine T.qVal ?_ hSw; (try dsimp only [List.getElem_toArray, List.getElem_cons_succ, List.getElem_cons_zero]); go_simp; try with_reducible rfl)
                    simp only [Act.put, List.setIfInBounds_toArray, List.set_cons_zero, List.set_cons_succ]; replace hCl := hCl'; clear hCl'
                    refine T.qT 31 (some 75) ?v149 rfl rfl hCl ?hy149 (fun hCl' => ?_)
                    case hy149 => (intro w hSw; refine T.qVal ?_ hSw; (try dsimp only [List.getElem_toArray, List.getElem_cons_succ, List.getElem_cons_zero]); go_simp; try with_reducible rfl)
                    simp only [Act.put, List.setIfInBounds_toArray, List.set_cons_zero, List.set_cons_succ]; replace hCl := hCl'; clear hCl'
                    refine T.qT 24 (some 68) ?v150 rfl rfl hCl ?hy150 (fun hCl' => ?_)
                    case hy150 => (intro w hSw; refine T.qVal ?_ hSw; (have fF82 := F82.out w hSw; obtain ⟨z1, z2⟩ := HCV.out w (HUw.out.trans hSw); have z3 := HCW.out w (HUw.out.trans hSw)); (try dsimp only [List.getElem_toArray, List.getElem_cons_succ, List.getElem_cons_zero]); go_simp; try with_reducible rfl)
                    simp only [Act.put, List.setIfInBounds_toArray, List.set_cons_zero, List.set_cons_succ]; replace hCl := hCl'; clear hCl'
                    refine T.qT 32 (some 76) ?v151 rfl rfl hCl ?hy151 (fun hCl' => ?_)
                    case hy151 => (intro w hSw; refine T.qVal ?_ hSw; (have fF82 := F82.out w hSw; obtain ⟨z1, z2⟩ := HCV.out w (HUw.out.trans hSw); have z3 := HCW.out w (HUw.out.trans hSw)); (try dsimp only [List.getElem_toArray, List.getElem_cons_succ, List.getElem_cons_zero]); go_simp; try with_reducible rfl)
                    simp only [Act.put, List.setIfInBounds_toArray, List.set_cons_zero, List.set_cons_succ]; replace hCl := hCl'; clear hCl'
                    refine T.qT 33 (some 77) ?v152 rfl rfl hCl ?hy152 (fun hCl' => ?_)
                    case hy152 => (intro w hSw; refine T.qVal ?_ hSw; (try dsimp only [List.getElem_toArray, List.getElem_cons_succ, List.getElem_cons_zero]); go_simp; try with_reducible rfl)
                    simp only [Act.put, List.setIfInBounds_toArray, List.set_cons_zero, List.set_cons_succ]; replace hCl := hCl'; clear hCl'
                    refine T.qT 17 (some 61) ((SpV lo hi)) rfl rfl hCl ?hy153 (fun hCl' => ?_)
                    case hy153 => (intro w hSw; (have fF82 := F82.out w hSw; obtain ⟨z1, z2⟩ := HCV.out w (HUw.out.trans hSw); have z3 := HCW.out w (HUw.out.trans hSw)); (try dsimp only [List.getElem_toArray, List.getElem_cons_succ, List.getElem_cons_zero]); go_simp; (refine (callsIn_wide.2 (HGk.out w (HUw.out.trans hSw))).mono ?_; rintro e w3 ⟨rfl, u3⟩; exact ⟨rfl, hSw.trans u3⟩))
                    simp only [Act.put, List.setIfInBounds_toArray, List.set_cons_zero, List.set_cons_succ]
                    replace hCl := hCl'; clear hCl'
                    refine T.qT 34 (some 78) ((.bool true)) rfl rfl hCl ?hy154 (fun hCl' => ?_)
                    case hy154 => (intro w hSw; (have fF82 := F82.out w hSw; obtain ⟨z1, z2⟩ := HCV.out w (HUw.out.trans hSw); have z3 := HCW.out w (HUw.out.trans hSw)); (try dsimp only [List.getElem_toArray, List.getElem_cons_succ, List.getElem_cons_zero]); go_simp; (refine (callsIn_wide.2 (HHa.out w)).mono ?_; rintro e w3 ⟨rfl, u3⟩; exact ⟨rfl, hSw.trans u3⟩))
                    simp only [Act.put, List.setIfInBounds_toArray, List.set_cons_zero, List.set_cons_succ]
                    replace hCl := hCl'; clear hCl'
                    refine T.qT 35 (some 79) ?v155 rfl rfl hCl ?hy155 (fun hCl' => ?_)
                    case hy155 => (intro w hSw; refine T.qVal ?_ hSw; (try dsimp only [List.getElem_toArray, List.getElem_cons_succ, List.getElem_cons_zero]); go_simp; try with_reducible rfl)
                    simp only [Act.put, List.setIfInBounds_toArray, List.set_cons_zero, List.set_cons_succ]; replace hCl := hCl'; clear hCl'
                    refine T.qT 36 (some 80) ?v156 rfl rfl hCl ?hy156 (fun hCl' => ?_)
                    case hy156 => (intro w hSw; refine T.qVal ?_ hSw; (try dsimp only [List.getElem_toArray, List.getElem_cons_succ, List.getElem_cons_zero]); go_simp; try with_reducible rfl)
                    simp only [Act.put, List.setIfInBounds_toArray, List.set_cons_zero, List.set_cons_succ]; replace hCl := hCl'; clear hCl'
                    refine T.tail_intro (by kernel_rfl) (fun Y81 hY81 => ?_)
                    replace U := U.trans hY81
                    replace kC := hY81.blk kC
                    clear F82 hY81
                    refine lastG (i := 37) (by kernel_rfl) rfl (by rfl) (by decide) (fun K hK => ?_)
                    go_simp
                    refine hK.out _ _ ?_
                    clear hK K
                    refine doneG (by kernel_rfl) ?_ _
                    refine S.nrm_intro ?_
                    have HOK := Lib.hid (HOK0.out.2 (by trivial))
                    have HB2 := Lib.hid (show ∀ h', h' < h + 1 → T.okAt rs os rows k h' from fun h' q => by
                      by_cases e : h' = h
                      · subst e
                        exact HOK.out
                      · exact HB.out h' (by omega))
                    clear HB
                    go_wp2_with fail
                    go_roundw
                    case rel => exact ⟨h + 1, by omega, by go_num, U, kC, HB2⟩
                    case measure => (simp only [intOf]; omega)
            · skip
              obtain rfl : h = H + 1 := by omega
              have d2 : decide (((H + 1 : Nat) : Int) ≤ (H : Int)) = false := decide_eq_false (by omega)
              have f4 : ¬ ((H : Int) + 1 ≤ (H : Int)) := by omega
              have HA2 := Lib.hid (show ∀ j, j < k + 1 → (rows.getD j []).length = H + 1 ∧ ∀ h, h ≤ H → T.okAt rs os rows j h from fun j hj => by
                by_cases e : j = k
                · rw [e]
                  exact ⟨HLE.out.trans HLL.out, fun h hh => HB.out h (by omega)⟩
                · exact HA.out j (by omega))
              clear HA HB
              go_wp2_with fail
              go_roundw
              case rel => exact ⟨k + 1, by omega, by go_num, U, kC, HA2⟩
              case measure => (simp only [intOf]; omega)
        · skip
          have f2 : ((len : Int) == (H : Int) + 1) = false := by rw [beq_eq_false_iff_ne]; omega
          have f3 : ((len : Int) != (H : Int) + 1) = true := by rw [bne_iff_ne]; omega
          have HNo := Lib.hid (show ((rows.length = rs.length ∧ ∀ x ∈ rows, x.length = H + 1) ∧ T.Tr H rs os ps (T.offs rows)) → False from fun h => hl (by
            rw [← HLE.out]
            refine h.1.2 _ ?_
            rw [List.getD_eq_getElem?_getD, List.getElem?_eq_getElem (show k < rows.length by have := HN.out; omega)]
            exact List.getElem_mem _))
          clear hl
          have HU := Lib.hid U
          go_wp2
          go_ret2
          exact ⟨⟨false, rfl, ⟨fun h => (by cases h), fun h => (HNo.out h).elim⟩⟩, HU.out⟩
      · skip
        have hkn : n = k := by omega
        subst hkn
        have d1 : decide ((n : Int) < (n : Int)) = false := decide_eq_false (by omega)
        have HALL := Lib.hid (show (rows.length = rs.length ∧ ∀ x ∈ rows, x.length = H + 1) ∧ ∀ k h : Nat, k < rs.length → h ≤ H → T.okAt rs os rows k h from ⟨⟨HLn.out, fun x hx => by
          obtain ⟨i, hi, e⟩ := List.mem_iff_getElem.1 hx
          have := (HA.out i (by have := HN.out; omega)).1
          rw [List.getD_eq_getElem?_getD, List.getElem?_eq_getElem hi] at this
          rw [← e]
          exact this⟩, fun k h hk hh => (HA.out k (by have := HN.out; have := HLn.out; omega)).2 h hh⟩)
        clear HA
        go_wp2_with fail
        go_loopw [9] (fun i wr => ∃ (j : Nat), j ≤ ps.length ∧ i = .int .i64 j ∧ Up w wr ∧ mblk wr q0 = some (.cells #[.int .i64 H, .slice aR rs.length cR, .slice aO nO cO, .slice aP ps.length cP] 26 (0, 0)) ∧ Hid (∀ x ∈ ps.take j, T.okCmp rows x)) (fun i _ => ps.length - (intOf i).toNat)
        case atStart => exact ⟨0, Nat.zero_le _, rfl, U, kC, Lib.hid (fun x hx => by simp at hx)⟩
        case round =>
          clear U kC
          obtain ⟨j, hj, rfl, U, kC, HD⟩ := hrel
          by_cases hlt : j < ps.length
          · skip
            have ew : IntKind.i64.wrap ((j : Int) + 1) = (j : Int) + 1 := IntWalk.i64_in _ (by have := HG.out.p14; omega)
            have dk : decide ((j : Int) < (ps.length : Int)) = true := decide_eq_true (by omega)
            have ilt : (j : Int) < (ps.length : Int) := by omega
            have hbp := HG.out.psB (ps.getD j (0, 0, 0, 0, 0)) (by rw [List.getD_eq_getElem?_getD, List.getElem?_eq_getElem hlt]; exact List.getElem_mem _)
            have hst : ps.take (j + 1) = ps.take j ++ [ps.getD j (0, 0, 0, 0, 0)] := by
              rw [List.take_add_one, List.getElem?_eq_getElem hlt, List.getD_eq_getElem?_getD, List.getElem?_eq_getElem hlt]
              rfl
            have hmem : ps.getD j (0, 0, 0, 0, 0) ∈ ps := by rw [List.getD_eq_getElem?_getD, List.getElem?_eq_getElem hlt]; exact List.getElem_mem _
            obtain ⟨a', c', e', _, _, hm⟩ := (HP.out _ U).is
            injection e' with ea eb ec
            clear eb ec
            obtain ⟨g, off, ga, gl, hx⟩ := hm (by omega)
            subst ea ga
            clear hm
            obtain ⟨⟨r0, r1, r2, r3, r4⟩, hss⟩ : ∃ s, ps.getD j (0, 0, 0, 0, 0) = s := ⟨_, rfl⟩
            have cc0 := hx j hlt 0 (by omega)
            have cc1 := hx j hlt 1 (by omega)
            have cc2 := hx j hlt 2 (by omega)
            have cc3 := hx j hlt 3 (by omega)
            have cc4 := hx j hlt 4 (by omega)
            rw [hss] at hbp hst hmem cc0 cc1 cc2 cc3 cc4
            replace cc0 : wr.cell? ⟨g, off + j * 5, none⟩ = some (.int .i64 r0) := cc0
            replace cc1 : wr.cell? ⟨g, off + j * 5 + 1, none⟩ = some (.int .i64 r1) := cc1
            replace cc2 : wr.cell? ⟨g, off + j * 5 + 2, none⟩ = some (.int .i64 r2) := cc2
            replace cc3 : wr.cell? ⟨g, off + j * 5 + 3, none⟩ = some (.int .i64 r3) := cc3
            replace cc4 : wr.cell? ⟨g, off + j * 5 + 4, none⟩ = some (.int .i64 r4) := cc4
            obtain ⟨⟨p1, p2⟩, ⟨p3, p4⟩, ⟨p5, p6⟩, p7, _, _⟩ := hbp
            simp only at p1 p2 p3 p4 p5 p6 p7
            obtain ⟨r0, rfl⟩ := Int.eq_ofNat_of_zero_le p1
            obtain ⟨r1, rfl⟩ := Int.eq_ofNat_of_zero_le p3
            have HST := Lib.hid (And.intro hst hmem)
            have key : ∀ (c h : Nat), c < rs.length → h ≤ H → ∃ (ga oa ca : Nat), Hid (∀ w' : World, Up w w' → w'.cell? ⟨gV, oV + c, none⟩ = some (.slice (some ⟨ga, oa, none⟩) (H + 1) ca) ∧ w'.cell? ⟨ga, oa + h, none⟩ = some (.int .i64 (T.offs rows ((c : Int), (h : Int))))) ∧ (-100000 ≤ T.offs rows ((c : Int), (h : Int)) ∧ T.offs rows ((c : Int), (h : Int)) ≤ 100000) := fun c h hc hh => by
              obtain ⟨⟨A1, A2⟩, A3⟩ := HALL.out
              obtain ⟨uu, cu, IL⟩ := HX.out c (by omega)
              have hl := A2 (rows.getD c []) (by rw [List.getD_eq_getElem?_getD, List.getElem?_eq_getElem (show c < rows.length by omega)]; exact List.getElem_mem _)
              obtain ⟨aa, ca, rfl, _, _, hmm⟩ := IL.is
              obtain ⟨ga, oa, rfl, gal, hxx⟩ := hmm (by omega)
              have cx := hxx h (by omega)
              rw [hl] at cu
              refine ⟨ga, oa, ca, Lib.hid (fun w' u => ⟨u.cell2 cu, by rw [T.offs_at (by omega)]; exact u.cell2 cx⟩), ?_⟩
              rw [T.offs_at (by omega)]
              exact (A3 c h hc hh).1
            obtain ⟨g1, o1, c1, HN1, hn1⟩ := key r1 r0 (by omega) (by omega)
            have HNk := Lib.hid key
            obtain ⟨y1, hy1⟩ : ∃ z, T.offs rows ((r1 : Int), (r0 : Int)) = z := ⟨_, rfl⟩
            rw [hy1] at HN1 hn1
            have HY1 := Lib.hid hy1
            have ir1 : (r1 : Int) < (n : Int) := by have := HN.out; have := HLn.out; omega
            have ir0 : (r0 : Int) < (H : Int) + 1 := by omega
            clear hx hss hst hmem key hy1
            have i_kC := kC
            have lC := blk_lt kC
            have kp := blk_new wr (.cells #[.int .i64 r0, .int .i64 r1, .int .i64 r2, .int .i64 r3, .int .i64 r4] 61) _ rfl
            replace kC := blk_keep (.cells #[.int .i64 r0, .int .i64 r1, .int .i64 r2, .int .i64 r3, .int .i64 r4] 61) kC
            replace U := U.alloc (.cells #[.int .i64 r0, .int .i64 r1, .int .i64 r2, .int .i64 r3, .int .i64 r4] 61)
            obtain ⟨pp, hpp⟩ : ∃ z, wr.heap.size = z := ⟨_, rfl⟩
            obtain ⟨W5, hW5⟩ : ∃ z, wr.alloc (.cells #[.int .i64 r0, .int .i64 r1, .int .i64 r2, .int .i64 r3, .int .i64 r4] 61) = z := ⟨_, rfl⟩
            rw [hpp] at kp lC
            rw [hW5] at kp kC U
            go_wp2_with fail
            clear hpp hW5 i_kC cc0 cc1 cc2 cc3 cc4
            have HUw := Lib.hid U
            have F102 := Lib.hid (fun w (u : Up W5 w) => cellB (u.blk kC))
            have F103 := Lib.hid (fun w (u : Up W5 w) => cellB (u.blk kp))
            refine (wpIn_wide (n := 5)).1 ?_
            refine wpIn_nrm ?_
            refine T.regionQ (fun w' => Up W5 w') 9 1 hmx (by kernel_rfl) (by kernel_rfl) ((Up.refl W5).drew) (fun hCl => ?_)
            refine T.qT 0 (some 94) ?v157 rfl rfl hCl ?hy157 (fun hCl' => ?_)
            case hy157 => (intro w hSw; refine T.qVal ?_ hSw; (try dsimp only [List.getElem_toArray, List.getElem_cons_succ, List.getElem_cons_zero]); go_simp; try with_reducible rfl)
            simp only [Act.put, List.setIfInBounds_toArray, List.set_cons_zero, List.set_cons_succ]; replace hCl := hCl'; clear hCl'
            refine T.qT 1 (some 95) ?v158 rfl rfl hCl ?hy158 (fun hCl' => ?_)
            case hy158 => (intro w hSw; refine T.qVal ?_ hSw; (try dsimp only [List.getElem_toArray, List.getElem_cons_succ, List.getElem_cons_zero]); go_simp; try with_reducible rfl)
            simp only [Act.put, List.setIfInBounds_toArray, List.set_cons_zero, List.set_cons_succ]; replace hCl := hCl'; clear hCl'
            refine T.qT 5 (some 99) ?v159 rfl rfl hCl ?hy159 (fun hCl' => ?_)
            case hy159 => (intro w hSw; refine T.qVal ?_ hSw; (try dsimp only [List.getElem_toArray, List.getElem_cons_succ, List.getElem_cons_zero]); go_simp; try with_reducible rfl)
            simp only [Act.put, List.setIfInBounds_toArray, List.set_cons_zero, List.set_cons_succ]; replace hCl := hCl'; clear hCl'
            refine T.qT 2 (some 96) ?v160 rfl rfl hCl ?hy160 (fun hCl' => ?_)
            case hy160 => (intro w hSw; refine T.qVal ?_ hSw; (have fF102 := F102.out w hSw; have fF103 := F103.out w hSw; obtain ⟨z1, z2⟩ := HN1.out w (HUw.out.trans hSw)); (try dsimp only [List.getElem_toArray, List.getElem_cons_succ, List.getElem_cons_zero]); go_simp; try with_reducible rfl)
            simp only [Act.put, List.setIfInBounds_toArray, List.set_cons_zero, List.set_cons_succ]; replace hCl := hCl'; clear hCl'
            refine T.qT 6 (some 100) ?v161 rfl rfl hCl ?hy161 (fun hCl' => ?_)
            case hy161 => (intro w hSw; refine T.qVal ?_ hSw; (have fF102 := F102.out w hSw; have fF103 := F103.out w hSw; obtain ⟨z1, z2⟩ := HN1.out w (HUw.out.trans hSw)); (try dsimp only [List.getElem_toArray, List.getElem_cons_succ, List.getElem_cons_zero]); go_simp; try with_reducible rfl)
            simp only [Act.put, List.setIfInBounds_toArray, List.set_cons_zero, List.set_cons_succ]; replace hCl := hCl'; clear hCl'
            refine T.qT 3 (some 97) ?v162 rfl rfl hCl ?hy162 (fun hCl' => ?_)
            case hy162 => (intro w hSw; refine T.qVal ?_ hSw; (try dsimp only [List.getElem_toArray, List.getElem_cons_succ, List.getElem_cons_zero]); go_simp; try with_reducible rfl)
            simp only [Act.put, List.setIfInBounds_toArray, List.set_cons_zero, List.set_cons_succ]; replace hCl := hCl'; clear hCl'
            refine T.qT 4 (some 98) ?v163 rfl rfl hCl ?hy163 (fun hCl' => ?_)
            case hy163 => (intro w hSw; refine T.qVal ?_ hSw; (have fF102 := F102.out w hSw; have fF103 := F103.out w hSw; obtain ⟨z1, z2⟩ := HN1.out w (HUw.out.trans hSw)); (try dsimp only [List.getElem_toArray, List.getElem_cons_succ, List.getElem_cons_zero]); go_simp; try with_reducible rfl)
            simp only [Act.put, List.setIfInBounds_toArray, List.set_cons_zero, List.set_cons_succ]; replace hCl := hCl'; clear hCl'
            refine T.qT 7 (some 101) ?v164 rfl rfl hCl ?hy164 (fun hCl' => ?_)
            case hy164 => (intro w hSw; refine T.qVal ?_ hSw; (try dsimp only [List.getElem_toArray, List.getElem_cons_succ, List.getElem_cons_zero]); go_simp; try with_reducible rfl)
            simp only [Act.put, List.setIfInBounds_toArray, List.set_cons_zero, List.set_cons_succ]; replace hCl := hCl'; clear hCl'
            refine T.qT 8 (some 102) ?v165 rfl rfl hCl ?hy165 (fun hCl' => ?_)
            case hy165 => (intro w hSw; refine T.qVal ?_ hSw; (have fF102 := F102.out w hSw; have fF103 := F103.out w hSw; obtain ⟨z1, z2⟩ := HN1.out w (HUw.out.trans hSw)); (try dsimp only [List.getElem_toArray, List.getElem_cons_succ, List.getElem_cons_zero]); go_simp; try with_reducible rfl)
            simp only [Act.put, List.setIfInBounds_toArray, List.set_cons_zero, List.set_cons_succ]; replace hCl := hCl'; clear hCl'
            refine T.tail_intro (by kernel_rfl) (fun Y101 hY101 => ?_)
            replace U := U.trans hY101
            replace kC := hY101.blk kC
            replace kp := hY101.blk kp
            clear F102 F103 hY101
            refine lastG (i := 9) (by kernel_rfl) rfl (by rfl) (by decide) (fun K hK => ?_)
            go_simp
            refine hK.out _ _ ?_
            clear hK K
            refine doneG (by kernel_rfl) ?_ _
            refine S.nrm_intro ?_
            clear HUw
            by_cases hr2 : r2 = -1
            · skip
              subst hr2
              have f2 : decide ((-1 : Int) ≥ 0) = false := by decide
              obtain ⟨qv, hqv⟩ : ∃ q, inB (y1) r3 r4 = q := ⟨_, rfl⟩
              have HHa := Lib.hid (fun w => show Calls Try.prog 35 #[SpV r3 r4, .int .i64 (y1)] w fun e w' => e = .returned (.bool qv) ∧ Up w w' by rw [← hqv]; exact B_Has_any _ _ _ w)
              have HOK0 := Lib.hid (show T.okCmp rows ((r0 : Int), (r1 : Int), (-1 : Int), r3, r4) ↔ qv = true by
                unfold T.okCmp
                show T.In (r3, r4) (T.offs rows ((r1 : Int), (r0 : Int)) - T.offs rows ((-1 : Int), if (-1 : Int) = -1 then 0 else (r0 : Int))) ↔ _
                rw [if_pos rfl, T.offs0, Int.sub_zero, HY1.out, ← hqv, inB_iff]
                rfl)
              clear hqv
              have i_kp := kp
              go_wp2_with fail
              clear i_kp
              refine (HHa.out _).mono ?_
              rintro e x9 ⟨rfl, u⟩
              replace U := U.trans u
              replace kC := u.blk kC
              clear u
              cases qv with
              | false =>
                have HNo := Lib.hid (show ((rows.length = rs.length ∧ ∀ x ∈ rows, x.length = H + 1) ∧ T.Tr H rs os ps (T.offs rows)) → False from fun q => by
                  have := HOK0.out.1 (((T.tr_parts q.1.1).1 q.2).2 _ HST.out.2)
                  cases this)
                clear HST HOK0 HHa
                have HU := Lib.hid U
                go_wp2
                go_ret2
                exact ⟨⟨false, rfl, ⟨fun h => (by cases h), fun h => (HNo.out h).elim⟩⟩, HU.out⟩
              | true =>
                have HD2 := Lib.hid (show ∀ x ∈ ps.take (j + 1), T.okCmp rows x from fun x hx => by
                  rw [HST.out.1] at hx
                  rcases List.mem_append.1 hx with hx | hx
                  · exact HD.out x hx
                  · rw [List.mem_singleton.1 hx]
                    exact HOK0.out.2 (by trivial))
                clear HD HST HOK0 HHa
                go_wp2_with fail
                go_roundw
                case rel => exact ⟨j + 1, by omega, by go_num, U, kC, HD2⟩
                case measure => (simp only [intOf]; omega)
            · skip
              obtain ⟨r2, rfl⟩ := Int.eq_ofNat_of_zero_le (show 0 ≤ r2 by omega)
              have f2 : decide ((r2 : Int) ≥ 0) = true := decide_eq_true (by omega)
              have f3 : (0 : Int) ≤ (r2 : Int) := by omega
              obtain ⟨g2, o2, c2, HN2, hn2⟩ := HNk.out r2 r0 (by omega) (by omega)
              obtain ⟨y2, hy2⟩ : ∃ z, T.offs rows ((r2 : Int), (r0 : Int)) = z := ⟨_, rfl⟩
              rw [hy2] at HN2 hn2
              have HY2 := Lib.hid hy2
              have ir2 : (r2 : Int) < (n : Int) := by have := HN.out; have := HLn.out; omega
              have v0 : IntKind.i64.wrap (y1 - y2) = y1 - y2 := IntWalk.i64_in _ (by omega)
              have HUw := Lib.hid U
              have i_kp := kp
              clear hy2 hr2
              go_wp2_with fail
              clear i_kp
              have F142 := Lib.hid (fun w (u : Up Y101 w) => cellB (u.blk kC))
              have F143 := Lib.hid (fun w (u : Up Y101 w) => cellB (u.blk kp))
              refine (wpIn_wide (n := 5)).1 ?_
              refine wpIn_nrm ?_
              refine T.regionQ (fun w' => Up Y101 w') 11 1 hmx (by kernel_rfl) (by kernel_rfl) ((Up.refl Y101).drew) (fun hCl => ?_)
              refine T.qT 0 (some 106) ?v166 rfl rfl hCl ?hy166 (fun hCl' => ?_)
              case hy166 => (intro w hSw; refine T.qVal ?_ hSw; (try dsimp only [List.getElem_toArray, List.getElem_cons_succ, List.getElem_cons_zero]); go_simp; try with_reducible rfl)
              simp only [Act.put, List.setIfInBounds_toArray, List.set_cons_zero, List.set_cons_succ]; replace hCl := hCl'; clear hCl'
              refine T.qT 1 (some 107) ?v167 rfl rfl hCl ?hy167 (fun hCl' => ?_)
              case hy167 => (intro w hSw; refine T.qVal ?_ hSw; (try dsimp only [List.getElem_toArray, List.getElem_cons_succ, List.getElem_cons_zero]); go_simp; try with_reducible rfl)
              simp only [Act.put, List.setIfInBounds_toArray, List.set_cons_zero, List.set_cons_succ]; replace hCl := hCl'; clear hCl'
              refine T.qT 2 (some 108) ?v168 rfl rfl hCl ?hy168 (fun hCl' => ?_)
              case hy168 => (intro w hSw; refine T.qVal ?_ hSw; (try dsimp only [List.getElem_toArray, List.getElem_cons_succ, List.getElem_cons_zero]); go_simp; try with_reducible rfl)
              simp only [Act.put, List.setIfInBounds_toArray, List.set_cons_zero, List.set_cons_succ]; replace hCl := hCl'; clear hCl'
              refine T.qT 6 (some 112) ?v169 rfl rfl hCl ?hy169 (fun hCl' => ?_)
              case hy169 => (intro w hSw; refine T.qVal ?_ hSw; (try dsimp only [List.getElem_toArray, List.getElem_cons_succ, List.getElem_cons_zero]); go_simp; try with_reducible rfl)
              simp only [Act.put, List.setIfInBounds_toArray, List.set_cons_zero, List.set_cons_succ]; replace hCl := hCl'; clear hCl'
              refine T.qT 3 (some 109) ?v170 rfl rfl hCl ?hy170 (fun hCl' => ?_)
              case hy170 => (intro w hSw; refine T.qVal ?_ hSw; (have fF142 := F142.out w hSw; have fF143 := F143.out w hSw; obtain ⟨z1, z2⟩ := HN2.out w (HUw.out.trans hSw)); (try dsimp only [List.getElem_toArray, List.getElem_cons_succ, List.getElem_cons_zero]); go_simp; try with_reducible rfl)
              simp only [Act.put, List.setIfInBounds_toArray, List.set_cons_zero, List.set_cons_succ]; replace hCl := hCl'; clear hCl'
              refine T.qT 7 (some 113) ?v171 rfl rfl hCl ?hy171 (fun hCl' => ?_)
              case hy171 => (intro w hSw; refine T.qVal ?_ hSw; (have fF142 := F142.out w hSw; have fF143 := F143.out w hSw; obtain ⟨z1, z2⟩ := HN2.out w (HUw.out.trans hSw)); (try dsimp only [List.getElem_toArray, List.getElem_cons_succ, List.getElem_cons_zero]); go_simp; try with_reducible rfl)
              simp only [Act.put, List.setIfInBounds_toArray, List.set_cons_zero, List.set_cons_succ]; replace hCl := hCl'; clear hCl'
              refine T.qT 4 (some 110) ?v172 rfl rfl hCl ?hy172 (fun hCl' => ?_)
              case hy172 => (intro w hSw; refine T.qVal ?_ hSw; (try dsimp only [List.getElem_toArray, List.getElem_cons_succ, List.getElem_cons_zero]); go_simp; try with_reducible rfl)
              simp only [Act.put, List.setIfInBounds_toArray, List.set_cons_zero, List.set_cons_succ]; replace hCl := hCl'; clear hCl'
              refine T.qT 5 (some 111) ?v173 rfl rfl hCl ?hy173 (fun hCl' => ?_)
              case hy173 => (intro w hSw; refine T.qVal ?_ hSw; (have fF142 := F142.out w hSw; have fF143 := F143.out w hSw; obtain ⟨z1, z2⟩ := HN2.out w (HUw.out.trans hSw)); (try dsimp only [List.getElem_toArray, List.getElem_cons_succ, List.getElem_cons_zero]); go_simp; try with_reducible rfl)
              simp only [Act.put, List.setIfInBounds_toArray, List.set_cons_zero, List.set_cons_succ]; replace hCl := hCl'; clear hCl'
              refine T.qT 8 (some 114) ?v174 rfl rfl hCl ?hy174 (fun hCl' => ?_)
              case hy174 => (intro w hSw; refine T.qVal ?_ hSw; (try dsimp only [List.getElem_toArray, List.getElem_cons_succ, List.getElem_cons_zero]); go_simp; try with_reducible rfl)
              simp only [Act.put, List.setIfInBounds_toArray, List.set_cons_zero, List.set_cons_succ]; replace hCl := hCl'; clear hCl'
              refine T.qT 9 (some 115) ?v175 rfl rfl hCl ?hy175 (fun hCl' => ?_)
              case hy175 => (intro w hSw; refine T.qVal ?_ hSw; (have fF142 := F142.out w hSw; have fF143 := F143.out w hSw; obtain ⟨z1, z2⟩ := HN2.out w (HUw.out.trans hSw)); (try dsimp only [List.getElem_toArray, List.getElem_cons_succ, List.getElem_cons_zero]); go_simp; try with_reducible rfl)
              simp only [Act.put, List.setIfInBounds_toArray, List.set_cons_zero, List.set_cons_succ]; replace hCl := hCl'; clear hCl'
              refine T.qT 10 (some 116) ?v176 rfl rfl hCl ?hy176 (fun hCl' => ?_)
              case hy176 => (intro w hSw; refine T.qVal ?_ hSw; (try dsimp only [List.getElem_toArray, List.getElem_cons_succ, List.getElem_cons_zero]); go_simp; try with_reducible rfl)
              simp only [Act.put, List.setIfInBounds_toArray, List.set_cons_zero, List.set_cons_succ]; replace hCl := hCl'; clear hCl'
              refine T.tail_intro (by kernel_rfl) (fun Y141 hY141 => ?_)
              replace U := U.trans hY141
              replace kC := hY141.blk kC
              replace kp := hY141.blk kp
              clear F142 F143 hY141
              refine lastG (i := 11) (by kernel_rfl) rfl (by rfl) (by decide) (fun K hK => ?_)
              go_simp
              refine hK.out _ _ ?_
              clear hK K
              refine doneG (by kernel_rfl) ?_ _
              refine S.nrm_intro ?_
              obtain ⟨qv, hqv⟩ : ∃ q, inB (y1 - y2) r3 r4 = q := ⟨_, rfl⟩
              have HHa := Lib.hid (fun w => show Calls Try.prog 35 #[SpV r3 r4, .int .i64 (y1 - y2)] w fun e w' => e = .returned (.bool qv) ∧ Up w w' by rw [← hqv]; exact B_Has_any _ _ _ w)
              have HOK0 := Lib.hid (show T.okCmp rows ((r0 : Int), (r1 : Int), (r2 : Int), r3, r4) ↔ qv = true by
                unfold T.okCmp
                show T.In (r3, r4) (T.offs rows ((r1 : Int), (r0 : Int)) - T.offs rows ((r2 : Int), if (r2 : Int) = -1 then 0 else (r0 : Int))) ↔ _
                rw [if_neg (by omega), HY1.out, HY2.out, ← hqv, inB_iff]
                rfl)
              clear hqv
              have i_kp := kp
              go_wp2_with fail
              clear i_kp
              refine (HHa.out _).mono ?_
              rintro e x9 ⟨rfl, u⟩
              replace U := U.trans u
              replace kC := u.blk kC
              clear u
              cases qv with
              | false =>
                have HNo := Lib.hid (show ((rows.length = rs.length ∧ ∀ x ∈ rows, x.length = H + 1) ∧ T.Tr H rs os ps (T.offs rows)) → False from fun q => by
                  have := HOK0.out.1 (((T.tr_parts q.1.1).1 q.2).2 _ HST.out.2)
                  cases this)
                clear HST HOK0 HHa
                have HU := Lib.hid U
                go_wp2
                go_ret2
                exact ⟨⟨false, rfl, ⟨fun h => (by cases h), fun h => (HNo.out h).elim⟩⟩, HU.out⟩
              | true =>
                have HD2 := Lib.hid (show ∀ x ∈ ps.take (j + 1), T.okCmp rows x from fun x hx => by
                  rw [HST.out.1] at hx
                  rcases List.mem_append.1 hx with hx | hx
                  · exact HD.out x hx
                  · rw [List.mem_singleton.1 hx]
                    exact HOK0.out.2 (by trivial))
                clear HD HST HOK0 HHa
                go_wp2_with fail
                go_roundw
                case rel => exact ⟨j + 1, by omega, by go_num, U, kC, HD2⟩
                case measure => (simp only [intOf]; omega)
          · skip
            obtain rfl : j = ps.length := by omega
            have dk : decide ((ps.length : Int) < (ps.length : Int)) = false := decide_eq_false (by omega)
            have HY := Lib.hid (show ((rows.length = rs.length ∧ ∀ x ∈ rows, x.length = H + 1) ∧ T.Tr H rs os ps (T.offs rows)) from ⟨HALL.out.1, (T.tr_parts HALL.out.1.1).2 ⟨HALL.out.2, fun x hx => HD.out x (by rw [List.take_length]; exact hx)⟩⟩)
            have HU := Lib.hid U
            clear HALL HD
            go_wp2
            go_ret2
            exact ⟨⟨true, rfl, ⟨fun _ => HY.out, fun _ => rfl⟩⟩, HU.out⟩
  · skip
    have f0 : ((rows.length : Int) == (rs.length : Int)) = false := by rw [beq_eq_false_iff_ne]; omega
    have f1 : ((rows.length : Int) != (rs.length : Int)) = true := by rw [bne_iff_ne]; omega
    have HNo := Lib.hid (show ((rows.length = rs.length ∧ ∀ x ∈ rows, x.length = H + 1) ∧ T.Tr H rs os ps (T.offs rows)) → False from fun h => hlen h.1.1)
    clear hlen v2
    have HU := Lib.hid U
    go_wp2
    go_ret2
    exact ⟨⟨false, rfl, ⟨fun h => (by cases h), fun h => (HNo.out h).elim⟩⟩, HU.out⟩
end

end Go.Proofs.Ytonklhfpjooheaa
