import Derived.Test.YtonklhfpjooheaaRfB
import Derived.Test.YtonklhfpjooheaaHeQ
import Derived.Test.YtonklhfpjooheaaHsI
/- The contract of the reference's most. -/
namespace Go.Proofs.Ytonklhfpjooheaa
open Go.RowKit Go.Shelf
attribute [local go_sem] Oper.semAt_some

section
variable {aR aO aP : Option Addr} {H nR cR nO cO nP cP : Nat} {rs : T.LR} {os : T.LO} {ps : T.LP}
set_option maxRecDepth 100000 in
set_option maxHeartbeats 8000000 in
set_option linter.unusedSimpArgs false in
theorem r_most_any {w : World} (G : T.Good H rs os ps) (I : Sps w (.slice aR nR cR) rs) (IO : Ops w (.slice aO nO cO) os) (IP : Prs w (.slice aP nP cP) ps) {z : Nat} (hz : z < 32) :
    Calls Try.prog 61 #[ClV H (.slice aR nR cR) (.slice aO nO cO) (.slice aP nP cP), .int .i64 (z : Int)] w fun e w' => ((∃ (g N : Nat) (rw : Nat → Nat) (M : T.Mt), N = 1 + rs.length * (H + 1) ∧ e = .returned (.tuple #[.slice (some ⟨g, 0, none⟩) N N, .bool true]) ∧ T.Mx w' g N rw M N ∧ ∀ m1 m2, m1 ∈ T.moms rs.length H → m2 ∈ T.moms rs.length H → (∀ y, T.Tru H rs os ps (z.testBit 0) (z.testBit 1) (z.testBit 2) (z.testBit 3) (z.testBit 4) y → y m1 - y m2 ≤ M (T.ml H m1) (T.ml H m2)) ∧ ∃ y, T.Tru H rs os ps (z.testBit 0) (z.testBit 1) (z.testBit 2) (z.testBit 3) (z.testBit 4) y ∧ y m1 - y m2 = M (T.ml H m1) (T.ml H m2)) ∨ (e = .returned (.tuple #[.slice none 0 0, .bool false]) ∧ ∀ y, ¬ T.Tru H rs os ps (z.testBit 0) (z.testBit 1) (z.testBit 2) (z.testBit 3) (z.testBit 4) y)) ∧ Up w w' := by
  have hn := I.len
  subst hn
  have hnp := IP.len
  subst hnp
  have q1 := G.h1
  have q2 := G.h2
  have q3 := G.r1
  have q4 := G.r2
  have q6 := G.p14
  have hmx : Try.prog.follows .mixedOrders = true := by kernel_rfl
  have hm65 : rs.length * (H + 1) ≤ 65 := by
    have := Nat.mul_le_mul q4 (show H + 1 ≤ 13 by omega)
    omega
  have mul : (rs.length : Int) * ((H : Int) + 1) = ((rs.length * (H + 1) : Nat) : Int) := by rw [Int.natCast_mul]; rfl
  have w1 : IntKind.i64.wrap ((H : Int) + 1) = (H : Int) + 1 := IntWalk.i64_in _ (by omega)
  have w2 : IntKind.i64.wrap ((rs.length : Int) * ((H : Int) + 1)) = ((rs.length * (H + 1) : Nat) : Int) := by rw [mul]; exact IntWalk.i64_in _ (by omega)
  obtain ⟨N, hN⟩ : ∃ N, 1 + rs.length * (H + 1) = N := ⟨_, rfl⟩
  have w3 : IntKind.i64.wrap (1 + ((rs.length * (H + 1) : Nat) : Int)) = (N : Int) := by rw [← hN, show (1 : Int) + ((rs.length * (H + 1) : Nat) : Int) = ((1 + rs.length * (H + 1) : Nat) : Int) by omega]; exact IntWalk.i64_in _ (by omega)
  have hN2 : N ≤ 66 := by omega
  have hN1 : 1 ≤ N := by omega
  obtain ⟨xN, hxN⟩ : ∃ x, rs.length * (H + 1) = x := ⟨_, rfl⟩
  rw [hxN] at w2 w3
  have HI := Lib.hid (fun w' (u : Up w w') => I.up u)
  have HO := Lib.hid (fun w' (u : Up w w') => IO.up u)
  have HP := Lib.hid (fun w' (u : Up w w') => IP.up u)
  have HG := Lib.hid G
  have HN := Lib.hid hN
  have hplc : ∀ k h, k < rs.length → h ≤ H → T.plc H k h < N := fun k h hk hh => by rw [← hN]; exact T.plc_lt hk hh
  have HPL := Lib.hid hplc
  obtain ⟨zT, hzT, hmkT⟩ : ∃ zT : Array Value, zT.size = N ∧ ∀ w : World, (Instr.makeSlice 27 (.int .i64 (N : Int)) (.int .i64 (N : Int))).run Try.prog w = .ok (.slice (some ⟨w.heap.size, 0, none⟩) N N) (w.alloc (.cells zT 44)) := ⟨madeCells (Value.cells (.slice none 0 0)) (N * 1), T.zsize _ _, fun w => by
    obtain ⟨i0, hi, hz0, hz1, hz2⟩ := info_parts infoInts
    have := run_make (P := Try.prog) w 27 44 i0 (.slice none 0 0) Try.underlying27 hi hz0 .i64 .i64 (N : Int) (N : Int) (by omega) (Int.le_refl _) (by rw [hz2]; omega) (by omega)
    rw [hz1, Int.toNat_natCast] at this
    exact this⟩
  obtain ⟨zI, hzI, hzC, hmkI⟩ : ∃ zI : Array Value, zI.size = N ∧ (∀ b, b < N → zI[b]? = some (.int .i64 0)) ∧ ∀ w : World, (Instr.makeSlice 44 (.int .i64 (N : Int)) (.int .i64 (N : Int))).run Try.prog w = .ok (.slice (some ⟨w.heap.size, 0, none⟩) N N) (w.alloc (.cells zI 3)) := ⟨madeCells (Value.cells (.int .i64 0)) (N * 1), T.zsize _ _, T.zcell N, fun w => by
    obtain ⟨i0, hi, hz0, hz1, hz2⟩ := info_parts Try.infoInt
    have := run_make (P := Try.prog) w 44 3 i0 (.int .i64 0) Try.underlying44 hi hz0 .i64 .i64 (N : Int) (N : Int) (by omega) (Int.le_refl _) (by rw [hz2]; omega) (by omega)
    rw [hz1, Int.toNat_natCast] at this
    exact this⟩
  have HZ := Lib.hid (And.intro hzI hzC)
  clear hplc hm65 mul hN hxN G I IO IP hzI hzC
  go_enter Try.func61, Try.ntmps61
  obtain ⟨q0, e0⟩ : ∃ x, w.heap.size = x := ⟨_, rfl⟩
  have U := ((Up.refl w).alloc (.cells #[.int .i64 H, .slice aR rs.length cR, .slice aO nO cO, .slice aP ps.length cP] 26)).alloc (.cells zT 44)
  have kC := blk_keep (.cells zT 44) (blk_new w (.cells #[.int .i64 H, .slice aR rs.length cR, .slice aO nO cO, .slice aP ps.length cP] 26) q0 e0.symm)
  have kG := blk_new (w.alloc (.cells #[.int .i64 H, .slice aR rs.length cR, .slice aO nO cO, .slice aP ps.length cP] 26)) (.cells zT 44) (q0 + 1) (by simp [e0])
  have HM0 := Lib.hid (show T.Mx ((w.alloc (.cells #[.int .i64 H, .slice aR rs.length cR, .slice aO nO cO, .slice aP ps.length cP] 26)).alloc (.cells zT 44)) (q0 + 1) N (fun _ => 0) T.mt0 0 from ⟨⟨zT, kG, hzT, fun a ha => absurd ha (Nat.not_lt_zero a)⟩, fun a ha => absurd ha (Nat.not_lt_zero a), fun a b ha => absurd ha (Nat.not_lt_zero a)⟩)
  clear kG hzT
  go_wp2_with fail
  clear w1 w2 w3 hmkT
  go_loopw [8] (fun i wr => ∃ (k : Nat) (rw : Nat → Nat), k ≤ N ∧ i = .int .i64 k ∧ Up w wr ∧ mblk wr q0 = some (.cells #[.int .i64 H, .slice aR rs.length cR, .slice aO nO cO, .slice aP ps.length cP] 26 (0, 0)) ∧ Hid (T.Mx wr (q0 + 1) N rw T.mt0 k) ∧ Hid (∀ a, a < k → q0 + 1 < rw a)) (fun i _ => N - (intOf i).toNat)
  case atStart => exact ⟨0, _, Nat.zero_le _, rfl, U, kC, HM0, Lib.hid (fun a ha => absurd ha (Nat.not_lt_zero a))⟩
  case round =>
    clear U kC HM0
    obtain ⟨k, rw, hk, rfl, U, kC, HM, HRW⟩ := hrel
    by_cases hlt : k < N
    · skip
      have d1 : decide ((k : Int) < (N : Int)) = true := decide_eq_true (by omega)
      have ilt : (k : Int) < (N : Int) := by omega
      have ek : IntKind.i64.wrap ((k : Int) + 1) = (k : Int) + 1 := IntWalk.i64_in _ (by omega)
      obtain ⟨v0, cg⟩ := HM.out.cellG hlt
      have lg : q0 + 1 < wr.heap.size := by obtain ⟨cs, h1, _⟩ := HM.out.top; exact blk_lt h1
      have cg2 := (Up.refl wr).alloc (.cells zI 3) |>.cell2 cg
      have zg := (HM.out.up ((Up.refl wr).alloc (.cells zI 3))).frozG k
      have zg' := HM.out.frozG k
      obtain ⟨rw2, hrw2⟩ : ∃ f, (fun a => if a = k then wr.heap.size else rw a) = f := ⟨_, rfl⟩
      have HMa := Lib.hid (show T.Mx ((wr.alloc (.cells zI 3)).setCell ⟨q0 + 1, k, none⟩ (.slice (some ⟨wr.heap.size, 0, none⟩) N N)) (q0 + 1) N rw2 (T.mtk k 0) (k + 1) by
        rw [← hrw2]
        exact (HM.out.up ((Up.refl wr).alloc (.cells zI 3))).add hlt (blk_new wr _ _ rfl) HZ.out.1 (fun b hb => by rw [(T.mtk_self k b).2.2]; exact HZ.out.2 b hb) (fun a ha => by have := HM.out.lt ha; omega) (fun a b ha _ => T.mtk_0 k a b ha))
      have HRW2 := Lib.hid (show ∀ a, a < k + 1 → q0 + 1 < rw2 a from fun a ha => by
        rw [← hrw2]
        by_cases e : a = k
        · simp only [e, if_true]
          exact lg
        · simp only [e, if_false]
          exact HRW.out a (by omega))
      have Ua := (U.alloc (.cells zI 3)).set (p := ⟨q0 + 1, k, none⟩) (show w.heap.size ≤ q0 + 1 by omega) (.slice (some ⟨wr.heap.size, 0, none⟩) N N)
      have kCa : mblk ((wr.alloc (.cells zI 3)).setCell ⟨q0 + 1, k, none⟩ (.slice (some ⟨wr.heap.size, 0, none⟩) N N)) q0 = some (.cells #[.int .i64 H, .slice aR rs.length cR, .slice aO nO cO, .slice aP ps.length cP] 26 (0, 0)) := by rw [blk_set _ _ _ _ (by show q0 ≠ q0 + 1; omega)]; exact blk_keep _ kC
      clear hrw2 HM HRW kC
      go_wp2_with fail
      have hcom := World.setCell_alloc_past (w := wr) (.cells zI 3) (q0 + 1) k (.slice (some ⟨wr.heap.size, 0, none⟩) N N) lg
      rw [hcom] at HMa Ua kCa
      try rw [hcom]
      obtain ⟨Wa, hWa⟩ : ∃ z, (wr.setCell ⟨q0 + 1, k, none⟩ (.slice (some ⟨wr.heap.size, 0, none⟩) N N)).alloc (.cells zI 3) = z := ⟨_, rfl⟩
      rw [hWa] at HMa Ua kCa
      try rw [hWa]
      clear hWa hcom zg zg' cg cg2 U
      go_loopw [9] (fun i wr => ∃ (b : Nat), b ≤ N ∧ i = .int .i64 b ∧ Up w wr ∧ mblk wr q0 = some (.cells #[.int .i64 H, .slice aR rs.length cR, .slice aO nO cO, .slice aP ps.length cP] 26 (0, 0)) ∧ Hid (T.Mx wr (q0 + 1) N rw2 (T.mtk k b) (k + 1))) (fun i _ => N - (intOf i).toNat)
      case atStart => exact ⟨0, Nat.zero_le _, rfl, Ua, kCa, HMa⟩
      case round =>
        clear Ua kCa HMa
        obtain ⟨b, hb, rfl, U, kC, HM⟩ := hrel
        by_cases hlt2 : b < N
        · have d2 : decide ((b : Int) < (N : Int)) = true := decide_eq_true (by omega)
          have ilt2 : (b : Int) < (N : Int) := by omega
          have eb : IntKind.i64.wrap ((b : Int) + 1) = (b : Int) + 1 := IntWalk.i64_in _ (by omega)
          by_cases hbk : b = k
          · subst hbk
            have HM2 := Lib.hid (HM.out.congr (M' := T.mtk b (b + 1)) (fun x y _ _ => T.mtk_same x y))
            clear HM
            go_wp2_with fail
            go_roundw
            case rel => exact ⟨b + 1, by omega, by go_num, U, kC, HM2⟩
            case measure => (simp only [intOf]; omega)
          · have f1 : ((k : Int) == (b : Int)) = false := by rw [beq_eq_false_iff_ne]; omega
            have f2 : ((k : Int) != (b : Int)) = true := by rw [bne_iff_ne]; omega
            have c1 := HM.out.cell1 (show k < k + 1 by omega)
            have c2 := HM.out.cell2 (show k < k + 1 by omega) hlt2
            have zf := HM.out.froz (show k < k + 1 by omega) b
            have hr := HRW2.out k (by omega)
            have HM2 := Lib.hid ((HM.out.put (b := b) (show k < k + 1 by omega) 1099511627776).congr (M' := T.mtk k (b + 1)) (fun x y _ _ => T.mtk_put hbk x y))
            have U2 := U.set (p := ⟨rw2 k, b, none⟩) (show w.heap.size ≤ rw2 k by omega) (.int .i64 1099511627776)
            have kC2 : mblk (wr.setCell ⟨rw2 k, b, none⟩ (.int .i64 1099511627776)) q0 = some (.cells #[.int .i64 H, .slice aR rs.length cR, .slice aO nO cO, .slice aP ps.length cP] 26 (0, 0)) := by rw [blk_set _ _ _ _ (by show q0 ≠ rw2 k; omega)]; exact kC
            clear HM kC U
            go_wp2_with fail
            go_roundw
            case rel => exact ⟨b + 1, by omega, by go_num, U2, kC2, HM2⟩
            case measure => (simp only [intOf]; omega)
        · obtain rfl : b = N := by omega
          have d2 : decide ((b : Int) < (b : Int)) = false := decide_eq_false (by omega)
          have HM2 := Lib.hid (HM.out.congr (M' := T.mt0) (fun x y _ hy => T.mtk_end hy))
          clear HM
          go_wp2_with fail
          go_roundw
          case rel => exact ⟨k + 1, rw2, by omega, by go_num, U, kC, HM2, HRW2⟩
          case measure => (simp only [intOf]; omega)
    · skip
      have hkN : N = k := by omega
      subst hkN
      have d1 : decide ((N : Int) < (N : Int)) = false := decide_eq_false (by omega)
      clear hmkI HZ
      go_wp2_with fail
      go_loopw [10] (fun i wr => ∃ (c : Nat) (M : T.Mt), c ≤ rs.length ∧ i = .int .i64 c ∧ Up w wr ∧ mblk wr q0 = some (.cells #[.int .i64 H, .slice aR rs.length cR, .slice aO nO cO, .slice aP ps.length cP] 26 (0, 0)) ∧ Hid (T.Mx wr (q0 + 1) N rw M N) ∧ Hid (T.Ini N M (T.upto H rs os c 0) ∧ T.Fr N (T.plc H c 0 - 1) M)) (fun i _ => rs.length - (intOf i).toNat)
      case atStart => exact ⟨0, T.mt0, Nat.zero_le _, rfl, U, kC, HM, Lib.hid ⟨T.Ini.zero.congr (fun y => T.upto_zero y), by rw [show T.plc H 0 0 - 1 = 0 by unfold T.plc; omega]; exact T.fr0⟩⟩
      case round =>
        clear U kC HM
        obtain ⟨c, M, hc, rfl, U, kC, HM, HI0⟩ := hrel
        by_cases hlt3 : c < rs.length
        · skip
          have d3 : decide ((c : Int) < (rs.length : Int)) = true := decide_eq_true (by omega)
          have ilt3 : (c : Int) < (rs.length : Int) := by omega
          have ec : IntKind.i64.wrap ((c : Int) + 1) = (c : Int) + 1 := IntWalk.i64_in _ (by omega)
          go_wp2_with fail
          go_loopw [11] (fun i wr => ∃ (h : Nat) (M : T.Mt), h ≤ H + 1 ∧ i = .int .i64 h ∧ Up w wr ∧ mblk wr q0 = some (.cells #[.int .i64 H, .slice aR rs.length cR, .slice aO nO cO, .slice aP ps.length cP] 26 (0, 0)) ∧ Hid (T.Mx wr (q0 + 1) N rw M N) ∧ Hid (T.Ini N M (T.upto H rs os c h) ∧ T.Fr N (T.plc H c h - 1) M)) (fun i _ => H + 1 - (intOf i).toNat)
          case atStart => exact ⟨0, M, Nat.zero_le _, rfl, U, kC, HM, HI0⟩
          case round =>
            clear U kC HM HI0
            obtain ⟨h, M, hh, rfl, U, kC, HM, HI0⟩ := hrel
            by_cases hlt4 : h ≤ H
            · skip
              have d4 : decide ((h : Int) ≤ (H : Int)) = true := decide_eq_true (by omega)
              have ilt4 : (h : Int) ≤ (H : Int) := by omega
              have eh : IntKind.i64.wrap ((h : Int) + 1) = (h : Int) + 1 := IntWalk.i64_in _ (by omega)
              have htN := HPL.out c h hlt3 hlt4
              have HPc := Lib.hid (fun w' => r_place_any (R := .slice aR rs.length cR) (O := .slice aO nO cO) (P := .slice aP ps.length cP) w' (k := c) (h := h) q2 (by omega) (by omega))
              obtain ⟨t, ht⟩ : ∃ t, T.plc H c h = t := ⟨_, rfl⟩
              rw [ht] at htN HPc
              have t0 : 0 < t := by rw [← ht]; unfold T.plc; omega
              have HT := Lib.hid ht
              clear ht
              go_wp2_with fail
              refine (HPc.out _).mono ?_
              rintro e x1 ⟨rfl, u⟩
              replace U := U.trans u
              replace kC := u.blk kC
              replace HM := Lib.hid (HM.out.up u)
              clear u HPc
              go_wp2_with fail
              have ilt : (t : Int) < (N : Int) := by omega
              have i0N : (0 : Int) < (N : Int) := by omega
              have i0N' : 0 < N := by omega
              have c1 := HM.out.cell1 htN
              have c0 := HM.out.cell1 (show 0 < N by omega)
              have hr1 := HRW.out t htN
              have hr0 := HRW.out 0 (by omega)
              have hne : rw t ≠ rw 0 := fun e => by have := HM.out.inj t 0 htN (by omega) e; omega
              have n10 : q0 + 1 ≠ rw t := by omega
              have n11 : q0 + 1 ≠ rw 0 := by omega
              refine (wpIn_wide (n := 5)).1 ?_
              refine wpIn_nrm ?_
              refine regionG (fun w' => w'.cell? ⟨q0 + 1, t, none⟩ = some (.slice (some ⟨rw t, 0, none⟩) N N) ∧ w'.cell? ⟨q0 + 1, 0, none⟩ = some (.slice (some ⟨rw 0, 0, none⟩) N N)) 10 hmx ⟨c1, c0⟩ (fun hHeld hCl => ?_)
              obtain ⟨XD, hXD⟩ : ∃ X, x1.drew = X := ⟨_, rfl⟩
              have MA := (HM.out.up (Up.refl x1).drew)
              have UX := U.drew
              have kXD : mblk x1.drew q0 = some (.cells #[.int .i64 H, .slice aR rs.length cR, .slice aO nO cO, .slice aP ps.length cP] 26 (0, 0)) := by rw [blk_drew]; exact kC
              rw [hXD] at hHeld MA UX kXD
              rw [hXD]
              clear hXD
              refine takeG (i := 0) (d := (some 74)) (v := ?v1) rfl rfl (by kernel_rfl) (by kernel_rfl) (by decide) hCl (by kernel_rfl) (by kernel_rfl) (by kernel_rfl) (fun _ _ _ h => h) (by rfl) ?hy1 (fun _ _ _ => trivial) (by assumption) (fun hCl' => ?_)
              case hy1 => ((intro w hSw; (try dsimp only at hSw); (try go_split_ands); go_simp); try with_reducible rfl)
              simp only [Act.put, List.setIfInBounds_toArray, List.set_cons_zero, List.set_cons_succ]
              replace hCl := hCl'; clear hCl'
              refine takeG (i := 1) (d := (some 75)) (v := ?v2) rfl rfl (by kernel_rfl) (by kernel_rfl) (by decide) hCl (by kernel_rfl) (by kernel_rfl) (by kernel_rfl) (fun _ _ _ h => h) (by rfl) ?hy2 (fun _ _ _ => trivial) (by assumption) (fun hCl' => ?_)
              case hy2 => ((intro w hSw; (try dsimp only at hSw); (try go_split_ands); go_simp); try with_reducible rfl)
              simp only [Act.put, List.setIfInBounds_toArray, List.set_cons_zero, List.set_cons_succ]
              replace hCl := hCl'; clear hCl'
              refine takeG (i := 2) (d := (some 76)) (v := ?v3) rfl rfl (by kernel_rfl) (by kernel_rfl) (by decide) hCl (by kernel_rfl) (by kernel_rfl) (by kernel_rfl) (fun _ _ _ h => h) (by rfl) ?hy3 (fun _ _ _ => trivial) (by assumption) (fun hCl' => ?_)
              case hy3 => ((intro w hSw; (try dsimp only at hSw); (try go_split_ands); go_simp); try with_reducible rfl)
              simp only [Act.put, List.setIfInBounds_toArray, List.set_cons_zero, List.set_cons_succ]
              replace hCl := hCl'; clear hCl'
              refine takeG (i := 3) (d := (some 77)) (v := ?v4) rfl rfl (by kernel_rfl) (by kernel_rfl) (by decide) hCl (by kernel_rfl) (by kernel_rfl) (by kernel_rfl) (fun _ _ _ h => h) (by rfl) ?hy4 (fun _ _ _ => trivial) (by assumption) (fun hCl' => ?_)
              case hy4 => ((intro w hSw; (try dsimp only at hSw); (try go_split_ands); go_simp); try with_reducible rfl)
              simp only [Act.put, List.setIfInBounds_toArray, List.set_cons_zero, List.set_cons_succ]
              replace hCl := hCl'; clear hCl'
              refine takeG (i := 4) (d := (some 78)) (v := ?v5) rfl rfl (by kernel_rfl) (by kernel_rfl) (by decide) hCl (by kernel_rfl) (by kernel_rfl) (by kernel_rfl) (fun _ _ _ h => h) (by rfl) ?hy5 (fun _ _ _ => trivial) (by assumption) (fun hCl' => ?_)
              case hy5 => ((intro w hSw; (try dsimp only at hSw); (try go_split_ands); go_simp); try with_reducible rfl)
              simp only [Act.put, List.setIfInBounds_toArray, List.set_cons_zero, List.set_cons_succ]
              replace hCl := hCl'; clear hCl'
              refine takeG (i := 5) (d := (some 79)) (v := ?v6) rfl rfl (by kernel_rfl) (by kernel_rfl) (by decide) hCl (by kernel_rfl) (by kernel_rfl) (by kernel_rfl) (fun _ _ _ h => h) (by rfl) ?hy6 (fun _ _ _ => trivial) (by assumption) (fun hCl' => ?_)
              case hy6 => ((intro w hSw; (try dsimp only at hSw); (try go_split_ands); go_simp); try with_reducible rfl)
              simp only [Act.put, List.setIfInBounds_toArray, List.set_cons_zero, List.set_cons_succ]
              replace hCl := hCl'; clear hCl'
              refine takeG (i := 6) (d := (some 80)) (v := ?v7) rfl rfl (by kernel_rfl) (by kernel_rfl) (by decide) hCl (by kernel_rfl) (by kernel_rfl) (by kernel_rfl) (fun _ _ _ h => h) (by rfl) ?hy7 (fun _ _ _ => trivial) (by assumption) (fun hCl' => ?_)
              case hy7 => ((intro w hSw; (try dsimp only at hSw); (try go_split_ands); go_simp); try with_reducible rfl)
              simp only [Act.put, List.setIfInBounds_toArray, List.set_cons_zero, List.set_cons_succ]
              replace hCl := hCl'; clear hCl'
              refine takeG (i := 7) (d := (some 81)) (v := ?v8) rfl rfl (by kernel_rfl) (by kernel_rfl) (by decide) hCl (by kernel_rfl) (by kernel_rfl) (by kernel_rfl) (fun _ _ _ h => h) (by rfl) ?hy8 (fun _ _ _ => trivial) (by assumption) (fun hCl' => ?_)
              case hy8 => ((intro w hSw; (try dsimp only at hSw); (try go_split_ands); go_simp); try with_reducible rfl)
              simp only [Act.put, List.setIfInBounds_toArray, List.set_cons_zero, List.set_cons_succ]
              replace hCl := hCl'; clear hCl'
              refine nextG (i := 8) (by kernel_rfl) rfl (by rfl) hCl (fun K hK => ?_)
              go_simp
              refine hK.out _ _ hHeld (fun _ hCl => ?_)
              clear hK K
              try simp only [Act.put, List.setIfInBounds_toArray, List.set_cons_zero, List.set_cons_succ]
              have zf := MA.froz htN 0
              have ze := MA.cell2 htN (show 0 < N by omega)
              refine nextG (i := 9) (by kernel_rfl) rfl (by rfl) hCl (fun K hK => ?_)
              go_simp
              have MB := MA.put (b := 0) htN 100000
              have UB := UX.set (p := ⟨rw t, 0, none⟩) (show w.heap.size ≤ rw t by omega) (.int .i64 100000)
              have kB : mblk (XD.setCell ⟨rw t, 0, none⟩ (.int .i64 100000)) q0 = some (.cells #[.int .i64 H, .slice aR rs.length cR, .slice aO nO cO, .slice aP ps.length cP] 26 (0, 0)) := by rw [blk_set _ _ _ _ (by show q0 ≠ rw t; omega)]; exact kXD
              obtain ⟨WB, hWB⟩ : ∃ z, XD.setCell ⟨rw t, 0, none⟩ (.int .i64 100000) = z := ⟨_, rfl⟩
              rw [hWB] at MB UB kB
              try rw [hWB]
              refine hK.out _ _ ⟨MB.cell1 htN, MB.cell1 (by omega)⟩ (fun _ hCl => ?_)
              clear hK K hWB zf ze MA hHeld
              try simp only [Act.put, List.setIfInBounds_toArray, List.set_cons_zero, List.set_cons_succ]
              refine lastG (i := 10) (by kernel_rfl) rfl (by rfl) (by decide) (fun K hK => ?_)
              go_simp
              refine hK.out _ _ ?_
              clear hK K
              try simp only [Act.put, List.setIfInBounds_toArray, List.set_cons_zero, List.set_cons_succ]
              have zf := MB.froz (show 0 < N by omega) t
              have ze := MB.cell2 (show 0 < N by omega) htN
              refine lastG (i := 11) (by kernel_rfl) rfl (by rfl) (by decide) (fun K hK => ?_)
              go_simp
              have MC := MB.put (b := t) (show 0 < N by omega) 100000
              have UC := UB.set (p := ⟨rw 0, t, none⟩) (show w.heap.size ≤ rw 0 by omega) (.int .i64 100000)
              have kD : mblk (WB.setCell ⟨rw 0, t, none⟩ (.int .i64 100000)) q0 = some (.cells #[.int .i64 H, .slice aR rs.length cR, .slice aO nO cO, .slice aP ps.length cP] 26 (0, 0)) := by rw [blk_set _ _ _ _ (by show q0 ≠ rw 0; omega)]; exact kB
              obtain ⟨WC, hWC⟩ : ∃ z, WB.setCell ⟨rw 0, t, none⟩ (.int .i64 100000) = z := ⟨_, rfl⟩
              rw [hWC] at MC UC kD
              try rw [hWC]
              refine hK.out _ _ ?_
              clear hK K hWC zf ze hCl
              refine doneG (by kernel_rfl) ?_ _
              refine S.nrm_intro ?_
              have HMC := Lib.hid MC
              clear MC MB UB kB U kC HM c1 c0
              by_cases hh0 : h = 0
              · skip
                subst hh0
                have d5 : decide ((0 : Int) > 0) = false := by decide
                have HI1 := Lib.hid (show T.Ini N (T.mup (T.mup M t 0 100000) 0 t 100000) (T.upto H rs os c (0 + 1)) ∧ T.Fr N (T.plc H c (0 + 1) - 1) (T.mup (T.mup M t 0 100000) 0 t 100000) by
                  have := T.Ini.hour0 (n := N) HI0.out.1 HI0.out.2 (by rw [HT.out]; exact htN)
                  rw [HT.out] at this
                  rw [show T.plc H c (0 + 1) - 1 = t by rw [← HT.out]; unfold T.plc; omega]
                  exact this)
                clear HI0
                go_wp2_with fail
                go_roundw
                case rel => exact ⟨0 + 1, _, by omega, by go_num, UC, kD, HMC, HI1⟩
                case measure => (simp only [intOf]; omega)
              · skip
                have d5 : decide ((h : Int) > 0) = true := decide_eq_true (by omega)
                have f5 : (0 : Int) < (h : Int) := by omega
                have wh : IntKind.i64.wrap ((h : Int) - 1) = ((h - 1 : Nat) : Int) := by rw [show (h : Int) - 1 = ((h - 1 : Nat) : Int) by omega]; exact IntWalk.i64_in _ (by omega)
                have hpw : T.plc H c (h - 1) = t - 1 := by rw [← HT.out]; unfold T.plc; omega
                have hg := T.gto_bd HG.out (c : Int) ((h - 1 : Nat) : Int) (show (c : Int).toNat < rs.length from hlt3) os.length (Nat.le_refl _)
                rw [T.gto_all] at hg
                have ho6 := HG.out.o6
                obtain ⟨lo, hlo⟩ : ∃ x, (T.grw rs os (c : Int) ((h - 1 : Nat) : Int)).1 = x := ⟨_, rfl⟩
                obtain ⟨hi, hhi⟩ : ∃ x, (T.grw rs os (c : Int) ((h - 1 : Nat) : Int)).2 = x := ⟨_, rfl⟩
                have HGr := Lib.hid (fun w' (u : Up w w') => show Calls Try.prog 48 #[ClV H (.slice aR rs.length cR) (.slice aO nO cO) (.slice aP ps.length cP), .int .i64 (c : Int), .int .i64 ((h - 1 : Nat) : Int)] w' fun e w'' => e = .returned (SpV lo hi) ∧ Up w' w'' by rw [← hlo, ← hhi]; exact r_grows_any (aP := aP) (nP := ps.length) (cP := cP) HG.out hlt3 (HI.out _ u) (HO.out _ u))
                have HPw := Lib.hid (fun w' => show Calls Try.prog 79 #[ClV H (.slice aR rs.length cR) (.slice aO nO cO) (.slice aP ps.length cP), .int .i64 (c : Int), .int .i64 ((h - 1 : Nat) : Int)] w' fun e w'' => e = .returned (.int .i64 ((t - 1 : Nat) : Int)) ∧ Up w' w'' by rw [← hpw]; exact r_place_any w' q2 (by omega) (by omega))
                rw [hlo, hhi] at hg
                have bl : -1000000 ≤ lo ∧ lo ≤ 1000000 ∧ -1000000 ≤ hi ∧ hi ≤ 1000000 := by omega
                have HLH := Lib.hid (And.intro hlo hhi)
                clear hg hlo hhi hpw
                have t1 : 1 < t := by rw [← HT.out]; unfold T.plc; omega
                obtain ⟨t', ht'⟩ : ∃ t', t - 1 = t' := ⟨_, rfl⟩
                rw [ht'] at HPw
                have htt : t = t' + 1 := by omega
                have htN' : t' < N := by omega
                have HTT := Lib.hid htt
                clear ht' htt
                go_wp2_with fail
                apply T.mergeN (fun w' b => Up WC w' ∧ mblk w' b = some (.cells #[.int .i64 lo, .int .i64 hi] 34 (0, 0)) ∧ WC.heap.size ≤ b)
                · intro HKey
                  refine (wpIn_wide (n := 5)).1 ?_
                  refine wpIn_nrm ?_
                  refine regionG (fun w' => Up WC w' ∧ mblk w' q0 = some (.cells #[.int .i64 H, .slice aR rs.length cR, .slice aO nO cO, .slice aP ps.length cP] 26 (0, 0))) 12 hmx ⟨(Up.refl WC).drew, by rw [blk_drew]; exact kD⟩ (fun hHeld hCl => ?_)
                  refine takeG (i := 0) (d := (some 86)) (v := ?v13) rfl rfl (by kernel_rfl) (by kernel_rfl) (by decide) hCl (by kernel_rfl) (by kernel_rfl) (by kernel_rfl) (fun _ _ _ h => h) (by rfl) ?hy13 (fun _ _ _ => trivial) (by assumption) (fun hCl' => ?_)
                  case hy13 => ((intro w hSw; (try dsimp only at hSw); (try go_split_ands); go_simp); try with_reducible rfl)
                  simp only [Act.put, List.setIfInBounds_toArray, List.set_cons_zero, List.set_cons_succ]
                  replace hCl := hCl'; clear hCl'
                  refine takeG (i := 1) (d := (some 87)) (v := ?v14) rfl rfl (by kernel_rfl) (by kernel_rfl) (by decide) hCl (by kernel_rfl) (by kernel_rfl) (by kernel_rfl) (fun _ _ _ h => h) (by rfl) ?hy14 (fun _ _ _ => trivial) (by assumption) (fun hCl' => ?_)
                  case hy14 => ((intro w hSw; (try dsimp only at hSw); (try go_split_ands); go_simp); try with_reducible rfl)
                  simp only [Act.put, List.setIfInBounds_toArray, List.set_cons_zero, List.set_cons_succ]
                  replace hCl := hCl'; clear hCl'
                  refine takeG (i := 2) (d := (some 88)) (v := ?v15) rfl rfl (by kernel_rfl) (by kernel_rfl) (by decide) hCl (by kernel_rfl) (by kernel_rfl) (by kernel_rfl) (fun _ _ _ h => h) (by rfl) ?hy15 (fun _ _ _ => trivial) (by assumption) (fun hCl' => ?_)
                  case hy15 => ((intro w hSw; (try dsimp only at hSw); (try go_split_ands); go_simp); try with_reducible rfl)
                  simp only [Act.put, List.setIfInBounds_toArray, List.set_cons_zero, List.set_cons_succ]
                  replace hCl := hCl'; clear hCl'
                  refine takeG (i := 3) (d := (some 89)) (v := ?v16) rfl rfl (by kernel_rfl) (by kernel_rfl) (by decide) hCl (by kernel_rfl) (by kernel_rfl) (by kernel_rfl) (fun _ _ _ h => h) (by rfl) ?hy16 (fun _ _ _ => trivial) (by assumption) (fun hCl' => ?_)
                  case hy16 => ((intro w hSw; (try dsimp only at hSw); (try go_split_ands); go_simp); try with_reducible rfl)
                  simp only [Act.put, List.setIfInBounds_toArray, List.set_cons_zero, List.set_cons_succ]
                  replace hCl := hCl'; clear hCl'
                  refine takeG (i := 5) (d := (some 91)) (v := ?v17) rfl rfl (by kernel_rfl) (by kernel_rfl) (by decide) hCl (by kernel_rfl) (by kernel_rfl) (by kernel_rfl) (fun _ _ _ h => h) (by rfl) ?hy17 (fun _ _ _ => trivial) (by assumption) (fun hCl' => ?_)
                  case hy17 => ((intro w hSw; (try dsimp only at hSw); (try go_split_ands); go_simp); try with_reducible rfl)
                  simp only [Act.put, List.setIfInBounds_toArray, List.set_cons_zero, List.set_cons_succ]
                  replace hCl := hCl'; clear hCl'
                  refine takeG (i := 6) (d := (some 92)) (v := ?v18) rfl rfl (by kernel_rfl) (by kernel_rfl) (by decide) hCl (by kernel_rfl) (by kernel_rfl) (by kernel_rfl) (fun _ _ _ h => h) (by rfl) ?hy18 (fun _ _ _ => trivial) (by assumption) (fun hCl' => ?_)
                  case hy18 => ((intro w hSw; (try dsimp only at hSw); (try go_split_ands); go_simp); try with_reducible rfl)
                  simp only [Act.put, List.setIfInBounds_toArray, List.set_cons_zero, List.set_cons_succ]
                  replace hCl := hCl'; clear hCl'
                  refine takeG (i := 7) (d := (some 93)) (v := ?v19) rfl rfl (by kernel_rfl) (by kernel_rfl) (by decide) hCl (by kernel_rfl) (by kernel_rfl) (by kernel_rfl) (fun _ _ _ h => h) (by rfl) ?hy19 (fun _ _ _ => trivial) (by assumption) (fun hCl' => ?_)
                  case hy19 => ((intro w hSw; (try dsimp only at hSw); (try go_split_ands); go_simp); try with_reducible rfl)
                  simp only [Act.put, List.setIfInBounds_toArray, List.set_cons_zero, List.set_cons_succ]
                  replace hCl := hCl'; clear hCl'
                  refine takeG (i := 8) (d := (some 94)) (v := ?v20) rfl rfl (by kernel_rfl) (by kernel_rfl) (by decide) hCl (by kernel_rfl) (by kernel_rfl) (by kernel_rfl) (fun _ _ _ h => h) (by rfl) ?hy20 (fun _ _ _ => trivial) (by assumption) (fun hCl' => ?_)
                  case hy20 => ((intro w hSw; (try dsimp only at hSw); (try go_split_ands); go_simp); try with_reducible rfl)
                  simp only [Act.put, List.setIfInBounds_toArray, List.set_cons_zero, List.set_cons_succ]
                  replace hCl := hCl'; clear hCl'
                  have DD := (Up.refl WC).drew
                  refine nextG2 (i := 4) (j := 10) (by kernel_rfl) rfl rfl (by rfl) (by rfl) hCl ?_ ?_
                  · refine (fun K hK => ?_)
                    go_simp
                    refine ⟨trivial, (callsIn_wide.2 (HGr.out _ (UC.trans DD))).mono ?_⟩
                    rintro e y1 ⟨rfl, u1⟩
                    have D1 := DD.trans u1
                    refine hK.out _ _ ⟨D1, D1.blk kD⟩ (fun _ hCl => ?_)
                    clear hK K
                    try simp only [Act.put, List.setIfInBounds_toArray, List.set_cons_zero, List.set_cons_succ]
                    refine nextG2 (i := 9) (j := 10) (by kernel_rfl) rfl rfl (by rfl) (by rfl) hCl ?_ ?_
                    · refine (fun K hK => ?_)
                      go_simp
                      refine ⟨trivial, (callsIn_wide.2 (HPw.out _)).mono ?_⟩
                      rintro e y2 ⟨rfl, u2⟩
                      have D2 := D1.trans u2
                      refine hK.out _ _ ⟨D2, D2.blk kD⟩ (fun _ hCl => ?_)
                      clear hK K
                      try simp only [Act.put, List.setIfInBounds_toArray, List.set_cons_zero, List.set_cons_succ]
                      refine nextG (i := 10) (by kernel_rfl) rfl (by rfl) hCl (fun K hK => ?_)
                      go_simp
                      have D3 := D2.alloc (.cells #[.int .i64 0, .int .i64 0] 34)
                      have kz := blk_new y2 (.cells #[.int .i64 0, .int .i64 0] 34) _ rfl
                      have lz := D2.size
                      obtain ⟨pz, hpz⟩ : ∃ q, y2.heap.size = q := ⟨_, rfl⟩
                      obtain ⟨W3, hW3⟩ : ∃ q, y2.alloc (.cells #[.int .i64 0, .int .i64 0] 34) = q := ⟨_, rfl⟩
                      rw [hpz] at kz lz
                      rw [hW3] at kz D3
                      try rw [hW3]
                      try rw [hpz]
                      refine hK.out _ _ ⟨D3, D3.blk kD⟩ (fun _ hCl => ?_)
                      clear hK K hpz hW3
                      try simp only [Act.put, List.setIfInBounds_toArray, List.set_cons_zero, List.set_cons_succ]
                      have zf := frozB kz
                      refine nextG (i := 11) (by kernel_rfl) rfl (by rfl) hCl (fun K hK => ?_)
                      go_simp
                      have D4 := (D3.set (p := ⟨pz, 0, none⟩) (show WC.heap.size ≤ pz by omega) (.int .i64 lo)).set (p := ⟨pz, 1, none⟩) (show WC.heap.size ≤ pz by omega) (.int .i64 hi)
                      have kz4 : mblk ((W3.setCell ⟨pz, 0, none⟩ (.int .i64 lo)).setCell ⟨pz, 1, none⟩ (.int .i64 hi)) pz = some (.cells #[.int .i64 lo, .int .i64 hi] 34 (0, 0)) := blk_put (blk_put kz 0 _) 1 _
                      obtain ⟨W4, hW4⟩ : ∃ q, (W3.setCell ⟨pz, 0, none⟩ (.int .i64 lo)).setCell ⟨pz, 1, none⟩ (.int .i64 hi) = q := ⟨_, rfl⟩
                      rw [hW4] at D4 kz4
                      try rw [hW4]
                      refine hK.out _ _ ⟨D4, D4.blk kD⟩ (fun _ hCl => ?_)
                      clear hK K hW4 zf
                      try simp only [Act.put, List.setIfInBounds_toArray, List.set_cons_zero, List.set_cons_succ]
                      refine lastG (i := 12) (by kernel_rfl) rfl (by rfl) (by decide) (fun K hK => ?_)
                      go_simp
                      refine hK.out _ _ ?_
                      clear hK K hCl
                      refine doneG (by kernel_rfl) ?_ _
                      refine S.nrm_intro ?_
                      exact HKey.out _ pz ⟨D4, kz4, by omega⟩
                    · refine (fun K hK => ?_)
                      go_simp
                      have D3 := D1.alloc (.cells #[.int .i64 0, .int .i64 0] 34)
                      have kz := blk_new y1 (.cells #[.int .i64 0, .int .i64 0] 34) _ rfl
                      have lz := D1.size
                      obtain ⟨pz, hpz⟩ : ∃ q, y1.heap.size = q := ⟨_, rfl⟩
                      obtain ⟨W2, hW2⟩ : ∃ q, y1.alloc (.cells #[.int .i64 0, .int .i64 0] 34) = q := ⟨_, rfl⟩
                      rw [hpz] at kz lz
                      rw [hW2] at kz D3
                      try rw [hW2]
                      try rw [hpz]
                      refine hK.out _ _ ⟨D3, D3.blk kD⟩ (fun _ hCl => ?_)
                      clear hK K hpz hW2
                      try simp only [Act.put, List.setIfInBounds_toArray, List.set_cons_zero, List.set_cons_succ]
                      refine nextG (i := 9) (by kernel_rfl) rfl (by rfl) hCl (fun K hK => ?_)
                      go_simp
                      refine ⟨trivial, (callsIn_wide.2 (HPw.out _)).mono ?_⟩
                      rintro e W3 ⟨rfl, u2⟩
                      replace D3 := D3.trans u2
                      replace kz := u2.blk kz
                      refine hK.out _ _ ⟨D3, D3.blk kD⟩ (fun _ hCl => ?_)
                      clear hK K
                      try simp only [Act.put, List.setIfInBounds_toArray, List.set_cons_zero, List.set_cons_succ]
                      have zf := frozB kz
                      refine nextG (i := 11) (by kernel_rfl) rfl (by rfl) hCl (fun K hK => ?_)
                      go_simp
                      have D4 := (D3.set (p := ⟨pz, 0, none⟩) (show WC.heap.size ≤ pz by omega) (.int .i64 lo)).set (p := ⟨pz, 1, none⟩) (show WC.heap.size ≤ pz by omega) (.int .i64 hi)
                      have kz4 : mblk ((W3.setCell ⟨pz, 0, none⟩ (.int .i64 lo)).setCell ⟨pz, 1, none⟩ (.int .i64 hi)) pz = some (.cells #[.int .i64 lo, .int .i64 hi] 34 (0, 0)) := blk_put (blk_put kz 0 _) 1 _
                      obtain ⟨W4, hW4⟩ : ∃ q, (W3.setCell ⟨pz, 0, none⟩ (.int .i64 lo)).setCell ⟨pz, 1, none⟩ (.int .i64 hi) = q := ⟨_, rfl⟩
                      rw [hW4] at D4 kz4
                      try rw [hW4]
                      refine hK.out _ _ ⟨D4, D4.blk kD⟩ (fun _ hCl => ?_)
                      clear hK K hW4 zf
                      try simp only [Act.put, List.setIfInBounds_toArray, List.set_cons_zero, List.set_cons_succ]
                      refine lastG (i := 12) (by kernel_rfl) rfl (by rfl) (by decide) (fun K hK => ?_)
                      go_simp
                      refine hK.out _ _ ?_
                      clear hK K hCl
                      refine doneG (by kernel_rfl) ?_ _
                      refine S.nrm_intro ?_
                      exact HKey.out _ pz ⟨D4, kz4, by omega⟩
                  · refine (fun K hK => ?_)
                    go_simp
                    have D3 := DD.alloc (.cells #[.int .i64 0, .int .i64 0] 34)
                    have kz := blk_new WC.drew (.cells #[.int .i64 0, .int .i64 0] 34) _ rfl
                    have lz := DD.size
                    obtain ⟨pz, hpz⟩ : ∃ q, WC.drew.heap.size = q := ⟨_, rfl⟩
                    obtain ⟨W1, hW1⟩ : ∃ q, WC.drew.alloc (.cells #[.int .i64 0, .int .i64 0] 34) = q := ⟨_, rfl⟩
                    rw [hpz] at kz lz
                    rw [hW1] at kz D3
                    have hpz' : WC.heap.size = pz := hpz
                    have hW1' : (WC.alloc (.cells #[.int .i64 0, .int .i64 0] 34)).drew = W1 := hW1
                    try rw [hW1']
                    try rw [hpz']
                    refine hK.out _ _ ⟨D3, D3.blk kD⟩ (fun _ hCl => ?_)
                    clear hK K hpz hW1 hpz' hW1'
                    try simp only [Act.put, List.setIfInBounds_toArray, List.set_cons_zero, List.set_cons_succ]
                    refine nextG (i := 4) (by kernel_rfl) rfl (by rfl) hCl (fun K hK => ?_)
                    go_simp
                    refine ⟨trivial, (callsIn_wide.2 (HGr.out _ (UC.trans D3))).mono ?_⟩
                    rintro e y1 ⟨rfl, u1⟩
                    replace D3 := D3.trans u1
                    replace kz := u1.blk kz
                    refine hK.out _ _ ⟨D3, D3.blk kD⟩ (fun _ hCl => ?_)
                    clear hK K
                    try simp only [Act.put, List.setIfInBounds_toArray, List.set_cons_zero, List.set_cons_succ]
                    refine nextG (i := 9) (by kernel_rfl) rfl (by rfl) hCl (fun K hK => ?_)
                    go_simp
                    refine ⟨trivial, (callsIn_wide.2 (HPw.out _)).mono ?_⟩
                    rintro e W3 ⟨rfl, u2⟩
                    replace D3 := D3.trans u2
                    replace kz := u2.blk kz
                    refine hK.out _ _ ⟨D3, D3.blk kD⟩ (fun _ hCl => ?_)
                    clear hK K
                    try simp only [Act.put, List.setIfInBounds_toArray, List.set_cons_zero, List.set_cons_succ]
                    have zf := frozB kz
                    refine nextG (i := 11) (by kernel_rfl) rfl (by rfl) hCl (fun K hK => ?_)
                    go_simp
                    have D4 := (D3.set (p := ⟨pz, 0, none⟩) (show WC.heap.size ≤ pz by omega) (.int .i64 lo)).set (p := ⟨pz, 1, none⟩) (show WC.heap.size ≤ pz by omega) (.int .i64 hi)
                    have kz4 : mblk ((W3.setCell ⟨pz, 0, none⟩ (.int .i64 lo)).setCell ⟨pz, 1, none⟩ (.int .i64 hi)) pz = some (.cells #[.int .i64 lo, .int .i64 hi] 34 (0, 0)) := blk_put (blk_put kz 0 _) 1 _
                    obtain ⟨W4, hW4⟩ : ∃ q, (W3.setCell ⟨pz, 0, none⟩ (.int .i64 lo)).setCell ⟨pz, 1, none⟩ (.int .i64 hi) = q := ⟨_, rfl⟩
                    rw [hW4] at D4 kz4
                    try rw [hW4]
                    refine hK.out _ _ ⟨D4, D4.blk kD⟩ (fun _ hCl => ?_)
                    clear hK K hW4 zf
                    try simp only [Act.put, List.setIfInBounds_toArray, List.set_cons_zero, List.set_cons_succ]
                    refine lastG (i := 12) (by kernel_rfl) rfl (by rfl) (by decide) (fun K hK => ?_)
                    go_simp
                    refine hK.out _ _ ?_
                    clear hK K hCl
                    refine doneG (by kernel_rfl) ?_ _
                    refine S.nrm_intro ?_
                    exact HKey.out _ pz ⟨D4, kz4, by omega⟩
                rintro x2 ps2 ⟨D, ks, lps⟩
                have UD := UC.trans D
                have kE := D.blk kD
                have HMD := Lib.hid (HMC.out.up D)
                clear HMC UC kD D HGr HPw
                have iltw : (t' : Int) < (N : Int) := by omega
                have hr1 := HRW.out t htN
                have hr2 := HRW.out t' htN'
                have hnw : rw t ≠ rw t' := fun e => by have := HMD.out.inj t t' htN htN' e; have := HTT.out; omega
                have nps1 : ps2 ≠ rw t := fun e => by obtain ⟨cs, hcs, _⟩ := HMD.out.row t htN; rw [← e, ks] at hcs; cases hcs
                have nps2 : ps2 ≠ rw t' := fun e => by obtain ⟨cs, hcs, _⟩ := HMD.out.row t' htN'; rw [← e, ks] at hcs; cases hcs
                have c1 := HMD.out.cell1 htN
                have c2 := HMD.out.cell1 htN'
                have wn : IntKind.i64.wrap (-lo) = -lo := IntWalk.i64_in _ (by omega)
                have wn' : IntKind.i64.wrap (0 - lo) = -lo := by rw [show (0 : Int) - lo = -lo by omega]; exact wn
                go_wp2_with fail
                refine (wpIn_wide (n := 5)).1 ?_
                refine wpIn_nrm ?_
                refine regionG (fun w' => w'.cell? ⟨q0 + 1, t, none⟩ = some (.slice (some ⟨rw t, 0, none⟩) N N) ∧ w'.cell? ⟨q0 + 1, t', none⟩ = some (.slice (some ⟨rw t', 0, none⟩) N N) ∧ mblk w' ps2 = some (.cells #[.int .i64 lo, .int .i64 hi] 34 (0, 0))) 17 hmx ⟨c1, c2, by rw [blk_drew]; exact ks⟩ (fun hHeld hCl => ?_)
                obtain ⟨XD, hXD⟩ : ∃ X, x2.drew = X := ⟨_, rfl⟩
                have MA := (HMD.out.up (Up.refl x2).drew)
                have UX := UD.drew
                have kXD : mblk x2.drew q0 = some (.cells #[.int .i64 H, .slice aR rs.length cR, .slice aO nO cO, .slice aP ps.length cP] 26 (0, 0)) := by rw [blk_drew]; exact kE
                have ksD : mblk x2.drew ps2 = some (.cells #[.int .i64 lo, .int .i64 hi] 34 (0, 0)) := by rw [blk_drew]; exact ks
                rw [hXD] at hHeld MA UX kXD ksD
                rw [hXD]
                clear hXD
                refine takeG (i := 0) (d := (some 96)) (v := ?v31) rfl rfl (by kernel_rfl) (by kernel_rfl) (by decide) hCl (by kernel_rfl) (by kernel_rfl) (by kernel_rfl) (fun _ _ _ h => h) (by rfl) ?hy31 (fun _ _ _ => trivial) (by assumption) (fun hCl' => ?_)
                case hy31 => ((intro w hSw; (try dsimp only at hSw); (try go_split_ands); go_simp); try with_reducible rfl)
                simp only [Act.put, List.setIfInBounds_toArray, List.set_cons_zero, List.set_cons_succ]
                replace hCl := hCl'; clear hCl'
                refine takeG (i := 1) (d := (some 97)) (v := ?v32) rfl rfl (by kernel_rfl) (by kernel_rfl) (by decide) hCl (by kernel_rfl) (by kernel_rfl) (by kernel_rfl) (fun _ _ _ h => h) (by rfl) ?hy32 (fun _ _ _ => trivial) (by assumption) (fun hCl' => ?_)
                case hy32 => ((intro w hSw; (try dsimp only at hSw); (try go_split_ands); go_simp); try with_reducible rfl)
                simp only [Act.put, List.setIfInBounds_toArray, List.set_cons_zero, List.set_cons_succ]
                replace hCl := hCl'; clear hCl'
                refine takeG (i := 2) (d := (some 98)) (v := ?v33) rfl rfl (by kernel_rfl) (by kernel_rfl) (by decide) hCl (by kernel_rfl) (by kernel_rfl) (by kernel_rfl) (fun _ _ _ h => h) (by rfl) ?hy33 (fun _ _ _ => trivial) (by assumption) (fun hCl' => ?_)
                case hy33 => ((intro w hSw; (try dsimp only at hSw); (try go_split_ands); go_simp); try with_reducible rfl)
                simp only [Act.put, List.setIfInBounds_toArray, List.set_cons_zero, List.set_cons_succ]
                replace hCl := hCl'; clear hCl'
                refine takeG (i := 3) (d := (some 99)) (v := ?v34) rfl rfl (by kernel_rfl) (by kernel_rfl) (by decide) hCl (by kernel_rfl) (by kernel_rfl) (by kernel_rfl) (fun _ _ _ h => h) (by rfl) ?hy34 (fun _ _ _ => trivial) (by assumption) (fun hCl' => ?_)
                case hy34 => ((intro w hSw; (try dsimp only at hSw); (try go_split_ands); go_simp); try with_reducible rfl)
                simp only [Act.put, List.setIfInBounds_toArray, List.set_cons_zero, List.set_cons_succ]
                replace hCl := hCl'; clear hCl'
                refine takeG (i := 4) (d := (some 100)) (v := ?v35) rfl rfl (by kernel_rfl) (by kernel_rfl) (by decide) hCl (by kernel_rfl) (by kernel_rfl) (by kernel_rfl) (fun _ _ _ h => h) (by rfl) ?hy35 (fun _ _ _ => trivial) (by assumption) (fun hCl' => ?_)
                case hy35 => ((intro w hSw; (try dsimp only at hSw); (try go_split_ands); go_simp); try with_reducible rfl)
                simp only [Act.put, List.setIfInBounds_toArray, List.set_cons_zero, List.set_cons_succ]
                replace hCl := hCl'; clear hCl'
                refine takeG (i := 5) (d := (some 101)) (v := ?v36) rfl rfl (by kernel_rfl) (by kernel_rfl) (by decide) hCl (by kernel_rfl) (by kernel_rfl) (by kernel_rfl) (fun _ _ _ h => h) (by rfl) ?hy36 (fun _ _ _ => trivial) (by assumption) (fun hCl' => ?_)
                case hy36 => ((intro w hSw; (try dsimp only at hSw); (try go_split_ands); go_simp); try with_reducible rfl)
                simp only [Act.put, List.setIfInBounds_toArray, List.set_cons_zero, List.set_cons_succ]
                replace hCl := hCl'; clear hCl'
                refine takeG (i := 6) (d := (some 102)) (v := ?v37) rfl rfl (by kernel_rfl) (by kernel_rfl) (by decide) hCl (by kernel_rfl) (by kernel_rfl) (by kernel_rfl) (fun _ _ _ h => h) (by rfl) ?hy37 (fun _ _ _ => trivial) (by assumption) (fun hCl' => ?_)
                case hy37 => ((intro w hSw; (try dsimp only at hSw); (try go_split_ands); go_simp); try with_reducible rfl)
                simp only [Act.put, List.setIfInBounds_toArray, List.set_cons_zero, List.set_cons_succ]
                replace hCl := hCl'; clear hCl'
                refine takeG (i := 7) (d := (some 103)) (v := ?v38) rfl rfl (by kernel_rfl) (by kernel_rfl) (by decide) hCl (by kernel_rfl) (by kernel_rfl) (by kernel_rfl) (fun _ _ _ h => h) (by rfl) ?hy38 (fun _ _ _ => trivial) (by assumption) (fun hCl' => ?_)
                case hy38 => ((intro w hSw; (try dsimp only at hSw); (try go_split_ands); go_simp); try with_reducible rfl)
                simp only [Act.put, List.setIfInBounds_toArray, List.set_cons_zero, List.set_cons_succ]
                replace hCl := hCl'; clear hCl'
                refine takeG (i := 8) (d := (some 104)) (v := ?v39) rfl rfl (by kernel_rfl) (by kernel_rfl) (by decide) hCl (by kernel_rfl) (by kernel_rfl) (by kernel_rfl) (fun _ _ _ h => h) (by rfl) ?hy39 (fun _ _ _ => trivial) (by assumption) (fun hCl' => ?_)
                case hy39 => ((intro w hSw; (try dsimp only at hSw); (try go_split_ands); go_simp); try with_reducible rfl)
                simp only [Act.put, List.setIfInBounds_toArray, List.set_cons_zero, List.set_cons_succ]
                replace hCl := hCl'; clear hCl'
                refine takeG (i := 9) (d := (some 105)) (v := ?v40) rfl rfl (by kernel_rfl) (by kernel_rfl) (by decide) hCl (by kernel_rfl) (by kernel_rfl) (by kernel_rfl) (fun _ _ _ h => h) (by rfl) ?hy40 (fun _ _ _ => trivial) (by assumption) (fun hCl' => ?_)
                case hy40 => ((intro w hSw; (try dsimp only at hSw); (try go_split_ands); go_simp); try with_reducible rfl)
                simp only [Act.put, List.setIfInBounds_toArray, List.set_cons_zero, List.set_cons_succ]
                replace hCl := hCl'; clear hCl'
                refine takeG (i := 10) (d := (some 106)) (v := ?v41) rfl rfl (by kernel_rfl) (by kernel_rfl) (by decide) hCl (by kernel_rfl) (by kernel_rfl) (by kernel_rfl) (fun _ _ _ h => h) (by rfl) ?hy41 (fun _ _ _ => trivial) (by assumption) (fun hCl' => ?_)
                case hy41 => ((intro w hSw; (try dsimp only at hSw); (try go_split_ands); go_simp); try with_reducible rfl)
                simp only [Act.put, List.setIfInBounds_toArray, List.set_cons_zero, List.set_cons_succ]
                replace hCl := hCl'; clear hCl'
                refine takeG (i := 11) (d := (some 107)) (v := ?v42) rfl rfl (by kernel_rfl) (by kernel_rfl) (by decide) hCl (by kernel_rfl) (by kernel_rfl) (by kernel_rfl) (fun _ _ _ h => h) (by rfl) ?hy42 (fun _ _ _ => trivial) (by assumption) (fun hCl' => ?_)
                case hy42 => ((intro w hSw; (try dsimp only at hSw); (try go_split_ands); go_simp); try with_reducible rfl)
                simp only [Act.put, List.setIfInBounds_toArray, List.set_cons_zero, List.set_cons_succ]
                replace hCl := hCl'; clear hCl'
                refine takeG (i := 12) (d := (some 108)) (v := ?v43) rfl rfl (by kernel_rfl) (by kernel_rfl) (by decide) hCl (by kernel_rfl) (by kernel_rfl) (by kernel_rfl) (fun _ _ _ h => h) (by rfl) ?hy43 (fun _ _ _ => trivial) (by assumption) (fun hCl' => ?_)
                case hy43 => ((intro w hSw; (try dsimp only at hSw); (try go_split_ands); go_simp); try with_reducible rfl)
                simp only [Act.put, List.setIfInBounds_toArray, List.set_cons_zero, List.set_cons_succ]
                replace hCl := hCl'; clear hCl'
                refine takeG (i := 13) (d := (some 109)) (v := ?v44) rfl rfl (by kernel_rfl) (by kernel_rfl) (by decide) hCl (by kernel_rfl) (by kernel_rfl) (by kernel_rfl) (fun _ _ _ h => h) (by rfl) ?hy44 (fun _ _ _ => trivial) (by assumption) (fun hCl' => ?_)
                case hy44 => ((intro w hSw; (try dsimp only at hSw); (try go_split_ands); go_simp); try with_reducible rfl)
                simp only [Act.put, List.setIfInBounds_toArray, List.set_cons_zero, List.set_cons_succ]
                replace hCl := hCl'; clear hCl'
                refine takeG (i := 14) (d := (some 110)) (v := ?v45) rfl rfl (by kernel_rfl) (by kernel_rfl) (by decide) hCl (by kernel_rfl) (by kernel_rfl) (by kernel_rfl) (fun _ _ _ h => h) (by rfl) ?hy45 (fun _ _ _ => trivial) (by assumption) (fun hCl' => ?_)
                case hy45 => ((intro w hSw; (try dsimp only at hSw); (try go_split_ands); go_simp); try with_reducible rfl)
                simp only [Act.put, List.setIfInBounds_toArray, List.set_cons_zero, List.set_cons_succ]
                replace hCl := hCl'; clear hCl'
                refine nextG (i := 15) (by kernel_rfl) rfl (by rfl) hCl (fun K hK => ?_)
                go_simp
                refine hK.out _ _ hHeld (fun _ hCl => ?_)
                clear hK K
                try simp only [Act.put, List.setIfInBounds_toArray, List.set_cons_zero, List.set_cons_succ]
                have zf := MA.froz htN t'
                have ze := MA.cell2 htN htN'
                refine nextG (i := 16) (by kernel_rfl) rfl (by rfl) hCl (fun K hK => ?_)
                go_simp
                have MB := MA.put (b := t') htN hi
                have UB := UX.set (p := ⟨rw t, t', none⟩) (show w.heap.size ≤ rw t by omega) (.int .i64 hi)
                have kB : mblk (XD.setCell ⟨rw t, t', none⟩ (.int .i64 hi)) q0 = some (.cells #[.int .i64 H, .slice aR rs.length cR, .slice aO nO cO, .slice aP ps.length cP] 26 (0, 0)) := by rw [blk_set _ _ _ _ (by show q0 ≠ rw t; omega)]; exact kXD
                have ksB : mblk (XD.setCell ⟨rw t, t', none⟩ (.int .i64 hi)) ps2 = some (.cells #[.int .i64 lo, .int .i64 hi] 34 (0, 0)) := by rw [blk_set _ _ _ _ nps1]; exact ksD
                obtain ⟨WD, hWD⟩ : ∃ z, XD.setCell ⟨rw t, t', none⟩ (.int .i64 hi) = z := ⟨_, rfl⟩
                rw [hWD] at MB UB kB ksB
                try rw [hWD]
                refine hK.out _ _ ⟨MB.cell1 htN, MB.cell1 htN', ksB⟩ (fun _ hCl => ?_)
                clear hK K hWD zf ze MA hHeld
                try simp only [Act.put, List.setIfInBounds_toArray, List.set_cons_zero, List.set_cons_succ]
                refine lastG (i := 17) (by kernel_rfl) rfl (by rfl) (by decide) (fun K hK => ?_)
                go_simp
                refine hK.out _ _ ?_
                clear hK K
                try simp only [Act.put, List.setIfInBounds_toArray, List.set_cons_zero, List.set_cons_succ]
                have zf := MB.froz htN' t
                have ze := MB.cell2 htN' htN
                refine lastG (i := 18) (by kernel_rfl) rfl (by rfl) (by decide) (fun K hK => ?_)
                go_simp
                have MC := MB.put (b := t) htN' (-lo)
                have UE := UB.set (p := ⟨rw t', t, none⟩) (show w.heap.size ≤ rw t' by omega) (.int .i64 (-lo))
                have kF : mblk (WD.setCell ⟨rw t', t, none⟩ (.int .i64 (-lo))) q0 = some (.cells #[.int .i64 H, .slice aR rs.length cR, .slice aO nO cO, .slice aP ps.length cP] 26 (0, 0)) := by rw [blk_set _ _ _ _ (by show q0 ≠ rw t'; omega)]; exact kB
                obtain ⟨WE, hWE⟩ : ∃ z, WD.setCell ⟨rw t', t, none⟩ (.int .i64 (-lo)) = z := ⟨_, rfl⟩
                rw [hWE] at MC UE kF
                try rw [hWE]
                refine hK.out _ _ ?_
                clear hK K hWE zf ze hCl
                refine doneG (by kernel_rfl) ?_ _
                refine S.nrm_intro ?_
                have HMC := Lib.hid MC
                have HI1 := Lib.hid (show T.Ini N (T.mup (T.mup (T.mup (T.mup M t 0 100000) 0 t 100000) t t' hi) t' t (-lo)) (T.upto H rs os c (h + 1)) ∧ T.Fr N (T.plc H c (h + 1) - 1) (T.mup (T.mup (T.mup (T.mup M t 0 100000) 0 t 100000) t t' hi) t' t (-lo)) by
                  have eh1 : ((h - 1 : Nat) : Int) = (h : Int) - 1 := by omega
                  have := T.Ini.hour (n := N) (show 0 < h by omega) HI0.out.1 HI0.out.2 (by rw [HT.out]; exact htN) (lo := lo) (up := hi) (by rw [← eh1]; exact HLH.out.1) (by rw [← eh1]; exact HLH.out.2) ⟨bl.1, bl.2.1⟩ ⟨bl.2.2.1, bl.2.2.2⟩
                  rw [HT.out, show t - 1 = t' by have := HTT.out; omega] at this
                  rw [show T.plc H c (h + 1) - 1 = t by rw [← HT.out]; unfold T.plc; omega]
                  exact this)
                clear MC MB UB kB UD kE HMD c1 c2 HI0 ks ksB
                go_wp2_with fail
                go_roundw
                case rel => exact ⟨h + 1, _, by omega, by go_num, UE, kF, HMC, HI1⟩
                case measure => (simp only [intOf]; omega)
            · skip
              obtain rfl : h = H + 1 := by omega
              have d4 : decide (((H + 1 : Nat) : Int) ≤ (H : Int)) = false := decide_eq_false (by omega)
              have f4 : ¬ ((H : Int) + 1 ≤ (H : Int)) := by omega
              have HI1 := Lib.hid (And.intro (HI0.out.1.congr (fun y => T.upto_next c y)) (show T.Fr N (T.plc H (c + 1) 0 - 1) M by
                have := HI0.out.2
                rwa [show T.plc H c (H + 1) - 1 = T.plc H (c + 1) 0 - 1 by unfold T.plc; rw [Nat.succ_mul]; omega] at this))
              clear HI0
              go_wp2_with fail
              go_roundw
              case rel => exact ⟨c + 1, M, by omega, by go_num, U, kC, HM, HI1⟩
              case measure => (simp only [intOf]; omega)
        · skip
          obtain rfl : c = rs.length := by omega
          have d3 : decide ((rs.length : Int) < (rs.length : Int)) = false := decide_eq_false (by omega)
          obtain ⟨s, hs⟩ : ∃ s : Nat → Bool, (fun k => z.testBit k) = s := ⟨_, rfl⟩
          have HS := Lib.hid hs
          have HI1 := Lib.hid (show T.Ini N M (T.allOf H rs os s (ps.take 0)) from HI0.out.1.congr (fun y => ⟨fun h => ⟨h, fun x hx => by simp at hx⟩, fun h => h.1⟩))
          clear HI0 hs
          go_wp2_with fail
          go_loopw [15] (fun i wr => ∃ (j : Nat) (M : T.Mt), j ≤ ps.length ∧ i = .int .i64 j ∧ Up w wr ∧ mblk wr q0 = some (.cells #[.int .i64 H, .slice aR rs.length cR, .slice aO nO cO, .slice aP ps.length cP] 26 (0, 0)) ∧ Hid (T.Mx wr (q0 + 1) N rw M N) ∧ Hid (T.Ini N M (T.allOf H rs os s (ps.take j)))) (fun i _ => ps.length - (intOf i).toNat)
          case atStart => exact ⟨0, M, Nat.zero_le _, rfl, U, kC, HM, HI1⟩
          case round =>
            clear U kC HM HI1
            obtain ⟨j, M, hj, rfl, U, kC, HM, HI0⟩ := hrel
            by_cases hlt : j < ps.length
            · skip
              have ew : IntKind.i64.wrap ((j : Int) + 1) = (j : Int) + 1 := IntWalk.i64_in _ (by omega)
              have dk : decide ((j : Int) < (ps.length : Int)) = true := decide_eq_true (by omega)
              have ilt : (j : Int) < (ps.length : Int) := by omega
              have hbp := HG.out.psB (ps.getD j (0, 0, 0, 0, 0)) (by rw [List.getD_eq_getElem?_getD, List.getElem?_eq_getElem hlt]; exact List.getElem_mem _)
              obtain ⟨a', c', e', _, _, hm⟩ := (HP.out _ U).is
              injection e' with ea eb ec
              clear eb ec
              obtain ⟨g', off, ga, gl, hx⟩ := hm (by omega)
              subst ea ga
              clear hm
              obtain ⟨⟨r0, r1, r2, r3, r4⟩, hss⟩ : ∃ s, ps.getD j (0, 0, 0, 0, 0) = s := ⟨_, rfl⟩
              have cc0 := hx j hlt 0 (by omega)
              have cc1 := hx j hlt 1 (by omega)
              have cc2 := hx j hlt 2 (by omega)
              have cc3 := hx j hlt 3 (by omega)
              have cc4 := hx j hlt 4 (by omega)
              rw [hss] at cc0 cc1 cc2 cc3 cc4 hbp
              replace cc0 : wr.cell? ⟨g', off + j * 5, none⟩ = some (.int .i64 r0) := cc0
              replace cc1 : wr.cell? ⟨g', off + j * 5 + 1, none⟩ = some (.int .i64 r1) := cc1
              replace cc2 : wr.cell? ⟨g', off + j * 5 + 2, none⟩ = some (.int .i64 r2) := cc2
              replace cc3 : wr.cell? ⟨g', off + j * 5 + 3, none⟩ = some (.int .i64 r3) := cc3
              replace cc4 : wr.cell? ⟨g', off + j * 5 + 4, none⟩ = some (.int .i64 r4) := cc4
              obtain ⟨⟨p1, p2⟩, ⟨p3, p4⟩, ⟨p5, p6⟩, p7, ⟨⟨p8, p9⟩, p10, p11⟩, p12⟩ := hbp
              simp only at p1 p2 p3 p4 p5 p6 p7 p8 p9 p10 p11 p12
              obtain ⟨r0, rfl⟩ := Int.eq_ofNat_of_zero_le p1
              obtain ⟨r1, rfl⟩ := Int.eq_ofNat_of_zero_le p3
              have HSS := Lib.hid hss
              have HST := Lib.hid (fun y => T.allOf_step (H := H) (rs := rs) (os := os) (s := s) hlt y)
              clear hx hss
              have i0 := kC
              have lC := blk_lt kC
              have lsz := U.size
              have kp := blk_new wr (.cells #[.int .i64 r0, .int .i64 r1, .int .i64 r2, .int .i64 r3, .int .i64 r4] 61) _ rfl
              replace kC := blk_keep (.cells #[.int .i64 r0, .int .i64 r1, .int .i64 r2, .int .i64 r3, .int .i64 r4] 61) kC
              replace U := U.alloc (.cells #[.int .i64 r0, .int .i64 r1, .int .i64 r2, .int .i64 r3, .int .i64 r4] 61)
              replace HM := Lib.hid (HM.out.up ((Up.refl wr).alloc (.cells #[.int .i64 r0, .int .i64 r1, .int .i64 r2, .int .i64 r3, .int .i64 r4] 61)))
              obtain ⟨pp, hpp⟩ : ∃ z, wr.heap.size = z := ⟨_, rfl⟩
              obtain ⟨W5, hW5⟩ : ∃ z, wr.alloc (.cells #[.int .i64 r0, .int .i64 r1, .int .i64 r2, .int .i64 r3, .int .i64 r4] 61) = z := ⟨_, rfl⟩
              rw [hpp] at kp lC lsz
              rw [hW5] at kp kC U HM
              have HIn := Lib.hid (fun (k : Nat) (hk : k < 5) w => B_In_any z k hz hk w)
              have sz1 : s r1 = z.testBit r1 := by rw [← HS.out]
              go_wp2_with fail
              clear hpp hW5 i0 cc0 cc1 cc2 cc3 cc4
              refine (HIn.out r1 (by omega) _).mono ?_
              rintro e x9 ⟨rfl, rfl⟩
              have hA := HPL.out r1 r0 (by omega) (by omega)
              have hplA : T.plA H ((r0 : Int), (r1 : Int), r2, r3, r4) = T.plc H r1 r0 := rfl
              cases hb1 : z.testBit r1 with
              | true =>
                have HI1 := Lib.hid (show T.Ini N M (T.allOf H rs os s (ps.take (j + 1))) from HI0.out.congr (fun y => by
                  rw [HST.out, HSS.out]
                  refine ⟨fun q => ⟨q, fun c1 _ => ?_⟩, fun q => q.1⟩
                  have := T.has_bit s (c := (r1 : Int)) (by omega) (by omega)
                  rw [Int.toNat_natCast, sz1, hb1] at this
                  rw [show T.has (s 0) (s 1) (s 2) (s 3) (s 4) (r1 : Int) = true from this] at c1
                  cases c1))
                clear HI0 HST sz1
                go_wp2_with fail
                go_roundw
                case rel => exact ⟨j + 1, M, by omega, by go_num, U, kC, HM, HI1⟩
                case measure => (simp only [intOf]; omega)
              | false =>
                by_cases hr2 : r2 = -1
                · skip
                  subst hr2
                  have f2 : decide ((-1 : Int) ≥ 0) = false := by decide
                  have hA' := hA
                  obtain ⟨A, eA⟩ : ∃ A, T.plc H r1 r0 = A := ⟨_, rfl⟩
                  obtain ⟨B, eB⟩ : ∃ B, 0 = B := ⟨_, rfl⟩
                  have hB' : B < N := by omega
                  have HPa := Lib.hid (fun w' => show Calls Try.prog 79 #[ClV H (.slice aR rs.length cR) (.slice aO nO cO) (.slice (some ⟨g', off, none⟩) ps.length cP), .int .i64 (r1 : Int), .int .i64 (r0 : Int)] w' fun e w'' => e = .returned (.int .i64 (A : Int)) ∧ Up w' w'' by rw [← eA]; exact r_place_any w' q2 (by omega) (by omega))
                  have HPb := Lib.hid (fun w' => show Calls Try.prog 79 #[ClV H (.slice aR rs.length cR) (.slice aO nO cO) (.slice (some ⟨g', off, none⟩) ps.length cP), .int .i64 (-1), .int .i64 (r0 : Int)] w' fun e w'' => e = .returned (.int .i64 (B : Int)) ∧ Up w' w'' by rw [← eB]; exact r_place_0 w')
                  have HAB := Lib.hid (show T.plA H ((r0 : Int), (r1 : Int), (-1 : Int), r3, r4) = A ∧ T.plO H ((r0 : Int), (r1 : Int), (-1 : Int), r3, r4) = B from ⟨eA, by rw [← eB]; exact if_pos (show (-1 : Int) < 0 by decide)⟩)
                  have HSY := Lib.hid (show T.has (s 0) (s 1) (s 2) (s 3) (s 4) (r1 : Int) = false ∧ T.has (s 0) (s 1) (s 2) (s 3) (s 4) (-1) = false from ⟨by
                    have := T.has_bit s (c := (r1 : Int)) (by omega) (by omega)
                    rw [Int.toNat_natCast, sz1, hb1] at this
                    exact this, T.has_true s⟩)
                  have hAB := Lib.hid (show A ≠ B by rw [← eA, ← eB]; unfold T.plc; omega)
                  rw [eA] at hA'
                  clear eA eB hA hplA sz1 hb1
                  have HMY := Lib.hid (fun w' (u : Up W5 w') => HM.out.up u)
                  have iA : (A : Int) < (N : Int) := by omega
                  have iB : (B : Int) < (N : Int) := by omega
                  have UW := Up.refl W5
                  clear HIn
                  go_wp2_with fail
                  have F122 := Lib.hid (fun w (u : Up W5 w) => cellB (u.blk kC))
                  have F123 := Lib.hid (fun w (u : Up W5 w) => cellB (u.blk kp))
                  refine (wpIn_wide (n := 5)).1 ?_
                  refine wpIn_nrm ?_
                  refine T.regionQ (fun w' => Up W5 w') 12 2 hmx (by kernel_rfl) (by kernel_rfl) ((Up.refl W5).drew) (fun hCl => ?_)
                  refine T.qT 0 (some 140) ?v50 rfl rfl hCl ?hy50 (fun hCl' => ?_)
                  case hy50 => (intro w hSw; refine T.qVal ?_ hSw; (have fF122 := F122.out w hSw; have fF123 := F123.out w hSw); (try dsimp only [List.getElem_toArray, List.getElem_cons_succ, List.getElem_cons_zero]); go_simp; try with_reducible rfl)
                  simp only [Act.put, List.setIfInBounds_toArray, List.set_cons_zero, List.set_cons_succ]; replace hCl := hCl'; clear hCl'
                  refine T.qT 1 (some 141) ?v51 rfl rfl hCl ?hy51 (fun hCl' => ?_)
                  case hy51 => (intro w hSw; refine T.qVal ?_ hSw; (try dsimp only [List.getElem_toArray, List.getElem_cons_succ, List.getElem_cons_zero]); go_simp; try with_reducible rfl)
                  simp only [Act.put, List.setIfInBounds_toArray, List.set_cons_zero, List.set_cons_succ]; replace hCl := hCl'; clear hCl'
                  refine T.qT 3 (some 143) ?v52 rfl rfl hCl ?hy52 (fun hCl' => ?_)
                  case hy52 => (intro w hSw; refine T.qVal ?_ hSw; (try dsimp only [List.getElem_toArray, List.getElem_cons_succ, List.getElem_cons_zero]); go_simp; try with_reducible rfl)
                  simp only [Act.put, List.setIfInBounds_toArray, List.set_cons_zero, List.set_cons_succ]; replace hCl := hCl'; clear hCl'
                  refine T.qT 6 (some 146) ?v53 rfl rfl hCl ?hy53 (fun hCl' => ?_)
                  case hy53 => (intro w hSw; refine T.qVal ?_ hSw; (have fF122 := F122.out w hSw; have fF123 := F123.out w hSw); (try dsimp only [List.getElem_toArray, List.getElem_cons_succ, List.getElem_cons_zero]); go_simp; try with_reducible rfl)
                  simp only [Act.put, List.setIfInBounds_toArray, List.set_cons_zero, List.set_cons_succ]; replace hCl := hCl'; clear hCl'
                  refine T.qT 7 (some 147) ?v54 rfl rfl hCl ?hy54 (fun hCl' => ?_)
                  case hy54 => (intro w hSw; refine T.qVal ?_ hSw; (try dsimp only [List.getElem_toArray, List.getElem_cons_succ, List.getElem_cons_zero]); go_simp; try with_reducible rfl)
                  simp only [Act.put, List.setIfInBounds_toArray, List.set_cons_zero, List.set_cons_succ]; replace hCl := hCl'; clear hCl'
                  refine T.qT 9 (some 149) ?v55 rfl rfl hCl ?hy55 (fun hCl' => ?_)
                  case hy55 => (intro w hSw; refine T.qVal ?_ hSw; (try dsimp only [List.getElem_toArray, List.getElem_cons_succ, List.getElem_cons_zero]); go_simp; try with_reducible rfl)
                  simp only [Act.put, List.setIfInBounds_toArray, List.set_cons_zero, List.set_cons_succ]; replace hCl := hCl'; clear hCl'
                  refine T.qT 2 (some 142) ?v56 rfl rfl hCl ?hy56 (fun hCl' => ?_)
                  case hy56 => (intro w hSw; refine T.qVal ?_ hSw; (have fF122 := F122.out w hSw; have fF123 := F123.out w hSw); (try dsimp only [List.getElem_toArray, List.getElem_cons_succ, List.getElem_cons_zero]); go_simp; try with_reducible rfl)
                  simp only [Act.put, List.setIfInBounds_toArray, List.set_cons_zero, List.set_cons_succ]; replace hCl := hCl'; clear hCl'
                  refine T.qT 4 (some 144) ?v57 rfl rfl hCl ?hy57 (fun hCl' => ?_)
                  case hy57 => (intro w hSw; refine T.qVal ?_ hSw; (have fF122 := F122.out w hSw; have fF123 := F123.out w hSw); (try dsimp only [List.getElem_toArray, List.getElem_cons_succ, List.getElem_cons_zero]); go_simp; try with_reducible rfl)
                  simp only [Act.put, List.setIfInBounds_toArray, List.set_cons_zero, List.set_cons_succ]; replace hCl := hCl'; clear hCl'
                  refine T.qT 8 (some 148) ?v58 rfl rfl hCl ?hy58 (fun hCl' => ?_)
                  case hy58 => (intro w hSw; refine T.qVal ?_ hSw; (have fF122 := F122.out w hSw; have fF123 := F123.out w hSw); (try dsimp only [List.getElem_toArray, List.getElem_cons_succ, List.getElem_cons_zero]); go_simp; try with_reducible rfl)
                  simp only [Act.put, List.setIfInBounds_toArray, List.set_cons_zero, List.set_cons_succ]; replace hCl := hCl'; clear hCl'
                  refine T.qT 10 (some 150) ?v59 rfl rfl hCl ?hy59 (fun hCl' => ?_)
                  case hy59 => (intro w hSw; refine T.qVal ?_ hSw; (have fF122 := F122.out w hSw; have fF123 := F123.out w hSw); (try dsimp only [List.getElem_toArray, List.getElem_cons_succ, List.getElem_cons_zero]); go_simp; try with_reducible rfl)
                  simp only [Act.put, List.setIfInBounds_toArray, List.set_cons_zero, List.set_cons_succ]; replace hCl := hCl'; clear hCl'
                  refine T.qT 5 (some 145) ((.int .i64 (A : Int))) rfl rfl hCl ?hy60 (fun hCl' => ?_)
                  case hy60 => (intro w hSw; (have fF122 := F122.out w hSw; have fF123 := F123.out w hSw); (try dsimp only [List.getElem_toArray, List.getElem_cons_succ, List.getElem_cons_zero]); go_simp; (refine (callsIn_wide.2 (HPa.out w)).mono ?_; rintro e w3 ⟨rfl, u3⟩; exact ⟨rfl, hSw.trans u3⟩))
                  simp only [Act.put, List.setIfInBounds_toArray, List.set_cons_zero, List.set_cons_succ]
                  replace hCl := hCl'; clear hCl'
                  refine T.qT 11 (some 151) ((.int .i64 (B : Int))) rfl rfl hCl ?hy61 (fun hCl' => ?_)
                  case hy61 => (intro w hSw; (have fF122 := F122.out w hSw; have fF123 := F123.out w hSw); (try dsimp only [List.getElem_toArray, List.getElem_cons_succ, List.getElem_cons_zero]); go_simp; (refine (callsIn_wide.2 (HPb.out w)).mono ?_; rintro e w3 ⟨rfl, u3⟩; exact ⟨rfl, hSw.trans u3⟩))
                  simp only [Act.put, List.setIfInBounds_toArray, List.set_cons_zero, List.set_cons_succ]
                  replace hCl := hCl'; clear hCl'
                  refine T.tail_intro (by kernel_rfl) (fun Y121 hY121 => ?_)
                  replace U := U.trans hY121
                  replace kC := hY121.blk kC
                  replace kp := hY121.blk kp
                  replace UW := UW.trans hY121
                  clear F122 F123 hY121
                  refine lastG (i := 12) (by kernel_rfl) rfl (by rfl) (by decide) (fun K hK => ?_)
                  go_simp
                  refine hK.out _ _ ?_
                  clear hK K
                  refine lastG (i := 13) (by kernel_rfl) rfl (by rfl) (by decide) (fun K hK => ?_)
                  go_simp
                  refine hK.out _ _ ?_
                  clear hK K
                  refine doneG (by kernel_rfl) ?_ _
                  refine S.nrm_intro ?_
                  clear HPa HPb
                  obtain ⟨m1, hm1⟩ : ∃ q, M A B = q := ⟨_, rfl⟩
                  obtain ⟨v1, hv1⟩ : ∃ q, Min.min m1 r4 = q := ⟨_, rfl⟩
                  have M1r := min_run hv1
                  have HZ1 := Lib.hid (fun w' (u : Up W5 w') => show w'.cell? ⟨q0 + 1, A, none⟩ = some (.slice (some ⟨rw A, 0, none⟩) N N) ∧ w'.cell? ⟨rw A, B, none⟩ = some (.int .i64 m1) ∧ w'.frozen? ⟨rw A, B, none⟩ = false from ⟨(HMY.out w' u).cell1 hA', by rw [← hm1]; exact (HMY.out w' u).cell2 hA' hB', (HMY.out w' u).froz hA' B⟩)
                  go_wp2_with fail
                  have F125 := Lib.hid (fun w (u : Up Y121 w) => cellB (u.blk kC))
                  have F126 := Lib.hid (fun w (u : Up Y121 w) => cellB (u.blk kp))
                  refine (wpIn_wide (n := 5)).1 ?_
                  refine wpIn_nrm ?_
                  refine T.regionQ (fun w' => Up Y121 w') 16 2 hmx (by kernel_rfl) (by kernel_rfl) ((Up.refl Y121).drew) (fun hCl => ?_)
                  refine T.qT 0 (some 152) ?v62 rfl rfl hCl ?hy62 (fun hCl' => ?_)
                  case hy62 => (intro w hSw; refine T.qVal ?_ hSw; (try dsimp only [List.getElem_toArray, List.getElem_cons_succ, List.getElem_cons_zero]); go_simp; try with_reducible rfl)
                  simp only [Act.put, List.setIfInBounds_toArray, List.set_cons_zero, List.set_cons_succ]; replace hCl := hCl'; clear hCl'
                  refine T.qT 1 (some 153) ?v63 rfl rfl hCl ?hy63 (fun hCl' => ?_)
                  case hy63 => (intro w hSw; refine T.qVal ?_ hSw; (try dsimp only [List.getElem_toArray, List.getElem_cons_succ, List.getElem_cons_zero]); go_simp; try with_reducible rfl)
                  simp only [Act.put, List.setIfInBounds_toArray, List.set_cons_zero, List.set_cons_succ]; replace hCl := hCl'; clear hCl'
                  refine T.qT 4 (some 156) ?v64 rfl rfl hCl ?hy64 (fun hCl' => ?_)
                  case hy64 => (intro w hSw; refine T.qVal ?_ hSw; (try dsimp only [List.getElem_toArray, List.getElem_cons_succ, List.getElem_cons_zero]); go_simp; try with_reducible rfl)
                  simp only [Act.put, List.setIfInBounds_toArray, List.set_cons_zero, List.set_cons_succ]; replace hCl := hCl'; clear hCl'
                  refine T.qT 5 (some 157) ?v65 rfl rfl hCl ?hy65 (fun hCl' => ?_)
                  case hy65 => (intro w hSw; refine T.qVal ?_ hSw; (try dsimp only [List.getElem_toArray, List.getElem_cons_succ, List.getElem_cons_zero]); go_simp; try with_reducible rfl)
                  simp only [Act.put, List.setIfInBounds_toArray, List.set_cons_zero, List.set_cons_succ]; replace hCl := hCl'; clear hCl'
                  refine T.qT 6 (some 158) ?v66 rfl rfl hCl ?hy66 (fun hCl' => ?_)
                  case hy66 => (intro w hSw; refine T.qVal ?_ hSw; (try dsimp only [List.getElem_toArray, List.getElem_cons_succ, List.getElem_cons_zero]); go_simp; try with_reducible rfl)
                  simp only [Act.put, List.setIfInBounds_toArray, List.set_cons_zero, List.set_cons_succ]; replace hCl := hCl'; clear hCl'
                  refine T.qT 9 (some 161) ?v67 rfl rfl hCl ?hy67 (fun hCl' => ?_)
                  case hy67 => (intro w hSw; refine T.qVal ?_ hSw; (try dsimp only [List.getElem_toArray, List.getElem_cons_succ, List.getElem_cons_zero]); go_simp; try with_reducible rfl)
                  simp only [Act.put, List.setIfInBounds_toArray, List.set_cons_zero, List.set_cons_succ]; replace hCl := hCl'; clear hCl'
                  refine T.qT 12 (some 164) ?v68 rfl rfl hCl ?hy68 (fun hCl' => ?_)
                  case hy68 => (intro w hSw; refine T.qVal ?_ hSw; (try dsimp only [List.getElem_toArray, List.getElem_cons_succ, List.getElem_cons_zero]); go_simp; try with_reducible rfl)
                  simp only [Act.put, List.setIfInBounds_toArray, List.set_cons_zero, List.set_cons_succ]; replace hCl := hCl'; clear hCl'
                  refine T.qT 2 (some 154) ?v69 rfl rfl hCl ?hy69 (fun hCl' => ?_)
                  case hy69 => (intro w hSw; refine T.qVal ?_ hSw; (try dsimp only [List.getElem_toArray, List.getElem_cons_succ, List.getElem_cons_zero]); go_simp; try with_reducible rfl)
                  simp only [Act.put, List.setIfInBounds_toArray, List.set_cons_zero, List.set_cons_succ]; replace hCl := hCl'; clear hCl'
                  refine T.qT 7 (some 159) ?v70 rfl rfl hCl ?hy70 (fun hCl' => ?_)
                  case hy70 => (intro w hSw; refine T.qVal ?_ hSw; (try dsimp only [List.getElem_toArray, List.getElem_cons_succ, List.getElem_cons_zero]); go_simp; try with_reducible rfl)
                  simp only [Act.put, List.setIfInBounds_toArray, List.set_cons_zero, List.set_cons_succ]; replace hCl := hCl'; clear hCl'
                  refine T.qT 13 (some 165) ?v71 rfl rfl hCl ?hy71 (fun hCl' => ?_)
                  case hy71 => (intro w hSw; refine T.qVal ?_ hSw; (try dsimp only [List.getElem_toArray, List.getElem_cons_succ, List.getElem_cons_zero]); go_simp; try with_reducible rfl)
                  simp only [Act.put, List.setIfInBounds_toArray, List.set_cons_zero, List.set_cons_succ]; replace hCl := hCl'; clear hCl'
                  refine T.qT 3 (some 155) ?v72 rfl rfl hCl ?hy72 (fun hCl' => ?_)
                  case hy72 => (intro w hSw; refine T.qVal ?_ hSw; (have fF125 := F125.out w hSw; have fF126 := F126.out w hSw; obtain ⟨z1, z2, _⟩ := HZ1.out w (UW.trans hSw)); (try dsimp only [List.getElem_toArray, List.getElem_cons_succ, List.getElem_cons_zero]); go_simp; try with_reducible rfl)
                  simp only [Act.put, List.setIfInBounds_toArray, List.set_cons_zero, List.set_cons_succ]; replace hCl := hCl'; clear hCl'
                  refine T.qT 8 (some 160) ?v73 rfl rfl hCl ?hy73 (fun hCl' => ?_)
                  case hy73 => (intro w hSw; refine T.qVal ?_ hSw; (have fF125 := F125.out w hSw; have fF126 := F126.out w hSw; obtain ⟨z1, z2, _⟩ := HZ1.out w (UW.trans hSw)); (try dsimp only [List.getElem_toArray, List.getElem_cons_succ, List.getElem_cons_zero]); go_simp; try with_reducible rfl)
                  simp only [Act.put, List.setIfInBounds_toArray, List.set_cons_zero, List.set_cons_succ]; replace hCl := hCl'; clear hCl'
                  refine T.qT 14 (some 166) ?v74 rfl rfl hCl ?hy74 (fun hCl' => ?_)
                  case hy74 => (intro w hSw; refine T.qVal ?_ hSw; (have fF125 := F125.out w hSw; have fF126 := F126.out w hSw; obtain ⟨z1, z2, _⟩ := HZ1.out w (UW.trans hSw)); (try dsimp only [List.getElem_toArray, List.getElem_cons_succ, List.getElem_cons_zero]); go_simp; try with_reducible rfl)
                  simp only [Act.put, List.setIfInBounds_toArray, List.set_cons_zero, List.set_cons_succ]; replace hCl := hCl'; clear hCl'
                  refine T.qT 10 (some 162) ?v75 rfl rfl hCl ?hy75 (fun hCl' => ?_)
                  case hy75 => (intro w hSw; refine T.qVal ?_ hSw; (try dsimp only [List.getElem_toArray, List.getElem_cons_succ, List.getElem_cons_zero]); go_simp; try with_reducible rfl)
                  simp only [Act.put, List.setIfInBounds_toArray, List.set_cons_zero, List.set_cons_succ]; replace hCl := hCl'; clear hCl'
                  refine T.qT 11 (some 163) ?v76 rfl rfl hCl ?hy76 (fun hCl' => ?_)
                  case hy76 => (intro w hSw; refine T.qVal ?_ hSw; (have fF125 := F125.out w hSw; have fF126 := F126.out w hSw; obtain ⟨z1, z2, _⟩ := HZ1.out w (UW.trans hSw)); (try dsimp only [List.getElem_toArray, List.getElem_cons_succ, List.getElem_cons_zero]); go_simp; try with_reducible rfl)
                  simp only [Act.put, List.setIfInBounds_toArray, List.set_cons_zero, List.set_cons_succ]; replace hCl := hCl'; clear hCl'
                  refine T.qT 15 (some 167) ?v77 rfl rfl hCl ?hy77 (fun hCl' => ?_)
                  case hy77 => (intro w hSw; refine T.qVal ?_ hSw; (have fF125 := F125.out w hSw; have fF126 := F126.out w hSw; obtain ⟨z1, z2, _⟩ := HZ1.out w (UW.trans hSw)); (try dsimp only [List.getElem_toArray, List.getElem_cons_succ, List.getElem_cons_zero]); go_simp; try with_reducible rfl)
                  simp only [Act.put, List.setIfInBounds_toArray, List.set_cons_zero, List.set_cons_succ]; replace hCl := hCl'; clear hCl'
                  refine T.tail_intro (by kernel_rfl) (fun Y124 hY124 => ?_)
                  obtain ⟨z1, z2, z3⟩ := HZ1.out _ (UW.trans hY124)
                  replace U := U.trans hY124
                  replace kC := hY124.blk kC
                  replace kp := hY124.blk kp
                  replace UW := UW.trans hY124
                  clear F125 F126 hY124
                  refine lastG (i := 16) (by kernel_rfl) rfl (by rfl) (by decide) (fun K hK => ?_)
                  go_simp
                  refine hK.out _ _ ?_
                  clear hK K
                  refine lastG (i := 17) (by kernel_rfl) rfl (by rfl) (by decide) (fun K hK => ?_)
                  go_simp
                  refine hK.out _ _ ?_
                  clear hK K
                  refine doneG (by kernel_rfl) ?_ _
                  refine S.nrm_intro ?_
                  have hrP1 := HRW.out A hA'
                  obtain ⟨M1, hM1⟩ : ∃ q, T.mup M A B v1 = q := ⟨_, rfl⟩
                  have MZ1 := (HMY.out _ UW).put (b := B) hA' v1
                  rw [hM1] at MZ1
                  have UZ1 := U.set (p := ⟨rw A, B, none⟩) (show w.heap.size ≤ rw A by omega) (.int .i64 v1)
                  have kCZ1 : mblk (Y124.setCell ⟨rw A, B, none⟩ (.int .i64 v1)) q0 = some (.cells #[.int .i64 H, .slice aR rs.length cR, .slice aO nO cO, .slice (some ⟨g', off, none⟩) ps.length cP] 26 (0, 0)) := by rw [blk_set _ _ _ _ (by show q0 ≠ rw A; omega)]; exact kC
                  have npp1 : pp ≠ rw A := fun e => by obtain ⟨cs, hcs, _⟩ := (HMY.out _ UW).row A hA'; rw [← e, kp] at hcs; cases hcs
                  have kpZ1 : mblk (Y124.setCell ⟨rw A, B, none⟩ (.int .i64 v1)) pp = some (.cells #[.int .i64 r0, .int .i64 r1, .int .i64 (-1), .int .i64 r3, .int .i64 r4] 61 (0, 0)) := by rw [blk_set _ _ _ _ npp1]; exact kp
                  obtain ⟨WZ1, hWZ1⟩ : ∃ q, Y124.setCell ⟨rw A, B, none⟩ (.int .i64 v1) = q := ⟨_, rfl⟩
                  rw [hWZ1] at MZ1 UZ1 kCZ1 kpZ1
                  try rw [hWZ1]
                  clear hWZ1 U kC kp UW z1 z2 z3 M1r
                  have U := UZ1
                  have kC := kCZ1
                  have kp := kpZ1
                  clear UZ1 kCZ1 kpZ1 HZ1
                  have HMZ := Lib.hid (fun w' (u : Up WZ1 w') => MZ1.up u)
                  have UZ := Up.refl WZ1
                  clear HMY MZ1
                  go_wp2_with fail
                  have wn : IntKind.i64.wrap (-r3) = -r3 := IntWalk.i64_in _ (by omega)
                  have wn' : IntKind.i64.wrap (0 - r3) = -r3 := by rw [show (0 : Int) - r3 = -r3 by omega]; exact wn
                  obtain ⟨m2, hm2⟩ : ∃ q, M1 B A = q := ⟨_, rfl⟩
                  obtain ⟨v2, hv2⟩ : ∃ q, Min.min m2 (-r3) = q := ⟨_, rfl⟩
                  have M2r := min_run hv2
                  have HZ2 := Lib.hid (fun w' (u : Up WZ1 w') => show w'.cell? ⟨q0 + 1, B, none⟩ = some (.slice (some ⟨rw B, 0, none⟩) N N) ∧ w'.cell? ⟨rw B, A, none⟩ = some (.int .i64 m2) ∧ w'.frozen? ⟨rw B, A, none⟩ = false from ⟨(HMZ.out w' u).cell1 hB', by rw [← hm2]; exact (HMZ.out w' u).cell2 hB' hA', (HMZ.out w' u).froz hB' A⟩)
                  have F128 := Lib.hid (fun w (u : Up WZ1 w) => cellB (u.blk kC))
                  have F129 := Lib.hid (fun w (u : Up WZ1 w) => cellB (u.blk kp))
                  refine (wpIn_wide (n := 5)).1 ?_
                  refine wpIn_nrm ?_
                  refine T.regionQ (fun w' => Up WZ1 w') 17 2 hmx (by kernel_rfl) (by kernel_rfl) ((Up.refl WZ1).drew) (fun hCl => ?_)
                  refine T.qT 0 (some 169) ?v78 rfl rfl hCl ?hy78 (fun hCl' => ?_)
                  case hy78 => (intro w hSw; refine T.qVal ?_ hSw; (try dsimp only [List.getElem_toArray, List.getElem_cons_succ, List.getElem_cons_zero]); go_simp; try with_reducible rfl)
                  simp only [Act.put, List.setIfInBounds_toArray, List.set_cons_zero, List.set_cons_succ]; replace hCl := hCl'; clear hCl'
                  refine T.qT 1 (some 170) ?v79 rfl rfl hCl ?hy79 (fun hCl' => ?_)
                  case hy79 => (intro w hSw; refine T.qVal ?_ hSw; (try dsimp only [List.getElem_toArray, List.getElem_cons_succ, List.getElem_cons_zero]); go_simp; try with_reducible rfl)
                  simp only [Act.put, List.setIfInBounds_toArray, List.set_cons_zero, List.set_cons_succ]; replace hCl := hCl'; clear hCl'
                  refine T.qT 4 (some 173) ?v80 rfl rfl hCl ?hy80 (fun hCl' => ?_)
                  case hy80 => (intro w hSw; refine T.qVal ?_ hSw; (try dsimp only [List.getElem_toArray, List.getElem_cons_succ, List.getElem_cons_zero]); go_simp; try with_reducible rfl)
                  simp only [Act.put, List.setIfInBounds_toArray, List.set_cons_zero, List.set_cons_succ]; replace hCl := hCl'; clear hCl'
                  refine T.qT 5 (some 174) ?v81 rfl rfl hCl ?hy81 (fun hCl' => ?_)
                  case hy81 => (intro w hSw; refine T.qVal ?_ hSw; (try dsimp only [List.getElem_toArray, List.getElem_cons_succ, List.getElem_cons_zero]); go_simp; try with_reducible rfl)
                  simp only [Act.put, List.setIfInBounds_toArray, List.set_cons_zero, List.set_cons_succ]; replace hCl := hCl'; clear hCl'
                  refine T.qT 6 (some 175) ?v82 rfl rfl hCl ?hy82 (fun hCl' => ?_)
                  case hy82 => (intro w hSw; refine T.qVal ?_ hSw; (try dsimp only [List.getElem_toArray, List.getElem_cons_succ, List.getElem_cons_zero]); go_simp; try with_reducible rfl)
                  simp only [Act.put, List.setIfInBounds_toArray, List.set_cons_zero, List.set_cons_succ]; replace hCl := hCl'; clear hCl'
                  refine T.qT 9 (some 178) ?v83 rfl rfl hCl ?hy83 (fun hCl' => ?_)
                  case hy83 => (intro w hSw; refine T.qVal ?_ hSw; (try dsimp only [List.getElem_toArray, List.getElem_cons_succ, List.getElem_cons_zero]); go_simp; try with_reducible rfl)
                  simp only [Act.put, List.setIfInBounds_toArray, List.set_cons_zero, List.set_cons_succ]; replace hCl := hCl'; clear hCl'
                  refine T.qT 12 (some 181) ?v84 rfl rfl hCl ?hy84 (fun hCl' => ?_)
                  case hy84 => (intro w hSw; refine T.qVal ?_ hSw; (try dsimp only [List.getElem_toArray, List.getElem_cons_succ, List.getElem_cons_zero]); go_simp; try with_reducible rfl)
                  simp only [Act.put, List.setIfInBounds_toArray, List.set_cons_zero, List.set_cons_succ]; replace hCl := hCl'; clear hCl'
                  refine T.qT 2 (some 171) ?v85 rfl rfl hCl ?hy85 (fun hCl' => ?_)
                  case hy85 => (intro w hSw; refine T.qVal ?_ hSw; (try dsimp only [List.getElem_toArray, List.getElem_cons_succ, List.getElem_cons_zero]); go_simp; try with_reducible rfl)
                  simp only [Act.put, List.setIfInBounds_toArray, List.set_cons_zero, List.set_cons_succ]; replace hCl := hCl'; clear hCl'
                  refine T.qT 7 (some 176) ?v86 rfl rfl hCl ?hy86 (fun hCl' => ?_)
                  case hy86 => (intro w hSw; refine T.qVal ?_ hSw; (try dsimp only [List.getElem_toArray, List.getElem_cons_succ, List.getElem_cons_zero]); go_simp; try with_reducible rfl)
                  simp only [Act.put, List.setIfInBounds_toArray, List.set_cons_zero, List.set_cons_succ]; replace hCl := hCl'; clear hCl'
                  refine T.qT 13 (some 182) ?v87 rfl rfl hCl ?hy87 (fun hCl' => ?_)
                  case hy87 => (intro w hSw; refine T.qVal ?_ hSw; (try dsimp only [List.getElem_toArray, List.getElem_cons_succ, List.getElem_cons_zero]); go_simp; try with_reducible rfl)
                  simp only [Act.put, List.setIfInBounds_toArray, List.set_cons_zero, List.set_cons_succ]; replace hCl := hCl'; clear hCl'
                  refine T.qT 3 (some 172) ?v88 rfl rfl hCl ?hy88 (fun hCl' => ?_)
                  case hy88 => (intro w hSw; refine T.qVal ?_ hSw; (have fF128 := F128.out w hSw; have fF129 := F129.out w hSw; obtain ⟨z1, z2, _⟩ := HZ2.out w (UZ.trans hSw)); (try dsimp only [List.getElem_toArray, List.getElem_cons_succ, List.getElem_cons_zero]); go_simp; try with_reducible rfl)
                  simp only [Act.put, List.setIfInBounds_toArray, List.set_cons_zero, List.set_cons_succ]; replace hCl := hCl'; clear hCl'
                  refine T.qT 8 (some 177) ?v89 rfl rfl hCl ?hy89 (fun hCl' => ?_)
                  case hy89 => (intro w hSw; refine T.qVal ?_ hSw; (have fF128 := F128.out w hSw; have fF129 := F129.out w hSw; obtain ⟨z1, z2, _⟩ := HZ2.out w (UZ.trans hSw)); (try dsimp only [List.getElem_toArray, List.getElem_cons_succ, List.getElem_cons_zero]); go_simp; try with_reducible rfl)
                  simp only [Act.put, List.setIfInBounds_toArray, List.set_cons_zero, List.set_cons_succ]; replace hCl := hCl'; clear hCl'
                  refine T.qT 14 (some 183) ?v90 rfl rfl hCl ?hy90 (fun hCl' => ?_)
                  case hy90 => (intro w hSw; refine T.qVal ?_ hSw; (have fF128 := F128.out w hSw; have fF129 := F129.out w hSw; obtain ⟨z1, z2, _⟩ := HZ2.out w (UZ.trans hSw)); (try dsimp only [List.getElem_toArray, List.getElem_cons_succ, List.getElem_cons_zero]); go_simp; try with_reducible rfl)
                  simp only [Act.put, List.setIfInBounds_toArray, List.set_cons_zero, List.set_cons_succ]; replace hCl := hCl'; clear hCl'
                  refine T.qT 10 (some 179) ?v91 rfl rfl hCl ?hy91 (fun hCl' => ?_)
                  case hy91 => (intro w hSw; refine T.qVal ?_ hSw; (try dsimp only [List.getElem_toArray, List.getElem_cons_succ, List.getElem_cons_zero]); go_simp; try with_reducible rfl)
                  simp only [Act.put, List.setIfInBounds_toArray, List.set_cons_zero, List.set_cons_succ]; replace hCl := hCl'; clear hCl'
                  refine T.qT 15 (some 184) ?v92 rfl rfl hCl ?hy92 (fun hCl' => ?_)
                  case hy92 => (intro w hSw; refine T.qVal ?_ hSw; (try dsimp only [List.getElem_toArray, List.getElem_cons_succ, List.getElem_cons_zero]); go_simp; try with_reducible rfl)
                  simp only [Act.put, List.setIfInBounds_toArray, List.set_cons_zero, List.set_cons_succ]; replace hCl := hCl'; clear hCl'
                  refine T.qT 11 (some 180) ?v93 rfl rfl hCl ?hy93 (fun hCl' => ?_)
                  case hy93 => (intro w hSw; refine T.qVal ?_ hSw; (have fF128 := F128.out w hSw; have fF129 := F129.out w hSw; obtain ⟨z1, z2, _⟩ := HZ2.out w (UZ.trans hSw)); (try dsimp only [List.getElem_toArray, List.getElem_cons_succ, List.getElem_cons_zero]); go_simp; try with_reducible rfl)
                  simp only [Act.put, List.setIfInBounds_toArray, List.set_cons_zero, List.set_cons_succ]; replace hCl := hCl'; clear hCl'
                  refine T.qT 16 (some 185) ?v94 rfl rfl hCl ?hy94 (fun hCl' => ?_)
                  case hy94 => (intro w hSw; refine T.qVal ?_ hSw; (have fF128 := F128.out w hSw; have fF129 := F129.out w hSw; obtain ⟨z1, z2, _⟩ := HZ2.out w (UZ.trans hSw)); (try dsimp only [List.getElem_toArray, List.getElem_cons_succ, List.getElem_cons_zero]); go_simp; try with_reducible rfl)
                  simp only [Act.put, List.setIfInBounds_toArray, List.set_cons_zero, List.set_cons_succ]; replace hCl := hCl'; clear hCl'
                  refine T.tail_intro (by kernel_rfl) (fun Y127 hY127 => ?_)
                  obtain ⟨z1, z2, z3⟩ := HZ2.out _ (UZ.trans hY127)
                  replace U := U.trans hY127
                  replace kC := hY127.blk kC
                  replace kp := hY127.blk kp
                  replace UZ := UZ.trans hY127
                  clear F128 F129 hY127
                  refine lastG (i := 17) (by kernel_rfl) rfl (by rfl) (by decide) (fun K hK => ?_)
                  go_simp
                  refine hK.out _ _ ?_
                  clear hK K
                  refine lastG (i := 18) (by kernel_rfl) rfl (by rfl) (by decide) (fun K hK => ?_)
                  go_simp
                  refine hK.out _ _ ?_
                  clear hK K
                  refine doneG (by kernel_rfl) ?_ _
                  refine S.nrm_intro ?_
                  have hrP2 := HRW.out B hB'
                  obtain ⟨M2, hM2⟩ : ∃ q, T.mup M1 B A v2 = q := ⟨_, rfl⟩
                  have MZ2 := (HMZ.out _ UZ).put (b := A) hB' v2
                  rw [hM2] at MZ2
                  have UZ2 := U.set (p := ⟨rw B, A, none⟩) (show w.heap.size ≤ rw B by omega) (.int .i64 v2)
                  have kCZ2 : mblk (Y127.setCell ⟨rw B, A, none⟩ (.int .i64 v2)) q0 = some (.cells #[.int .i64 H, .slice aR rs.length cR, .slice aO nO cO, .slice (some ⟨g', off, none⟩) ps.length cP] 26 (0, 0)) := by rw [blk_set _ _ _ _ (by show q0 ≠ rw B; omega)]; exact kC
                  have npp2 : pp ≠ rw B := fun e => by obtain ⟨cs, hcs, _⟩ := (HMZ.out _ UZ).row B hB'; rw [← e, kp] at hcs; cases hcs
                  have kpZ2 : mblk (Y127.setCell ⟨rw B, A, none⟩ (.int .i64 v2)) pp = some (.cells #[.int .i64 r0, .int .i64 r1, .int .i64 (-1), .int .i64 r3, .int .i64 r4] 61 (0, 0)) := by rw [blk_set _ _ _ _ npp2]; exact kp
                  obtain ⟨WZ2, hWZ2⟩ : ∃ q, Y127.setCell ⟨rw B, A, none⟩ (.int .i64 v2) = q := ⟨_, rfl⟩
                  rw [hWZ2] at MZ2 UZ2 kCZ2 kpZ2
                  try rw [hWZ2]
                  clear hWZ2 U kC kp UZ z1 z2 z3 M2r
                  have U := UZ2
                  have kC := kCZ2
                  have kp := kpZ2
                  clear UZ2 kCZ2 kpZ2 HZ2
                  have hnAB : A ≠ B := hAB.out
                  have HI1 := Lib.hid (show T.Ini N M2 (T.allOf H rs os s (ps.take (j + 1))) by
                    have a1 := HI0.out.min hA' hB' hnAB (v := r4) (by omega)
                    rw [hm1, hv1, hM1] at a1
                    have a2 := a1.min hB' hA' (fun e => hnAB e.symm) (v := -r3) (by omega)
                    rw [hm2, hv2, hM2] at a2
                    refine a2.congr (fun y => ?_)
                    rw [HST.out, HSS.out]
                    have k1 := HSY.out
                    unfold T.says
                    rw [show T.plA H ((r0 : Int), (r1 : Int), (-1 : Int), r3, r4) = A from HAB.out.1, show T.plO H ((r0 : Int), (r1 : Int), (-1 : Int), r3, r4) = B from HAB.out.2]
                    exact ⟨fun ⟨⟨x1, x2⟩, x3⟩ => ⟨x1, fun _ _ => ⟨x2, x3⟩⟩, fun ⟨x1, x2⟩ => ⟨⟨x1, (x2 k1.1 k1.2).1⟩, (x2 k1.1 k1.2).2⟩⟩)
                  have HM3 := Lib.hid MZ2
                  clear HI0 HST MZ2 hm1 hv1 hM1 hm2 hv2 hM2
                  go_wp2_with fail
                  go_roundw
                  case rel => exact ⟨j + 1, M2, by omega, by go_num, U, kC, HM3, HI1⟩
                  case measure => (simp only [intOf]; omega)
                · skip
                  obtain ⟨r2, rfl⟩ := Int.eq_ofNat_of_zero_le (show 0 ≤ r2 by omega)
                  have f2 : decide ((r2 : Int) ≥ 0) = true := decide_eq_true (by omega)
                  have f3 : (0 : Int) ≤ (r2 : Int) := by omega
                  have sz2 : s r2 = z.testBit r2 := by rw [← HS.out]
                  go_wp2_with fail
                  refine (HIn.out r2 (by omega) _).mono ?_
                  rintro e x9 ⟨rfl, rfl⟩
                  cases hb2 : z.testBit r2 with
                  | true =>
                    have HI1 := Lib.hid (show T.Ini N M (T.allOf H rs os s (ps.take (j + 1))) from HI0.out.congr (fun y => by
                      rw [HST.out, HSS.out]
                      refine ⟨fun q => ⟨q, fun _ c1 => ?_⟩, fun q => q.1⟩
                      have := T.has_bit s (c := (r2 : Int)) (by omega) (by omega)
                      rw [Int.toNat_natCast, sz2, hb2] at this
                      rw [show T.has (s 0) (s 1) (s 2) (s 3) (s 4) (r2 : Int) = true from this] at c1
                      cases c1))
                    clear HI0 HST sz1 sz2
                    go_wp2_with fail
                    go_roundw
                    case rel => exact ⟨j + 1, M, by omega, by go_num, U, kC, HM, HI1⟩
                    case measure => (simp only [intOf]; omega)
                  | false =>
                    have hA' := hA
                    have hB' := HPL.out r2 r0 (by omega) (by omega)
                    obtain ⟨A, eA⟩ : ∃ A, T.plc H r1 r0 = A := ⟨_, rfl⟩
                    obtain ⟨B, eB⟩ : ∃ B, T.plc H r2 r0 = B := ⟨_, rfl⟩
                    have HPa := Lib.hid (fun w' => show Calls Try.prog 79 #[ClV H (.slice aR rs.length cR) (.slice aO nO cO) (.slice (some ⟨g', off, none⟩) ps.length cP), .int .i64 (r1 : Int), .int .i64 (r0 : Int)] w' fun e w'' => e = .returned (.int .i64 (A : Int)) ∧ Up w' w'' by rw [← eA]; exact r_place_any w' q2 (by omega) (by omega))
                    have HPb := Lib.hid (fun w' => show Calls Try.prog 79 #[ClV H (.slice aR rs.length cR) (.slice aO nO cO) (.slice (some ⟨g', off, none⟩) ps.length cP), .int .i64 (r2 : Int), .int .i64 (r0 : Int)] w' fun e w'' => e = .returned (.int .i64 (B : Int)) ∧ Up w' w'' by rw [← eB]; exact r_place_any w' q2 (by omega) (by omega))
                    have HAB := Lib.hid (show T.plA H ((r0 : Int), (r1 : Int), (r2 : Int), r3, r4) = A ∧ T.plO H ((r0 : Int), (r1 : Int), (r2 : Int), r3, r4) = B from ⟨eA, by rw [← eB]; exact if_neg (by show ¬ (r2 : Int) < 0; omega)⟩)
                    have HSY := Lib.hid (show T.has (s 0) (s 1) (s 2) (s 3) (s 4) (r1 : Int) = false ∧ T.has (s 0) (s 1) (s 2) (s 3) (s 4) (r2 : Int) = false from ⟨by
                      have := T.has_bit s (c := (r1 : Int)) (by omega) (by omega)
                      rw [Int.toNat_natCast, sz1, hb1] at this
                      exact this, by
                      have := T.has_bit s (c := (r2 : Int)) (by omega) (by omega)
                      rw [Int.toNat_natCast, sz2, hb2] at this
                      exact this⟩)
                    have hAB := Lib.hid (show A ≠ B from fun e => by
                      rw [← eA, ← eB] at e
                      have := T.plc_inj (by omega) (by omega) e
                      omega)
                    rw [eA] at hA'
                    rw [eB] at hB'
                    clear eA eB hA hplA sz1 hb1 sz2 hb2 hr2
                    have HMY := Lib.hid (fun w' (u : Up W5 w') => HM.out.up u)
                    have iA : (A : Int) < (N : Int) := by omega
                    have iB : (B : Int) < (N : Int) := by omega
                    have UW := Up.refl W5
                    clear HIn
                    go_wp2_with fail
                    have F162 := Lib.hid (fun w (u : Up W5 w) => cellB (u.blk kC))
                    have F163 := Lib.hid (fun w (u : Up W5 w) => cellB (u.blk kp))
                    refine (wpIn_wide (n := 5)).1 ?_
                    refine wpIn_nrm ?_
                    refine T.regionQ (fun w' => Up W5 w') 12 2 hmx (by kernel_rfl) (by kernel_rfl) ((Up.refl W5).drew) (fun hCl => ?_)
                    refine T.qT 0 (some 140) ?v95 rfl rfl hCl ?hy95 (fun hCl' => ?_)
                    case hy95 => (intro w hSw; refine T.qVal ?_ hSw; (have fF162 := F162.out w hSw; have fF163 := F163.out w hSw); (try dsimp only [List.getElem_toArray, List.getElem_cons_succ, List.getElem_cons_zero]); go_simp; try with_reducible rfl)
                    simp only [Act.put, List.setIfInBounds_toArray, List.set_cons_zero, List.set_cons_succ]; replace hCl := hCl'; clear hCl'
                    refine T.qT 1 (some 141) ?v96 rfl rfl hCl ?hy96 (fun hCl' => ?_)
                    case hy96 => (intro w hSw; refine T.qVal ?_ hSw; (try dsimp only [List.getElem_toArray, List.getElem_cons_succ, List.getElem_cons_zero]); go_simp; try with_reducible rfl)
                    simp only [Act.put, List.setIfInBounds_toArray, List.set_cons_zero, List.set_cons_succ]; replace hCl := hCl'; clear hCl'
                    refine T.qT 3 (some 143) ?v97 rfl rfl hCl ?hy97 (fun hCl' => ?_)
                    case hy97 => (intro w hSw; refine T.qVal ?_ hSw; (try dsimp only [List.getElem_toArray, List.getElem_cons_succ, List.getElem_cons_zero]); go_simp; try with_reducible rfl)
                    simp only [Act.put, List.setIfInBounds_toArray, List.set_cons_zero, List.set_cons_succ]; replace hCl := hCl'; clear hCl'
                    refine T.qT 6 (some 146) ?v98 rfl rfl hCl ?hy98 (fun hCl' => ?_)
                    case hy98 => (intro w hSw; refine T.qVal ?_ hSw; (have fF162 := F162.out w hSw; have fF163 := F163.out w hSw); (try dsimp only [List.getElem_toArray, List.getElem_cons_succ, List.getElem_cons_zero]); go_simp; try with_reducible rfl)
                    simp only [Act.put, List.setIfInBounds_toArray, List.set_cons_zero, List.set_cons_succ]; replace hCl := hCl'; clear hCl'
                    refine T.qT 7 (some 147) ?v99 rfl rfl hCl ?hy99 (fun hCl' => ?_)
                    case hy99 => (intro w hSw; refine T.qVal ?_ hSw; (try dsimp only [List.getElem_toArray, List.getElem_cons_succ, List.getElem_cons_zero]); go_simp; try with_reducible rfl)
                    simp only [Act.put, List.setIfInBounds_toArray, List.set_cons_zero, List.set_cons_succ]; replace hCl := hCl'; clear hCl'
                    refine T.qT 9 (some 149) ?v100 rfl rfl hCl ?hy100 (fun hCl' => ?_)
                    case hy100 => (intro w hSw; refine T.qVal ?_ hSw; (try dsimp only [List.getElem_toArray, List.getElem_cons_succ, List.getElem_cons_zero]); go_simp; try with_reducible rfl)
                    simp only [Act.put, List.setIfInBounds_toArray, List.set_cons_zero, List.set_cons_succ]; replace hCl := hCl'; clear hCl'
                    refine T.qT 2 (some 142) ?v101 rfl rfl hCl ?hy101 (fun hCl' => ?_)
                    case hy101 => (intro w hSw; refine T.qVal ?_ hSw; (have fF162 := F162.out w hSw; have fF163 := F163.out w hSw); (try dsimp only [List.getElem_toArray, List.getElem_cons_succ, List.getElem_cons_zero]); go_simp; try with_reducible rfl)
                    simp only [Act.put, List.setIfInBounds_toArray, List.set_cons_zero, List.set_cons_succ]; replace hCl := hCl'; clear hCl'
                    refine T.qT 4 (some 144) ?v102 rfl rfl hCl ?hy102 (fun hCl' => ?_)
                    case hy102 => (intro w hSw; refine T.qVal ?_ hSw; (have fF162 := F162.out w hSw; have fF163 := F163.out w hSw); (try dsimp only [List.getElem_toArray, List.getElem_cons_succ, List.getElem_cons_zero]); go_simp; try with_reducible rfl)
                    simp only [Act.put, List.setIfInBounds_toArray, List.set_cons_zero, List.set_cons_succ]; replace hCl := hCl'; clear hCl'
                    refine T.qT 8 (some 148) ?v103 rfl rfl hCl ?hy103 (fun hCl' => ?_)
                    case hy103 => (intro w hSw; refine T.qVal ?_ hSw; (have fF162 := F162.out w hSw; have fF163 := F163.out w hSw); (try dsimp only [List.getElem_toArray, List.getElem_cons_succ, List.getElem_cons_zero]); go_simp; try with_reducible rfl)
                    simp only [Act.put, List.setIfInBounds_toArray, List.set_cons_zero, List.set_cons_succ]; replace hCl := hCl'; clear hCl'
                    refine T.qT 10 (some 150) ?v104 rfl rfl hCl ?hy104 (fun hCl' => ?_)
                    case hy104 => (intro w hSw; refine T.qVal ?_ hSw; (have fF162 := F162.out w hSw; have fF163 := F163.out w hSw); (try dsimp only [List.getElem_toArray, List.getElem_cons_succ, List.getElem_cons_zero]); go_simp; try with_reducible rfl)
                    simp only [Act.put, List.setIfInBounds_toArray, List.set_cons_zero, List.set_cons_succ]; replace hCl := hCl'; clear hCl'
                    refine T.qT 5 (some 145) ((.int .i64 (A : Int))) rfl rfl hCl ?hy105 (fun hCl' => ?_)
                    case hy105 => (intro w hSw; (have fF162 := F162.out w hSw; have fF163 := F163.out w hSw); (try dsimp only [List.getElem_toArray, List.getElem_cons_succ, List.getElem_cons_zero]); go_simp; (refine (callsIn_wide.2 (HPa.out w)).mono ?_; rintro e w3 ⟨rfl, u3⟩; exact ⟨rfl, hSw.trans u3⟩))
                    simp only [Act.put, List.setIfInBounds_toArray, List.set_cons_zero, List.set_cons_succ]
                    replace hCl := hCl'; clear hCl'
                    refine T.qT 11 (some 151) ((.int .i64 (B : Int))) rfl rfl hCl ?hy106 (fun hCl' => ?_)
                    case hy106 => (intro w hSw; (have fF162 := F162.out w hSw; have fF163 := F163.out w hSw); (try dsimp only [List.getElem_toArray, List.getElem_cons_succ, List.getElem_cons_zero]); go_simp; (refine (callsIn_wide.2 (HPb.out w)).mono ?_; rintro e w3 ⟨rfl, u3⟩; exact ⟨rfl, hSw.trans u3⟩))
                    simp only [Act.put, List.setIfInBounds_toArray, List.set_cons_zero, List.set_cons_succ]
                    replace hCl := hCl'; clear hCl'
                    refine T.tail_intro (by kernel_rfl) (fun Y161 hY161 => ?_)
                    replace U := U.trans hY161
                    replace kC := hY161.blk kC
                    replace kp := hY161.blk kp
                    replace UW := UW.trans hY161
                    clear F162 F163 hY161
                    refine lastG (i := 12) (by kernel_rfl) rfl (by rfl) (by decide) (fun K hK => ?_)
                    go_simp
                    refine hK.out _ _ ?_
                    clear hK K
                    refine lastG (i := 13) (by kernel_rfl) rfl (by rfl) (by decide) (fun K hK => ?_)
                    go_simp
                    refine hK.out _ _ ?_
                    clear hK K
                    refine doneG (by kernel_rfl) ?_ _
                    refine S.nrm_intro ?_
                    clear HPa HPb
                    obtain ⟨m1, hm1⟩ : ∃ q, M A B = q := ⟨_, rfl⟩
                    obtain ⟨v1, hv1⟩ : ∃ q, Min.min m1 r4 = q := ⟨_, rfl⟩
                    have M1r := min_run hv1
                    have HZ1 := Lib.hid (fun w' (u : Up W5 w') => show w'.cell? ⟨q0 + 1, A, none⟩ = some (.slice (some ⟨rw A, 0, none⟩) N N) ∧ w'.cell? ⟨rw A, B, none⟩ = some (.int .i64 m1) ∧ w'.frozen? ⟨rw A, B, none⟩ = false from ⟨(HMY.out w' u).cell1 hA', by rw [← hm1]; exact (HMY.out w' u).cell2 hA' hB', (HMY.out w' u).froz hA' B⟩)
                    go_wp2_with fail
                    have F165 := Lib.hid (fun w (u : Up Y161 w) => cellB (u.blk kC))
                    have F166 := Lib.hid (fun w (u : Up Y161 w) => cellB (u.blk kp))
                    refine (wpIn_wide (n := 5)).1 ?_
                    refine wpIn_nrm ?_
                    refine T.regionQ (fun w' => Up Y161 w') 16 2 hmx (by kernel_rfl) (by kernel_rfl) ((Up.refl Y161).drew) (fun hCl => ?_)
                    refine T.qT 0 (some 152) ?v107 rfl rfl hCl ?hy107 (fun hCl' => ?_)
                    case hy107 => (intro w hSw; refine T.qVal ?_ hSw; (try dsimp only [List.getElem_toArray, List.getElem_cons_succ, List.getElem_cons_zero]); go_simp; try with_reducible rfl)
                    simp only [Act.put, List.setIfInBounds_toArray, List.set_cons_zero, List.set_cons_succ]; replace hCl := hCl'; clear hCl'
                    refine T.qT 1 (some 153) ?v108 rfl rfl hCl ?hy108 (fun hCl' => ?_)
                    case hy108 => (intro w hSw; refine T.qVal ?_ hSw; (try dsimp only [List.getElem_toArray, List.getElem_cons_succ, List.getElem_cons_zero]); go_simp; try with_reducible rfl)
                    simp only [Act.put, List.setIfInBounds_toArray, List.set_cons_zero, List.set_cons_succ]; replace hCl := hCl'; clear hCl'
                    refine T.qT 4 (some 156) ?v109 rfl rfl hCl ?hy109 (fun hCl' => ?_)
                    case hy109 => (intro w hSw; refine T.qVal ?_ hSw; (try dsimp only [List.getElem_toArray, List.getElem_cons_succ, List.getElem_cons_zero]); go_simp; try with_reducible rfl)
                    simp only [Act.put, List.setIfInBounds_toArray, List.set_cons_zero, List.set_cons_succ]; replace hCl := hCl'; clear hCl'
                    refine T.qT 5 (some 157) ?v110 rfl rfl hCl ?hy110 (fun hCl' => ?_)
                    case hy110 => (intro w hSw; refine T.qVal ?_ hSw; (try dsimp only [List.getElem_toArray, List.getElem_cons_succ, List.getElem_cons_zero]); go_simp; try with_reducible rfl)
                    simp only [Act.put, List.setIfInBounds_toArray, List.set_cons_zero, List.set_cons_succ]; replace hCl := hCl'; clear hCl'
                    refine T.qT 6 (some 158) ?v111 rfl rfl hCl ?hy111 (fun hCl' => ?_)
                    case hy111 => (intro w hSw; refine T.qVal ?_ hSw; (try dsimp only [List.getElem_toArray, List.getElem_cons_succ, List.getElem_cons_zero]); go_simp; try with_reducible rfl)
                    simp only [Act.put, List.setIfInBounds_toArray, List.set_cons_zero, List.set_cons_succ]; replace hCl := hCl'; clear hCl'
                    refine T.qT 9 (some 161) ?v112 rfl rfl hCl ?hy112 (fun hCl' => ?_)
                    case hy112 => (intro w hSw; refine T.qVal ?_ hSw; (try dsimp only [List.getElem_toArray, List.getElem_cons_succ, List.getElem_cons_zero]); go_simp; try with_reducible rfl)
                    simp only [Act.put, List.setIfInBounds_toArray, List.set_cons_zero, List.set_cons_succ]; replace hCl := hCl'; clear hCl'
                    refine T.qT 12 (some 164) ?v113 rfl rfl hCl ?hy113 (fun hCl' => ?_)
                    case hy113 => (intro w hSw; refine T.qVal ?_ hSw; (try dsimp only [List.getElem_toArray, List.getElem_cons_succ, List.getElem_cons_zero]); go_simp; try with_reducible rfl)
                    simp only [Act.put, List.setIfInBounds_toArray, List.set_cons_zero, List.set_cons_succ]; replace hCl := hCl'; clear hCl'
                    refine T.qT 2 (some 154) ?v114 rfl rfl hCl ?hy114 (fun hCl' => ?_)
                    case hy114 => (intro w hSw; refine T.qVal ?_ hSw; (try dsimp only [List.getElem_toArray, List.getElem_cons_succ, List.getElem_cons_zero]); go_simp; try with_reducible rfl)
                    simp only [Act.put, List.setIfInBounds_toArray, List.set_cons_zero, List.set_cons_succ]; replace hCl := hCl'; clear hCl'
                    refine T.qT 7 (some 159) ?v115 rfl rfl hCl ?hy115 (fun hCl' => ?_)
                    case hy115 => (intro w hSw; refine T.qVal ?_ hSw; (try dsimp only [List.getElem_toArray, List.getElem_cons_succ, List.getElem_cons_zero]); go_simp; try with_reducible rfl)
                    simp only [Act.put, List.setIfInBounds_toArray, List.set_cons_zero, List.set_cons_succ]; replace hCl := hCl'; clear hCl'
                    refine T.qT 13 (some 165) ?v116 rfl rfl hCl ?hy116 (fun hCl' => ?_)
                    case hy116 => (intro w hSw; refine T.qVal ?_ hSw; (try dsimp only [List.getElem_toArray, List.getElem_cons_succ, List.getElem_cons_zero]); go_simp; try with_reducible rfl)
                    simp only [Act.put, List.setIfInBounds_toArray, List.set_cons_zero, List.set_cons_succ]; replace hCl := hCl'; clear hCl'
                    refine T.qT 3 (some 155) ?v117 rfl rfl hCl ?hy117 (fun hCl' => ?_)
                    case hy117 => (intro w hSw; refine T.qVal ?_ hSw; (have fF165 := F165.out w hSw; have fF166 := F166.out w hSw; obtain ⟨z1, z2, _⟩ := HZ1.out w (UW.trans hSw)); (try dsimp only [List.getElem_toArray, List.getElem_cons_succ, List.getElem_cons_zero]); go_simp; try with_reducible rfl)
                    simp only [Act.put, List.setIfInBounds_toArray, List.set_cons_zero, List.set_cons_succ]; replace hCl := hCl'; clear hCl'
                    refine T.qT 8 (some 160) ?v118 rfl rfl hCl ?hy118 (fun hCl' => ?_)
                    case hy118 => (intro w hSw; refine T.qVal ?_ hSw; (have fF165 := F165.out w hSw; have fF166 := F166.out w hSw; obtain ⟨z1, z2, _⟩ := HZ1.out w (UW.trans hSw)); (try dsimp only [List.getElem_toArray, List.getElem_cons_succ, List.getElem_cons_zero]); go_simp; try with_reducible rfl)
                    simp only [Act.put, List.setIfInBounds_toArray, List.set_cons_zero, List.set_cons_succ]; replace hCl := hCl'; clear hCl'
                    refine T.qT 14 (some 166) ?v119 rfl rfl hCl ?hy119 (fun hCl' => ?_)
                    case hy119 => (intro w hSw; refine T.qVal ?_ hSw; (have fF165 := F165.out w hSw; have fF166 := F166.out w hSw; obtain ⟨z1, z2, _⟩ := HZ1.out w (UW.trans hSw)); (try dsimp only [List.getElem_toArray, List.getElem_cons_succ, List.getElem_cons_zero]); go_simp; try with_reducible rfl)
                    simp only [Act.put, List.setIfInBounds_toArray, List.set_cons_zero, List.set_cons_succ]; replace hCl := hCl'; clear hCl'
                    refine T.qT 10 (some 162) ?v120 rfl rfl hCl ?hy120 (fun hCl' => ?_)
                    case hy120 => (intro w hSw; refine T.qVal ?_ hSw; (try dsimp only [List.getElem_toArray, List.getElem_cons_succ, List.getElem_cons_zero]); go_simp; try with_reducible rfl)
                    simp only [Act.put, List.setIfInBounds_toArray, List.set_cons_zero, List.set_cons_succ]; replace hCl := hCl'; clear hCl'
                    refine T.qT 11 (some 163) ?v121 rfl rfl hCl ?hy121 (fun hCl' => ?_)
                    case hy121 => (intro w hSw; refine T.qVal ?_ hSw; (have fF165 := F165.out w hSw; have fF166 := F166.out w hSw; obtain ⟨z1, z2, _⟩ := HZ1.out w (UW.trans hSw)); (try dsimp only [List.getElem_toArray, List.getElem_cons_succ, List.getElem_cons_zero]); go_simp; try with_reducible rfl)
                    simp only [Act.put, List.setIfInBounds_toArray, List.set_cons_zero, List.set_cons_succ]; replace hCl := hCl'; clear hCl'
                    refine T.qT 15 (some 167) ?v122 rfl rfl hCl ?hy122 (fun hCl' => ?_)
                    case hy122 => (intro w hSw; refine T.qVal ?_ hSw; (have fF165 := F165.out w hSw; have fF166 := F166.out w hSw; obtain ⟨z1, z2, _⟩ := HZ1.out w (UW.trans hSw)); (try dsimp only [List.getElem_toArray, List.getElem_cons_succ, List.getElem_cons_zero]); go_simp; try with_reducible rfl)
                    simp only [Act.put, List.setIfInBounds_toArray, List.set_cons_zero, List.set_cons_succ]; replace hCl := hCl'; clear hCl'
                    refine T.tail_intro (by kernel_rfl) (fun Y164 hY164 => ?_)
                    obtain ⟨z1, z2, z3⟩ := HZ1.out _ (UW.trans hY164)
                    replace U := U.trans hY164
                    replace kC := hY164.blk kC
                    replace kp := hY164.blk kp
                    replace UW := UW.trans hY164
                    clear F165 F166 hY164
                    refine lastG (i := 16) (by kernel_rfl) rfl (by rfl) (by decide) (fun K hK => ?_)
                    go_simp
                    refine hK.out _ _ ?_
                    clear hK K
                    refine lastG (i := 17) (by kernel_rfl) rfl (by rfl) (by decide) (fun K hK => ?_)
                    go_simp
                    refine hK.out _ _ ?_
                    clear hK K
                    refine doneG (by kernel_rfl) ?_ _
                    refine S.nrm_intro ?_
                    have hrP1 := HRW.out A hA'
                    obtain ⟨M1, hM1⟩ : ∃ q, T.mup M A B v1 = q := ⟨_, rfl⟩
                    have MZ1 := (HMY.out _ UW).put (b := B) hA' v1
                    rw [hM1] at MZ1
                    have UZ1 := U.set (p := ⟨rw A, B, none⟩) (show w.heap.size ≤ rw A by omega) (.int .i64 v1)
                    have kCZ1 : mblk (Y164.setCell ⟨rw A, B, none⟩ (.int .i64 v1)) q0 = some (.cells #[.int .i64 H, .slice aR rs.length cR, .slice aO nO cO, .slice (some ⟨g', off, none⟩) ps.length cP] 26 (0, 0)) := by rw [blk_set _ _ _ _ (by show q0 ≠ rw A; omega)]; exact kC
                    have npp1 : pp ≠ rw A := fun e => by obtain ⟨cs, hcs, _⟩ := (HMY.out _ UW).row A hA'; rw [← e, kp] at hcs; cases hcs
                    have kpZ1 : mblk (Y164.setCell ⟨rw A, B, none⟩ (.int .i64 v1)) pp = some (.cells #[.int .i64 r0, .int .i64 r1, .int .i64 r2, .int .i64 r3, .int .i64 r4] 61 (0, 0)) := by rw [blk_set _ _ _ _ npp1]; exact kp
                    obtain ⟨WZ1, hWZ1⟩ : ∃ q, Y164.setCell ⟨rw A, B, none⟩ (.int .i64 v1) = q := ⟨_, rfl⟩
                    rw [hWZ1] at MZ1 UZ1 kCZ1 kpZ1
                    try rw [hWZ1]
                    clear hWZ1 U kC kp UW z1 z2 z3 M1r
                    have U := UZ1
                    have kC := kCZ1
                    have kp := kpZ1
                    clear UZ1 kCZ1 kpZ1 HZ1
                    have HMZ := Lib.hid (fun w' (u : Up WZ1 w') => MZ1.up u)
                    have UZ := Up.refl WZ1
                    clear HMY MZ1
                    go_wp2_with fail
                    have wn : IntKind.i64.wrap (-r3) = -r3 := IntWalk.i64_in _ (by omega)
                    have wn' : IntKind.i64.wrap (0 - r3) = -r3 := by rw [show (0 : Int) - r3 = -r3 by omega]; exact wn
                    obtain ⟨m2, hm2⟩ : ∃ q, M1 B A = q := ⟨_, rfl⟩
                    obtain ⟨v2, hv2⟩ : ∃ q, Min.min m2 (-r3) = q := ⟨_, rfl⟩
                    have M2r := min_run hv2
                    have HZ2 := Lib.hid (fun w' (u : Up WZ1 w') => show w'.cell? ⟨q0 + 1, B, none⟩ = some (.slice (some ⟨rw B, 0, none⟩) N N) ∧ w'.cell? ⟨rw B, A, none⟩ = some (.int .i64 m2) ∧ w'.frozen? ⟨rw B, A, none⟩ = false from ⟨(HMZ.out w' u).cell1 hB', by rw [← hm2]; exact (HMZ.out w' u).cell2 hB' hA', (HMZ.out w' u).froz hB' A⟩)
                    have F168 := Lib.hid (fun w (u : Up WZ1 w) => cellB (u.blk kC))
                    have F169 := Lib.hid (fun w (u : Up WZ1 w) => cellB (u.blk kp))
                    refine (wpIn_wide (n := 5)).1 ?_
                    refine wpIn_nrm ?_
                    refine T.regionQ (fun w' => Up WZ1 w') 17 2 hmx (by kernel_rfl) (by kernel_rfl) ((Up.refl WZ1).drew) (fun hCl => ?_)
                    refine T.qT 0 (some 169) ?v123 rfl rfl hCl ?hy123 (fun hCl' => ?_)
                    case hy123 => (intro w hSw; refine T.qVal ?_ hSw; (try dsimp only [List.getElem_toArray, List.getElem_cons_succ, List.getElem_cons_zero]); go_simp; try with_reducible rfl)
                    simp only [Act.put, List.setIfInBounds_toArray, List.set_cons_zero, List.set_cons_succ]; replace hCl := hCl'; clear hCl'
                    refine T.qT 1 (some 170) ?v124 rfl rfl hCl ?hy124 (fun hCl' => ?_)
                    case hy124 => (intro w hSw; refine T.qVal ?_ hSw; (try dsimp only [List.getElem_toArray, List.getElem_cons_succ, List.getElem_cons_zero]); go_simp; try with_reducible rfl)
                    simp only [Act.put, List.setIfInBounds_toArray, List.set_cons_zero, List.set_cons_succ]; replace hCl := hCl'; clear hCl'
                    refine T.qT 4 (some 173) ?v125 rfl rfl hCl ?hy125 (fun hCl' => ?_)
                    case hy125 => (intro w hSw; refine T.qVal ?_ hSw; (try dsimp only [List.getElem_toArray, List.getElem_cons_succ, List.getElem_cons_zero]); go_simp; try with_reducible rfl)
                    simp only [Act.put, List.setIfInBounds_toArray, List.set_cons_zero, List.set_cons_succ]; replace hCl := hCl'; clear hCl'
                    refine T.qT 5 (some 174) ?v126 rfl rfl hCl ?hy126 (fun hCl' => ?_)
                    case hy126 => (intro w hSw; refine T.qVal ?_ hSw; (try dsimp only [List.getElem_toArray, List.getElem_cons_succ, List.getElem_cons_zero]); go_simp; try with_reducible rfl)
                    simp only [Act.put, List.setIfInBounds_toArray, List.set_cons_zero, List.set_cons_succ]; replace hCl := hCl'; clear hCl'
                    refine T.qT 6 (some 175) ?v127 rfl rfl hCl ?hy127 (fun hCl' => ?_)
                    case hy127 => (intro w hSw; refine T.qVal ?_ hSw; (try dsimp only [List.getElem_toArray, List.getElem_cons_succ, List.getElem_cons_zero]); go_simp; try with_reducible rfl)
                    simp only [Act.put, List.setIfInBounds_toArray, List.set_cons_zero, List.set_cons_succ]; replace hCl := hCl'; clear hCl'
                    refine T.qT 9 (some 178) ?v128 rfl rfl hCl ?hy128 (fun hCl' => ?_)
                    case hy128 => (intro w hSw; refine T.qVal ?_ hSw; (try dsimp only [List.getElem_toArray, List.getElem_cons_succ, List.getElem_cons_zero]); go_simp; try with_reducible rfl)
                    simp only [Act.put, List.setIfInBounds_toArray, List.set_cons_zero, List.set_cons_succ]; replace hCl := hCl'; clear hCl'
                    refine T.qT 12 (some 181) ?v129 rfl rfl hCl ?hy129 (fun hCl' => ?_)
                    case hy129 => (intro w hSw; refine T.qVal ?_ hSw; (try dsimp only [List.getElem_toArray, List.getElem_cons_succ, List.getElem_cons_zero]); go_simp; try with_reducible rfl)
                    simp only [Act.put, List.setIfInBounds_toArray, List.set_cons_zero, List.set_cons_succ]; replace hCl := hCl'; clear hCl'
                    refine T.qT 2 (some 171) ?v130 rfl rfl hCl ?hy130 (fun hCl' => ?_)
                    case hy130 => (intro w hSw; refine T.qVal ?_ hSw; (try dsimp only [List.getElem_toArray, List.getElem_cons_succ, List.getElem_cons_zero]); go_simp; try with_reducible rfl)
                    simp only [Act.put, List.setIfInBounds_toArray, List.set_cons_zero, List.set_cons_succ]; replace hCl := hCl'; clear hCl'
                    refine T.qT 7 (some 176) ?v131 rfl rfl hCl ?hy131 (fun hCl' => ?_)
                    case hy131 => (intro w hSw; refine T.qVal ?_ hSw; (try dsimp only [List.getElem_toArray, List.getElem_cons_succ, List.getElem_cons_zero]); go_simp; try with_reducible rfl)
                    simp only [Act.put, List.setIfInBounds_toArray, List.set_cons_zero, List.set_cons_succ]; replace hCl := hCl'; clear hCl'
                    refine T.qT 13 (some 182) ?v132 rfl rfl hCl ?hy132 (fun hCl' => ?_)
                    case hy132 => (intro w hSw; refine T.qVal ?_ hSw; (try dsimp only [List.getElem_toArray, List.getElem_cons_succ, List.getElem_cons_zero]); go_simp; try with_reducible rfl)
                    simp only [Act.put, List.setIfInBounds_toArray, List.set_cons_zero, List.set_cons_succ]; replace hCl := hCl'; clear hCl'
                    refine T.qT 3 (some 172) ?v133 rfl rfl hCl ?hy133 (fun hCl' => ?_)
                    case hy133 => (intro w hSw; refine T.qVal ?_ hSw; (have fF168 := F168.out w hSw; have fF169 := F169.out w hSw; obtain ⟨z1, z2, _⟩ := HZ2.out w (UZ.trans hSw)); (try dsimp only [List.getElem_toArray, List.getElem_cons_succ, List.getElem_cons_zero]); go_simp; try with_reducible rfl)
                    simp only [Act.put, List.setIfInBounds_toArray, List.set_cons_zero, List.set_cons_succ]; replace hCl := hCl'; clear hCl'
                    refine T.qT 8 (some 177) ?v134 rfl rfl hCl ?hy134 (fun hCl' => ?_)
                    case hy134 => (intro w hSw; refine T.qVal ?_ hSw; (have fF168 := F168.out w hSw; have fF169 := F169.out w hSw; obtain ⟨z1, z2, _⟩ := HZ2.out w (UZ.trans hSw)); (try dsimp only [List.getElem_toArray, List.getElem_cons_succ, List.getElem_cons_zero]); go_simp; try with_reducible rfl)
                    simp only [Act.put, List.setIfInBounds_toArray, List.set_cons_zero, List.set_cons_succ]; replace hCl := hCl'; clear hCl'
                    refine T.qT 14 (some 183) ?v135 rfl rfl hCl ?hy135 (fun hCl' => ?_)
                    case hy135 => (intro w hSw; refine T.qVal ?_ hSw; (have fF168 := F168.out w hSw; have fF169 := F169.out w hSw; obtain ⟨z1, z2, _⟩ := HZ2.out w (UZ.trans hSw)); (try dsimp only [List.getElem_toArray, List.getElem_cons_succ, List.getElem_cons_zero]); go_simp; try with_reducible rfl)
                    simp only [Act.put, List.setIfInBounds_toArray, List.set_cons_zero, List.set_cons_succ]; replace hCl := hCl'; clear hCl'
                    refine T.qT 10 (some 179) ?v136 rfl rfl hCl ?hy136 (fun hCl' => ?_)
                    case hy136 => (intro w hSw; refine T.qVal ?_ hSw; (try dsimp only [List.getElem_toArray, List.getElem_cons_succ, List.getElem_cons_zero]); go_simp; try with_reducible rfl)
                    simp only [Act.put, List.setIfInBounds_toArray, List.set_cons_zero, List.set_cons_succ]; replace hCl := hCl'; clear hCl'
                    refine T.qT 15 (some 184) ?v137 rfl rfl hCl ?hy137 (fun hCl' => ?_)
                    case hy137 => (intro w hSw; refine T.qVal ?_ hSw; (try dsimp only [List.getElem_toArray, List.getElem_cons_succ, List.getElem_cons_zero]); go_simp; try with_reducible rfl)
                    simp only [Act.put, List.setIfInBounds_toArray, List.set_cons_zero, List.set_cons_succ]; replace hCl := hCl'; clear hCl'
                    refine T.qT 11 (some 180) ?v138 rfl rfl hCl ?hy138 (fun hCl' => ?_)
                    case hy138 => (intro w hSw; refine T.qVal ?_ hSw; (have fF168 := F168.out w hSw; have fF169 := F169.out w hSw; obtain ⟨z1, z2, _⟩ := HZ2.out w (UZ.trans hSw)); (try dsimp only [List.getElem_toArray, List.getElem_cons_succ, List.getElem_cons_zero]); go_simp; try with_reducible rfl)
                    simp only [Act.put, List.setIfInBounds_toArray, List.set_cons_zero, List.set_cons_succ]; replace hCl := hCl'; clear hCl'
                    refine T.qT 16 (some 185) ?v139 rfl rfl hCl ?hy139 (fun hCl' => ?_)
                    case hy139 => (intro w hSw; refine T.qVal ?_ hSw; (have fF168 := F168.out w hSw; have fF169 := F169.out w hSw; obtain ⟨z1, z2, _⟩ := HZ2.out w (UZ.trans hSw)); (try dsimp only [List.getElem_toArray, List.getElem_cons_succ, List.getElem_cons_zero]); go_simp; try with_reducible rfl)
                    simp only [Act.put, List.setIfInBounds_toArray, List.set_cons_zero, List.set_cons_succ]; replace hCl := hCl'; clear hCl'
                    refine T.tail_intro (by kernel_rfl) (fun Y167 hY167 => ?_)
                    obtain ⟨z1, z2, z3⟩ := HZ2.out _ (UZ.trans hY167)
                    replace U := U.trans hY167
                    replace kC := hY167.blk kC
                    replace kp := hY167.blk kp
                    replace UZ := UZ.trans hY167
                    clear F168 F169 hY167
                    refine lastG (i := 17) (by kernel_rfl) rfl (by rfl) (by decide) (fun K hK => ?_)
                    go_simp
                    refine hK.out _ _ ?_
                    clear hK K
                    refine lastG (i := 18) (by kernel_rfl) rfl (by rfl) (by decide) (fun K hK => ?_)
                    go_simp
                    refine hK.out _ _ ?_
                    clear hK K
                    refine doneG (by kernel_rfl) ?_ _
                    refine S.nrm_intro ?_
                    have hrP2 := HRW.out B hB'
                    obtain ⟨M2, hM2⟩ : ∃ q, T.mup M1 B A v2 = q := ⟨_, rfl⟩
                    have MZ2 := (HMZ.out _ UZ).put (b := A) hB' v2
                    rw [hM2] at MZ2
                    have UZ2 := U.set (p := ⟨rw B, A, none⟩) (show w.heap.size ≤ rw B by omega) (.int .i64 v2)
                    have kCZ2 : mblk (Y167.setCell ⟨rw B, A, none⟩ (.int .i64 v2)) q0 = some (.cells #[.int .i64 H, .slice aR rs.length cR, .slice aO nO cO, .slice (some ⟨g', off, none⟩) ps.length cP] 26 (0, 0)) := by rw [blk_set _ _ _ _ (by show q0 ≠ rw B; omega)]; exact kC
                    have npp2 : pp ≠ rw B := fun e => by obtain ⟨cs, hcs, _⟩ := (HMZ.out _ UZ).row B hB'; rw [← e, kp] at hcs; cases hcs
                    have kpZ2 : mblk (Y167.setCell ⟨rw B, A, none⟩ (.int .i64 v2)) pp = some (.cells #[.int .i64 r0, .int .i64 r1, .int .i64 r2, .int .i64 r3, .int .i64 r4] 61 (0, 0)) := by rw [blk_set _ _ _ _ npp2]; exact kp
                    obtain ⟨WZ2, hWZ2⟩ : ∃ q, Y167.setCell ⟨rw B, A, none⟩ (.int .i64 v2) = q := ⟨_, rfl⟩
                    rw [hWZ2] at MZ2 UZ2 kCZ2 kpZ2
                    try rw [hWZ2]
                    clear hWZ2 U kC kp UZ z1 z2 z3 M2r
                    have U := UZ2
                    have kC := kCZ2
                    have kp := kpZ2
                    clear UZ2 kCZ2 kpZ2 HZ2
                    have hnAB : A ≠ B := hAB.out
                    have HI1 := Lib.hid (show T.Ini N M2 (T.allOf H rs os s (ps.take (j + 1))) by
                      have a1 := HI0.out.min hA' hB' hnAB (v := r4) (by omega)
                      rw [hm1, hv1, hM1] at a1
                      have a2 := a1.min hB' hA' (fun e => hnAB e.symm) (v := -r3) (by omega)
                      rw [hm2, hv2, hM2] at a2
                      refine a2.congr (fun y => ?_)
                      rw [HST.out, HSS.out]
                      have k1 := HSY.out
                      unfold T.says
                      rw [show T.plA H ((r0 : Int), (r1 : Int), (r2 : Int), r3, r4) = A from HAB.out.1, show T.plO H ((r0 : Int), (r1 : Int), (r2 : Int), r3, r4) = B from HAB.out.2]
                      exact ⟨fun ⟨⟨x1, x2⟩, x3⟩ => ⟨x1, fun _ _ => ⟨x2, x3⟩⟩, fun ⟨x1, x2⟩ => ⟨⟨x1, (x2 k1.1 k1.2).1⟩, (x2 k1.1 k1.2).2⟩⟩)
                    have HM3 := Lib.hid MZ2
                    clear HI0 HST MZ2 hm1 hv1 hM1 hm2 hv2 hM2
                    go_wp2_with fail
                    go_roundw
                    case rel => exact ⟨j + 1, M2, by omega, by go_num, U, kC, HM3, HI1⟩
                    case measure => (simp only [intOf]; omega)
            · skip
              obtain rfl : j = ps.length := by omega
              have dk : decide ((ps.length : Int) < (ps.length : Int)) = false := decide_eq_false (by omega)
              obtain ⟨F, hF⟩ : ∃ F : (Nat → Int) → Prop, (fun y => (∀ a b, a < N → b < N → y a - y b ≤ 1099511627776) ∧ T.allOf H rs os s ps y) = F := ⟨_, rfl⟩
              have HST := Lib.hid (show T.St N F 0 M by
                have := HI0.out
                rw [List.take_length] at this
                rw [← hF]
                exact this.st)
              have HF := Lib.hid hF
              clear HI0 hF
              go_wp2_with fail
              go_loopw [19] (fun i wr => ∃ (p : Nat) (M : T.Mt), p ≤ N ∧ i = .int .i64 p ∧ Up w wr ∧ mblk wr q0 = some (.cells #[.int .i64 H, .slice aR rs.length cR, .slice aO nO cO, .slice aP ps.length cP] 26 (0, 0)) ∧ Hid (T.Mx wr (q0 + 1) N rw M N) ∧ Hid (T.St N F p M)) (fun i _ => N - (intOf i).toNat)
              case atStart => exact ⟨0, M, Nat.zero_le _, rfl, U, kC, HM, HST⟩
              case round =>
                clear U kC HM HST
                obtain ⟨p, M, hp, rfl, U, kC, HM, HST⟩ := hrel
                by_cases hp6 : p < N
                · have d6 : decide ((p : Int) < (N : Int)) = true := decide_eq_true (by omega)
                  have i6 : (p : Int) < (N : Int) := by omega
                  have e6 : IntKind.i64.wrap ((p : Int) + 1) = (p : Int) + 1 := IntWalk.i64_in _ (by omega)
                  have HS0 := Lib.hid HST.out.start
                  clear HST
                  go_wp2_with fail
                  go_loopw [20] (fun i wr => ∃ (a : Nat) (M : T.Mt), a ≤ N ∧ i = .int .i64 a ∧ Up w wr ∧ mblk wr q0 = some (.cells #[.int .i64 H, .slice aR rs.length cR, .slice aO nO cO, .slice aP ps.length cP] 26 (0, 0)) ∧ Hid (T.Mx wr (q0 + 1) N rw M N) ∧ Hid (T.SM N F p a 0 M)) (fun i _ => N - (intOf i).toNat)
                  case atStart => exact ⟨0, M, Nat.zero_le _, rfl, U, kC, HM, HS0⟩
                  case round =>
                    clear U kC HM HS0
                    obtain ⟨a, M, ha, rfl, U, kC, HM, HS0⟩ := hrel
                    by_cases hp7 : a < N
                    · have d7 : decide ((a : Int) < (N : Int)) = true := decide_eq_true (by omega)
                      have i7 : (a : Int) < (N : Int) := by omega
                      have e7 : IntKind.i64.wrap ((a : Int) + 1) = (a : Int) + 1 := IntWalk.i64_in _ (by omega)
                      go_wp2_with fail
                      go_loopw [21] (fun i wr => ∃ (b : Nat) (M : T.Mt), b ≤ N ∧ i = .int .i64 b ∧ Up w wr ∧ mblk wr q0 = some (.cells #[.int .i64 H, .slice aR rs.length cR, .slice aO nO cO, .slice aP ps.length cP] 26 (0, 0)) ∧ Hid (T.Mx wr (q0 + 1) N rw M N) ∧ Hid (T.SM N F p a b M)) (fun i _ => N - (intOf i).toNat)
                      case atStart => exact ⟨0, M, Nat.zero_le _, rfl, U, kC, HM, HS0⟩
                      case round =>
                        clear U kC HM HS0
                        obtain ⟨b, M, hb, rfl, U, kC, HM, HS0⟩ := hrel
                        by_cases hp8 : b < N
                        · skip
                          have d8 : decide ((b : Int) < (N : Int)) = true := decide_eq_true (by omega)
                          have i8 : (b : Int) < (N : Int) := by omega
                          have e8 : IntKind.i64.wrap ((b : Int) + 1) = (b : Int) + 1 := IntWalk.i64_in _ (by omega)
                          obtain ⟨m1, hm1⟩ : ∃ q, M a b = q := ⟨_, rfl⟩
                          obtain ⟨m2, hm2⟩ : ∃ q, M a p = q := ⟨_, rfl⟩
                          obtain ⟨m3, hm3⟩ : ∃ q, M p b = q := ⟨_, rfl⟩
                          obtain ⟨sm, hsm⟩ : ∃ q, IntKind.i64.wrap (m2 + m3) = q := ⟨_, rfl⟩
                          obtain ⟨vv, hvv⟩ : ∃ q, Min.min m1 sm = q := ⟨_, rfl⟩
                          have Mr := min_run hvv
                          have HZc := Lib.hid (fun w' (u : Up wr w') => show w'.cell? ⟨q0 + 1, a, none⟩ = some (.slice (some ⟨rw a, 0, none⟩) N N) ∧ w'.cell? ⟨q0 + 1, p, none⟩ = some (.slice (some ⟨rw p, 0, none⟩) N N) ∧ w'.cell? ⟨rw a, b, none⟩ = some (.int .i64 m1) ∧ w'.cell? ⟨rw a, p, none⟩ = some (.int .i64 m2) ∧ w'.cell? ⟨rw p, b, none⟩ = some (.int .i64 m3) ∧ w'.frozen? ⟨rw a, b, none⟩ = false from ⟨(HM.out.up u).cell1 hp7, (HM.out.up u).cell1 hp6, by rw [← hm1]; exact (HM.out.up u).cell2 hp7 hp8, by rw [← hm2]; exact (HM.out.up u).cell2 hp7 hp6, by rw [← hm3]; exact (HM.out.up u).cell2 hp6 hp8, (HM.out.up u).froz hp7 b⟩)
                          have HS1 := Lib.hid (show T.SM N F p a (b + 1) (T.mup M a b vv) by
                            have := HS0.out.step hp6 hp7 hp8 (s := sm) (fun h => by rw [← hsm, ← hm2, ← hm3]; exact IntWalk.i64_in _ (by unfold D.in64 at h; omega))
                            rw [hm1, hvv] at this
                            exact this)
                          have UW := Up.refl wr
                          clear HS0 hm1 hm2 hm3 hvv
                          go_wp2_with fail
                          have F202 := Lib.hid (fun w (u : Up wr w) => cellB (u.blk kC))
                          refine (wpIn_wide (n := 5)).1 ?_
                          refine wpIn_nrm ?_
                          refine T.regionQ (fun w' => Up wr w') 28 2 hmx (by kernel_rfl) (by kernel_rfl) ((Up.refl wr).drew) (fun hCl => ?_)
                          refine T.qT 0 (some 202) ?v140 rfl rfl hCl ?hy140 (fun hCl' => ?_)
                          case hy140 => (intro w hSw; refine T.qVal ?_ hSw; (try dsimp only [List.getElem_toArray, List.getElem_cons_succ, List.getElem_cons_zero]); go_simp; try with_reducible rfl)
                          simp only [Act.put, List.setIfInBounds_toArray, List.set_cons_zero, List.set_cons_succ]; replace hCl := hCl'; clear hCl'
                          refine T.qT 1 (some 203) ?v141 rfl rfl hCl ?hy141 (fun hCl' => ?_)
                          case hy141 => (intro w hSw; refine T.qVal ?_ hSw; (try dsimp only [List.getElem_toArray, List.getElem_cons_succ, List.getElem_cons_zero]); go_simp; try with_reducible rfl)
                          simp only [Act.put, List.setIfInBounds_toArray, List.set_cons_zero, List.set_cons_succ]; replace hCl := hCl'; clear hCl'
                          refine T.qT 4 (some 206) ?v142 rfl rfl hCl ?hy142 (fun hCl' => ?_)
                          case hy142 => (intro w hSw; refine T.qVal ?_ hSw; (try dsimp only [List.getElem_toArray, List.getElem_cons_succ, List.getElem_cons_zero]); go_simp; try with_reducible rfl)
                          simp only [Act.put, List.setIfInBounds_toArray, List.set_cons_zero, List.set_cons_succ]; replace hCl := hCl'; clear hCl'
                          refine T.qT 5 (some 207) ?v143 rfl rfl hCl ?hy143 (fun hCl' => ?_)
                          case hy143 => (intro w hSw; refine T.qVal ?_ hSw; (try dsimp only [List.getElem_toArray, List.getElem_cons_succ, List.getElem_cons_zero]); go_simp; try with_reducible rfl)
                          simp only [Act.put, List.setIfInBounds_toArray, List.set_cons_zero, List.set_cons_succ]; replace hCl := hCl'; clear hCl'
                          refine T.qT 6 (some 208) ?v144 rfl rfl hCl ?hy144 (fun hCl' => ?_)
                          case hy144 => (intro w hSw; refine T.qVal ?_ hSw; (try dsimp only [List.getElem_toArray, List.getElem_cons_succ, List.getElem_cons_zero]); go_simp; try with_reducible rfl)
                          simp only [Act.put, List.setIfInBounds_toArray, List.set_cons_zero, List.set_cons_succ]; replace hCl := hCl'; clear hCl'
                          refine T.qT 9 (some 211) ?v145 rfl rfl hCl ?hy145 (fun hCl' => ?_)
                          case hy145 => (intro w hSw; refine T.qVal ?_ hSw; (try dsimp only [List.getElem_toArray, List.getElem_cons_succ, List.getElem_cons_zero]); go_simp; try with_reducible rfl)
                          simp only [Act.put, List.setIfInBounds_toArray, List.set_cons_zero, List.set_cons_succ]; replace hCl := hCl'; clear hCl'
                          refine T.qT 12 (some 214) ?v146 rfl rfl hCl ?hy146 (fun hCl' => ?_)
                          case hy146 => (intro w hSw; refine T.qVal ?_ hSw; (try dsimp only [List.getElem_toArray, List.getElem_cons_succ, List.getElem_cons_zero]); go_simp; try with_reducible rfl)
                          simp only [Act.put, List.setIfInBounds_toArray, List.set_cons_zero, List.set_cons_succ]; replace hCl := hCl'; clear hCl'
                          refine T.qT 13 (some 215) ?v147 rfl rfl hCl ?hy147 (fun hCl' => ?_)
                          case hy147 => (intro w hSw; refine T.qVal ?_ hSw; (try dsimp only [List.getElem_toArray, List.getElem_cons_succ, List.getElem_cons_zero]); go_simp; try with_reducible rfl)
                          simp only [Act.put, List.setIfInBounds_toArray, List.set_cons_zero, List.set_cons_succ]; replace hCl := hCl'; clear hCl'
                          refine T.qT 16 (some 218) ?v148 rfl rfl hCl ?hy148 (fun hCl' => ?_)
                          case hy148 => (intro w hSw; refine T.qVal ?_ hSw; (try dsimp only [List.getElem_toArray, List.getElem_cons_succ, List.getElem_cons_zero]); go_simp; try with_reducible rfl)
                          simp only [Act.put, List.setIfInBounds_toArray, List.set_cons_zero, List.set_cons_succ]; replace hCl := hCl'; clear hCl'
                          refine T.qT 19 (some 221) ?v149 rfl rfl hCl ?hy149 (fun hCl' => ?_)
                          case hy149 => (intro w hSw; refine T.qVal ?_ hSw; (try dsimp only [List.getElem_toArray, List.getElem_cons_succ, List.getElem_cons_zero]); go_simp; try with_reducible rfl)
                          simp only [Act.put, List.setIfInBounds_toArray, List.set_cons_zero, List.set_cons_succ]; replace hCl := hCl'; clear hCl'
                          refine T.qT 20 (some 222) ?v150 rfl rfl hCl ?hy150 (fun hCl' => ?_)
                          case hy150 => (intro w hSw; refine T.qVal ?_ hSw; (try dsimp only [List.getElem_toArray, List.getElem_cons_succ, List.getElem_cons_zero]); go_simp; try with_reducible rfl)
                          simp only [Act.put, List.setIfInBounds_toArray, List.set_cons_zero, List.set_cons_succ]; replace hCl := hCl'; clear hCl'
                          refine T.qT 23 (some 225) ?v151 rfl rfl hCl ?hy151 (fun hCl' => ?_)
                          case hy151 => (intro w hSw; refine T.qVal ?_ hSw; (try dsimp only [List.getElem_toArray, List.getElem_cons_succ, List.getElem_cons_zero]); go_simp; try with_reducible rfl)
                          simp only [Act.put, List.setIfInBounds_toArray, List.set_cons_zero, List.set_cons_succ]; replace hCl := hCl'; clear hCl'
                          refine T.qT 2 (some 204) ?v152 rfl rfl hCl ?hy152 (fun hCl' => ?_)
                          case hy152 => (intro w hSw; refine T.qVal ?_ hSw; (try dsimp only [List.getElem_toArray, List.getElem_cons_succ, List.getElem_cons_zero]); go_simp; try with_reducible rfl)
                          simp only [Act.put, List.setIfInBounds_toArray, List.set_cons_zero, List.set_cons_succ]; replace hCl := hCl'; clear hCl'
                          refine T.qT 7 (some 209) ?v153 rfl rfl hCl ?hy153 (fun hCl' => ?_)
                          case hy153 => (intro w hSw; refine T.qVal ?_ hSw; (try dsimp only [List.getElem_toArray, List.getElem_cons_succ, List.getElem_cons_zero]); go_simp; try with_reducible rfl)
                          simp only [Act.put, List.setIfInBounds_toArray, List.set_cons_zero, List.set_cons_succ]; replace hCl := hCl'; clear hCl'
                          refine T.qT 14 (some 216) ?v154 rfl rfl hCl ?hy154 (fun hCl' => ?_)
                          case hy154 => (intro w hSw; refine T.qVal ?_ hSw; (try dsimp only [List.getElem_toArray, List.getElem_cons_succ, List.getElem_cons_zero]); go_simp; try with_reducible rfl)
                          simp only [Act.put, List.setIfInBounds_toArray, List.set_cons_zero, List.set_cons_succ]; replace hCl := hCl'; clear hCl'
                          refine T.qT 21 (some 223) ?v155 rfl rfl hCl ?hy155 (fun hCl' => ?_)
                          case hy155 => (intro w hSw; refine T.qVal ?_ hSw; (try dsimp only [List.getElem_toArray, List.getElem_cons_succ, List.getElem_cons_zero]); go_simp; try with_reducible rfl)
                          simp only [Act.put, List.setIfInBounds_toArray, List.set_cons_zero, List.set_cons_succ]; replace hCl := hCl'; clear hCl'
                          refine T.qT 3 (some 205) ?v156 rfl rfl hCl ?hy156 (fun hCl' => ?_)
                          case hy156 => (intro w hSw; refine T.qVal ?_ hSw; (have fF202 := F202.out w hSw; obtain ⟨z1, z2, z3, z4, z5, _⟩ := HZc.out w (UW.trans hSw)); (try dsimp only [List.getElem_toArray, List.getElem_cons_succ, List.getElem_cons_zero]); go_simp; try with_reducible rfl)
                          simp only [Act.put, List.setIfInBounds_toArray, List.set_cons_zero, List.set_cons_succ]; replace hCl := hCl'; clear hCl'
                          refine T.qT 8 (some 210) ?v157 rfl rfl hCl ?hy157 (fun hCl' => ?_)
                          case hy157 => (intro w hSw; refine T.qVal ?_ hSw; (have fF202 := F202.out w hSw; obtain ⟨z1, z2, z3, z4, z5, _⟩ := HZc.out w (UW.trans hSw)); (try dsimp only [List.getElem_toArray, List.getElem_cons_succ, List.getElem_cons_zero]); go_simp; try with_reducible rfl)
                          simp only [Act.put, List.setIfInBounds_toArray, List.set_cons_zero, List.set_cons_succ]; replace hCl := hCl'; clear hCl'
                          refine T.qT 15 (some 217) ?v158 rfl rfl hCl ?hy158 (fun hCl' => ?_)
                          case hy158 => (intro w hSw; refine T.qVal ?_ hSw; (have fF202 := F202.out w hSw; obtain ⟨z1, z2, z3, z4, z5, _⟩ := HZc.out w (UW.trans hSw)); (try dsimp only [List.getElem_toArray, List.getElem_cons_succ, List.getElem_cons_zero]); go_simp; try with_reducible rfl)
                          simp only [Act.put, List.setIfInBounds_toArray, List.set_cons_zero, List.set_cons_succ]; replace hCl := hCl'; clear hCl'
                          refine T.qT 22 (some 224) ?v159 rfl rfl hCl ?hy159 (fun hCl' => ?_)
                          case hy159 => (intro w hSw; refine T.qVal ?_ hSw; (have fF202 := F202.out w hSw; obtain ⟨z1, z2, z3, z4, z5, _⟩ := HZc.out w (UW.trans hSw)); (try dsimp only [List.getElem_toArray, List.getElem_cons_succ, List.getElem_cons_zero]); go_simp; try with_reducible rfl)
                          simp only [Act.put, List.setIfInBounds_toArray, List.set_cons_zero, List.set_cons_succ]; replace hCl := hCl'; clear hCl'
                          refine T.qT 10 (some 212) ?v160 rfl rfl hCl ?hy160 (fun hCl' => ?_)
                          case hy160 => (intro w hSw; refine T.qVal ?_ hSw; (try dsimp only [List.getElem_toArray, List.getElem_cons_succ, List.getElem_cons_zero]); go_simp; try with_reducible rfl)
                          simp only [Act.put, List.setIfInBounds_toArray, List.set_cons_zero, List.set_cons_succ]; replace hCl := hCl'; clear hCl'
                          refine T.qT 17 (some 219) ?v161 rfl rfl hCl ?hy161 (fun hCl' => ?_)
                          case hy161 => (intro w hSw; refine T.qVal ?_ hSw; (try dsimp only [List.getElem_toArray, List.getElem_cons_succ, List.getElem_cons_zero]); go_simp; try with_reducible rfl)
                          simp only [Act.put, List.setIfInBounds_toArray, List.set_cons_zero, List.set_cons_succ]; replace hCl := hCl'; clear hCl'
                          refine T.qT 24 (some 226) ?v162 rfl rfl hCl ?hy162 (fun hCl' => ?_)
                          case hy162 => (intro w hSw; refine T.qVal ?_ hSw; (try dsimp only [List.getElem_toArray, List.getElem_cons_succ, List.getElem_cons_zero]); go_simp; try with_reducible rfl)
                          simp only [Act.put, List.setIfInBounds_toArray, List.set_cons_zero, List.set_cons_succ]; replace hCl := hCl'; clear hCl'
                          refine T.qT 11 (some 213) ?v163 rfl rfl hCl ?hy163 (fun hCl' => ?_)
                          case hy163 => (intro w hSw; refine T.qVal ?_ hSw; (have fF202 := F202.out w hSw; obtain ⟨z1, z2, z3, z4, z5, _⟩ := HZc.out w (UW.trans hSw)); (try dsimp only [List.getElem_toArray, List.getElem_cons_succ, List.getElem_cons_zero]); go_simp; try with_reducible rfl)
                          simp only [Act.put, List.setIfInBounds_toArray, List.set_cons_zero, List.set_cons_succ]; replace hCl := hCl'; clear hCl'
                          refine T.qT 18 (some 220) ?v164 rfl rfl hCl ?hy164 (fun hCl' => ?_)
                          case hy164 => (intro w hSw; refine T.qVal ?_ hSw; (have fF202 := F202.out w hSw; obtain ⟨z1, z2, z3, z4, z5, _⟩ := HZc.out w (UW.trans hSw)); (try dsimp only [List.getElem_toArray, List.getElem_cons_succ, List.getElem_cons_zero]); go_simp; try with_reducible rfl)
                          simp only [Act.put, List.setIfInBounds_toArray, List.set_cons_zero, List.set_cons_succ]; replace hCl := hCl'; clear hCl'
                          refine T.qT 25 (some 227) ?v165 rfl rfl hCl ?hy165 (fun hCl' => ?_)
                          case hy165 => (intro w hSw; refine T.qVal ?_ hSw; (have fF202 := F202.out w hSw; obtain ⟨z1, z2, z3, z4, z5, _⟩ := HZc.out w (UW.trans hSw)); (try dsimp only [List.getElem_toArray, List.getElem_cons_succ, List.getElem_cons_zero]); go_simp; try with_reducible rfl)
                          simp only [Act.put, List.setIfInBounds_toArray, List.set_cons_zero, List.set_cons_succ]; replace hCl := hCl'; clear hCl'
                          refine T.qT 26 (some 228) ?v166 rfl rfl hCl ?hy166 (fun hCl' => ?_)
                          case hy166 => (intro w hSw; refine T.qVal ?_ hSw; (try dsimp only [List.getElem_toArray, List.getElem_cons_succ, List.getElem_cons_zero]); go_simp; try with_reducible rfl)
                          simp only [Act.put, List.setIfInBounds_toArray, List.set_cons_zero, List.set_cons_succ]; replace hCl := hCl'; clear hCl'
                          refine T.qT 27 (some 229) ?v167 rfl rfl hCl ?hy167 (fun hCl' => ?_)
                          case hy167 => (intro w hSw; refine T.qVal ?_ hSw; (have fF202 := F202.out w hSw; obtain ⟨z1, z2, z3, z4, z5, _⟩ := HZc.out w (UW.trans hSw)); (try dsimp only [List.getElem_toArray, List.getElem_cons_succ, List.getElem_cons_zero]); go_simp; try with_reducible rfl)
                          simp only [Act.put, List.setIfInBounds_toArray, List.set_cons_zero, List.set_cons_succ]; replace hCl := hCl'; clear hCl'
                          refine T.tail_intro (by kernel_rfl) (fun Y201 hY201 => ?_)
                          obtain ⟨z1, z2, z3, z4, z5, z6⟩ := HZc.out _ (UW.trans hY201)
                          replace U := U.trans hY201
                          replace kC := hY201.blk kC
                          replace UW := UW.trans hY201
                          clear F202 hY201
                          refine lastG (i := 28) (by kernel_rfl) rfl (by rfl) (by decide) (fun K hK => ?_)
                          go_simp
                          refine hK.out _ _ ?_
                          clear hK K
                          refine lastG (i := 29) (by kernel_rfl) rfl (by rfl) (by decide) (fun K hK => ?_)
                          go_simp
                          refine hK.out _ _ ?_
                          clear hK K
                          refine doneG (by kernel_rfl) ?_ _
                          refine S.nrm_intro ?_
                          have hrP := HRW.out a hp7
                          have MZ := Lib.hid ((HM.out.up UW).put (b := b) hp7 vv)
                          have UZ := U.set (p := ⟨rw a, b, none⟩) (show w.heap.size ≤ rw a by omega) (.int .i64 vv)
                          have kCZ : mblk (Y201.setCell ⟨rw a, b, none⟩ (.int .i64 vv)) q0 = some (.cells #[.int .i64 H, .slice aR rs.length cR, .slice aO nO cO, .slice aP ps.length cP] 26 (0, 0)) := by rw [blk_set _ _ _ _ (by show q0 ≠ rw a; omega)]; exact kC
                          obtain ⟨WZ, hWZ⟩ : ∃ q, Y201.setCell ⟨rw a, b, none⟩ (.int .i64 vv) = q := ⟨_, rfl⟩
                          rw [hWZ] at MZ UZ kCZ
                          try rw [hWZ]
                          clear hWZ U kC HM UW z1 z2 z3 z4 z5 z6 Mr HZc hsm
                          go_wp2_with fail
                          go_roundw
                          case rel => exact ⟨b + 1, _, by omega, by go_num, UZ, kCZ, MZ, HS1⟩
                          case measure => (simp only [intOf]; omega)
                        · skip
                          have hbN : N = b := by omega
                          subst hbN
                          have d8 : decide ((N : Int) < (N : Int)) = false := decide_eq_false (by omega)
                          have HS1 := Lib.hid HS0.out.row
                          clear HS0
                          go_wp2_with fail
                          go_roundw
                          case rel => exact ⟨a + 1, M, by omega, by go_num, U, kC, HM, HS1⟩
                          case measure => (simp only [intOf]; omega)
                    · skip
                      have haN : N = a := by omega
                      subst haN
                      have d7 : decide ((N : Int) < (N : Int)) = false := decide_eq_false (by omega)
                      have HS1 := Lib.hid (HS0.out.done hp6)
                      clear HS0
                      go_wp2_with fail
                      go_roundw
                      case rel => exact ⟨p + 1, M, by omega, by go_num, U, kC, HM, HS1⟩
                      case measure => (simp only [intOf]; omega)
                · skip
                  have hpN : N = p := by omega
                  subst hpN
                  have d6 : decide ((N : Int) < (N : Int)) = false := decide_eq_false (by omega)
                  go_wp2_with fail
                  go_loopw [22] (fun i wr => ∃ (x : Nat), x ≤ N ∧ i = .int .i64 x ∧ Up w wr ∧ mblk wr q0 = some (.cells #[.int .i64 H, .slice aR rs.length cR, .slice aO nO cO, .slice aP ps.length cP] 26 (0, 0)) ∧ Hid (T.Mx wr (q0 + 1) N rw M N) ∧ Hid (∀ y, y < x → 0 ≤ M y y)) (fun i _ => N - (intOf i).toNat)
                  case atStart => exact ⟨0, Nat.zero_le _, rfl, U, kC, HM, Lib.hid (fun y hy => absurd hy (Nat.not_lt_zero y))⟩
                  case round =>
                    clear U kC HM
                    obtain ⟨x, hx, rfl, U, kC, HM, HD⟩ := hrel
                    by_cases hp9 : x < N
                    · have d9 : decide ((x : Int) < (N : Int)) = true := decide_eq_true (by omega)
                      have i9 : (x : Int) < (N : Int) := by omega
                      have e9 : IntKind.i64.wrap ((x : Int) + 1) = (x : Int) + 1 := IntWalk.i64_in _ (by omega)
                      have c1 := HM.out.cell1 hp9
                      have c2 := HM.out.cell2 hp9 hp9
                      obtain ⟨m, hm⟩ : ∃ q, M x x = q := ⟨_, rfl⟩
                      rw [hm] at c2
                      by_cases hm0 : m < 0
                      · have d10 : decide (m < 0) = true := decide_eq_true hm0
                        have HNo := Lib.hid (show ∀ y, ¬ T.Tru H rs os ps (z.testBit 0) (z.testBit 1) (z.testBit 2) (z.testBit 3) (z.testBit 4) y by
                          intro y
                          have h1 := HST.out
                          rw [← HF.out] at h1
                          rw [← HN.out] at h1 hp9
                          have e5 := HS.out
                          have := T.most_none HG.out h1 hp9 (by rw [hm]; exact hm0) y
                          rw [← e5] at this
                          exact this)
                        have HU := Lib.hid U
                        clear HST HD hm HM kC U
                        go_wp2
                        go_ret2
                        exact ⟨.inr ⟨rfl, HNo.out⟩, HU.out⟩
                      · have d10 : decide (m < 0) = false := decide_eq_false hm0
                        have HD2 := Lib.hid (show ∀ y, y < x + 1 → 0 ≤ M y y from fun y hy => by
                          by_cases e : y = x
                          · subst e
                            omega
                          · exact HD.out y (by omega))
                        clear HD hm
                        go_wp2_with fail
                        go_roundw
                        case rel => exact ⟨x + 1, by omega, by go_num, U, kC, HM, HD2⟩
                        case measure => (simp only [intOf]; omega)
                    · have hxN : N = x := by omega
                      subst hxN
                      have d9 : decide ((N : Int) < (N : Int)) = false := decide_eq_false (by omega)
                      have HFin := Lib.hid (show ∀ m1 m2, m1 ∈ T.moms rs.length H → m2 ∈ T.moms rs.length H → (∀ y, T.Tru H rs os ps (z.testBit 0) (z.testBit 1) (z.testBit 2) (z.testBit 3) (z.testBit 4) y → y m1 - y m2 ≤ M (T.ml H m1) (T.ml H m2)) ∧ ∃ y, T.Tru H rs os ps (z.testBit 0) (z.testBit 1) (z.testBit 2) (z.testBit 3) (z.testBit 4) y ∧ y m1 - y m2 = M (T.ml H m1) (T.ml H m2) by
                        intro m1 m2 h1 h2
                        have a1 := HST.out
                        have a2 := HD.out
                        rw [← HF.out] at a1
                        rw [← HN.out] at a1 a2
                        have e5 := HS.out
                        have := T.most_is HG.out a1 a2 h1 h2
                        rw [← e5] at this
                        exact this)
                      have HU := Lib.hid U
                      have HMM := Lib.hid HM.out
                      clear HST HD HM kC U
                      go_wp2
                      go_ret2
                      exact ⟨.inl ⟨_, N, rw, M, HN.out.symm, rfl, HMM.out, HFin.out⟩, HU.out⟩
end

end Go.Proofs.Ytonklhfpjooheaa
