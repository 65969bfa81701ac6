import Derived.Test.YtonklhfpjooheaaLws
/- The contract of the laws' sound. -/
namespace Go.Proofs.Ytonklhfpjooheaa
open Go.RowKit Go.Shelf
attribute [local go_sem] Oper.semAt_some

section
variable {H : Nat} {aR aO aP : Option Addr} {nR cR nO cO nP cP : Nat} {rs : List (Int × Int)} {os : List (Int × Int × Int × Int)} {ps : List (Int × Int × Int × Int × Int)}
set_option maxRecDepth 100000 in
set_option maxHeartbeats 2000000 in
theorem l_sound_no {w : World} {Hi : Int} (I : Sps w (.slice aR nR cR) rs) (IO : Ops w (.slice aO nO cO) os) (IP : Prs w (.slice aP nP cP) ps) (hv : T.valid Hi rs os ps = false) :
    Calls Try.prog 32 #[ClV Hi (.slice aR nR cR) (.slice aO nO cO) (.slice aP nP cP)] w fun e w' => e = .returned (.bool false) ∧ Up w w' := by
  have HN := Lib.hid (fun w' (u : Up w w') => (Check_any (Hi := Hi) (I.up u) (IO.up u) (IP.up u)))
  clear I IO IP
  go_enter Try.func32, Try.ntmps32
  have U0 := (Up.refl w).alloc (.cells #[.int .i64 Hi, .slice aR nR cR, .slice aO nO cO, .slice aP nP cP] 26)
  go_wp2_with fail
  refine (HN.out _ U0).mono ?_
  rintro e W1 ⟨rfl, u1⟩
  replace U0 := U0.trans u1
  rw [if_pos hv]
  clear HN u1 hv
  go_wp2_with fail
  go_loopw [3] (fun b wr => b = .bool false ∧ Up w wr) (fun _ _ => 0)
  case atStart => exact ⟨rfl, U0⟩
  case round =>
    obtain ⟨rfl, V⟩ := hrel
    clear U0
    go_wp2_with fail
    go_loopw [3] (fun b wr => b = .bool false ∧ Up w wr) (fun _ _ => 0)
    case atStart => exact ⟨rfl, V⟩
    case round =>
      obtain ⟨rfl, V⟩ := hrel
      go_wp2_with fail
      go_loopw [3] (fun b wr => b = .bool false ∧ Up w wr) (fun _ _ => 0)
      case atStart => exact ⟨rfl, V⟩
      case round =>
        obtain ⟨rfl, V⟩ := hrel
        go_wp2
        go_ret
        exact ⟨rfl, V⟩
end

end Go.Proofs.Ytonklhfpjooheaa

/- The contract of the laws' sound, of a cellar. -/
namespace Go.Proofs.Ytonklhfpjooheaa
open Go.RowKit Go.Shelf
attribute [local go_sem] Oper.semAt_some

section
variable {H : Nat} {aR aO aP : Option Addr} {nR cR nO cO nP cP : Nat} {rs : List (Int × Int)} {os : List (Int × Int × Int × Int)} {ps : List (Int × Int × Int × Int × Int)}
set_option maxRecDepth 100000 in
set_option maxHeartbeats 4000000 in
theorem l_sound_yes {w : World} (I : Sps w (.slice aR nR cR) rs) (IO : Ops w (.slice aO nO cO) os) (IP : Prs w (.slice aP nP cP) ps) (hv : T.valid H rs os ps = true) :
    Calls Try.prog 32 #[ClV H (.slice aR nR cR) (.slice aO nO cO) (.slice aP nP cP)] w fun e w' => e = .returned (.bool true) ∧ Up w w' := by
  have G := T.valid_good.1 hv
  have hn := I.len
  have hno := IO.len
  have hnp := IP.len
  have g1 := G.h1
  have g2 := G.h2
  have r1 : 1 ≤ nR := by rw [hn]; exact G.r1
  have r2 : nR ≤ 5 := by rw [hn]; exact G.r2
  have o6 : nO ≤ 6 := by rw [hno]; exact G.o6
  have p14 : nP ≤ 14 := by rw [hnp]; exact G.p14
  have HN := Lib.hid (fun w' (u : Up w w') => (Check_any (Hi := (H : Int)) (I.up u) (IO.up u) (IP.up u)))
  have HI := Lib.hid I
  have HO := Lib.hid IO
  have HP := Lib.hid IP
  have HG := Lib.hid G
  have HNN := Lib.hid (And.intro hn (And.intro hno hnp))
  clear I IO IP G hn hno hnp
  go_enter Try.func32, Try.ntmps32
  obtain ⟨q0, e0⟩ : ∃ x, w.heap.size = x := ⟨_, rfl⟩
  have V := (Up.refl w).alloc (.cells #[.int .i64 H, .slice aR nR cR, .slice aO nO cO, .slice aP nP cP] 26)
  have k0 := blk_new w (.cells #[.int .i64 H, .slice aR nR cR, .slice aO nO cO, .slice aP nP cP] 26) q0 e0.symm
  go_wp2_with fail
  refine (HN.out _ V).mono ?_
  rintro e W1 ⟨rfl, u1⟩
  replace V := V.trans u1
  replace k0 := u1.blk k0
  rw [if_neg (by rw [hv]; decide)]
  clear HN u1 hv
  have d6 : decide ((nO : Int) ≤ 6) = true := decide_eq_true (by omega)
  have d14 : decide ((nP : Int) ≤ 14) = true := decide_eq_true (by omega)
  go_wp2_with fail
  refine (B_Lies_any _ _ _ _).mono ?_
  rintro e w2 ⟨rfl, rfl⟩
  rw [inB_yes (show (1 : Int) ≤ H by omega) (show (H : Int) ≤ 12 by omega)]
  go_wp2_with fail
  refine (B_Lies_any _ _ _ _).mono ?_
  rintro e w2 ⟨rfl, rfl⟩
  rw [inB_yes (show (1 : Int) ≤ nR by omega) (show (nR : Int) ≤ 5 by omega)]
  go_wp2_with fail
  go_loopw [3, 4] (fun b i wr => ∃ k : Nat, k ≤ nR ∧ b = .bool true ∧ i = .int .i64 k ∧ Up w wr ∧ mblk wr q0 = some (.cells #[.int .i64 H, .slice aR nR cR, .slice aO nO cO, .slice aP nP cP] 26 (0, 0))) (fun _ i _ => nR - (intOf i).toNat)
  case atStart => exact ⟨0, Nat.zero_le _, rfl, rfl, V, k0⟩
  case round =>
    clear k0 V
    obtain ⟨k, hk, rfl, rfl, V, k0⟩ := hrel
    by_cases hlt : k < nR
    · have ew : IntKind.i64.wrap ((k : Int) + 1) = (k : Int) + 1 := IntWalk.i64_in _ (by omega)
      have dk : decide ((k : Int) < nR) = true := decide_eq_true (by omega)
      have ilt : (k : Int) < (nR : Nat) := by omega
      obtain ⟨a', c', e', _, _, hm⟩ := HI.out.is
      injection e' with ea eb ec
      clear eb ec
      obtain ⟨g, off, ga, gl, hx⟩ := hm (by have := HNN.out.1; have := HNN.out.2.1; have := HNN.out.2.2; omega)
      subst ea ga
      have hs := HG.out.rsB (rs.getD k (0, 0)) (by
        rw [List.getD_eq_getElem?_getD, List.getElem?_eq_getElem (show k < rs.length by have := HNN.out.1; omega)]
        exact List.getElem_mem _)
      have cc0 := (V.facts.1 g _ gl).trans (hx k (by have := HNN.out.1; have := HNN.out.2.1; have := HNN.out.2.2; omega) 0 (by omega))
      have cc1 := (V.facts.1 g _ gl).trans (hx k (by have := HNN.out.1; have := HNN.out.2.1; have := HNN.out.2.2; omega) 1 (by omega))
      obtain ⟨⟨s0, s1⟩, hss⟩ : ∃ s, rs.getD k (0, 0) = s := ⟨_, rfl⟩
      rw [hss] at cc0 cc1 hs
      replace cc0 : wr.cell? ⟨g, off + k * 2, none⟩ = some (.int .i64 s0) := cc0
      replace cc1 : wr.cell? ⟨g, off + k * 2 + 1, none⟩ = some (.int .i64 s1) := cc1
      have HV := Lib.hid V
      clear hx hss hm V
      go_wp2_with fail
      refine (B_Valid_any s0 s1 (-1000) 1000 _).mono ?_
      rintro e w3 ⟨rfl, u3⟩
      rw [decide_eq_true (show s0 ≤ s1 ∧ -1000 ≤ s0 ∧ s1 ≤ 1000 from ⟨hs.2, hs.1.1.1, hs.1.2.2⟩)]
      replace k0 := u3.blk k0
      have V := HV.out.trans u3
      clear u3 HV cc0 cc1 hs

      go_wp2_with fail
      go_roundw
      case rel => exact ⟨k + 1, by omega, rfl, by go_num, V, k0⟩
      case measure => (simp only [intOf]; omega)
    · have dk : decide ((k : Int) < nR) = false := decide_eq_false (by omega)
      have ilt : ¬ (k : Int) < (nR : Nat) := by omega
      clear hlt hk
      go_wp2_with fail
      go_loopw [3, 5] (fun b i wr => ∃ k : Nat, k ≤ nO ∧ b = .bool true ∧ i = .int .i64 k ∧ Up w wr ∧ mblk wr q0 = some (.cells #[.int .i64 H, .slice aR nR cR, .slice aO nO cO, .slice aP nP cP] 26 (0, 0))) (fun _ i _ => nO - (intOf i).toNat)
      case atStart => exact ⟨0, Nat.zero_le _, rfl, rfl, V, k0⟩
      case round =>
        clear k0 V
        obtain ⟨k, hk, rfl, rfl, V, k0⟩ := hrel
        by_cases hlt : k < nO
        · have ew : IntKind.i64.wrap ((k : Int) + 1) = (k : Int) + 1 := IntWalk.i64_in _ (by omega)
          have dk : decide ((k : Int) < nO) = true := decide_eq_true (by omega)
          have ilt : (k : Int) < (nO : Nat) := by omega
          have ewR : IntKind.i64.wrap ((nR : Int) - 1) = (nR : Int) - 1 := IntWalk.i64_in _ (by omega)
          have ewH : IntKind.i64.wrap ((H : Int) - 1) = (H : Int) - 1 := IntWalk.i64_in _ (by omega)
          obtain ⟨a', c', e', _, _, hm⟩ := HO.out.is
          injection e' with ea eb ec
          clear eb ec
          obtain ⟨g, off, ga, gl, hx⟩ := hm (by have := HNN.out.1; have := HNN.out.2.1; have := HNN.out.2.2; omega)
          subst ea ga
          have hs := HG.out.osB (os.getD k (0, 0, 0, 0)) (by
            rw [List.getD_eq_getElem?_getD, List.getElem?_eq_getElem (show k < os.length by have := HNN.out.2.1; omega)]
            exact List.getElem_mem _)
          have cc0 := (V.facts.1 g _ gl).trans (hx k (by have := HNN.out.1; have := HNN.out.2.1; have := HNN.out.2.2; omega) 0 (by omega))
          have cc1 := (V.facts.1 g _ gl).trans (hx k (by have := HNN.out.1; have := HNN.out.2.1; have := HNN.out.2.2; omega) 1 (by omega))
          have cc2 := (V.facts.1 g _ gl).trans (hx k (by have := HNN.out.1; have := HNN.out.2.1; have := HNN.out.2.2; omega) 2 (by omega))
          have cc3 := (V.facts.1 g _ gl).trans (hx k (by have := HNN.out.1; have := HNN.out.2.1; have := HNN.out.2.2; omega) 3 (by omega))
          obtain ⟨⟨s0, s1, s2, s3⟩, hss⟩ : ∃ s, os.getD k (0, 0, 0, 0) = s := ⟨_, rfl⟩
          rw [hss] at cc0 cc1 cc2 cc3 hs
          replace cc0 : wr.cell? ⟨g, off + k * 4, none⟩ = some (.int .i64 s0) := cc0
          replace cc1 : wr.cell? ⟨g, off + k * 4 + 1, none⟩ = some (.int .i64 s1) := cc1
          replace cc2 : wr.cell? ⟨g, off + k * 4 + 2, none⟩ = some (.int .i64 s2) := cc2
          replace cc3 : wr.cell? ⟨g, off + k * 4 + 3, none⟩ = some (.int .i64 s3) := cc3
          have lk0 := blk_lt k0
          have i0 := k0
          have kn := blk_new wr (.cells #[.int .i64 s0, .int .i64 s1, .int .i64 s2, .int .i64 s3] 63) _ rfl
          replace k0 := blk_keep (.cells #[.int .i64 s0, .int .i64 s1, .int .i64 s2, .int .i64 s3] 63) k0
          replace V := V.alloc (.cells #[.int .i64 s0, .int .i64 s1, .int .i64 s2, .int .i64 s3] 63)
          obtain ⟨pn, hpn⟩ : ∃ z, wr.heap.size = z := ⟨_, rfl⟩
          obtain ⟨W1, hW1⟩ : ∃ z, wr.alloc (.cells #[.int .i64 s0, .int .i64 s1, .int .i64 s2, .int .i64 s3] 63) = z := ⟨_, rfl⟩
          rw [hpn] at kn
          rw [hW1] at kn k0 V
          have HS := Lib.hid hs
          clear hx hss hm hs
          go_wp2_with fail
          clear hpn hW1 lk0 i0 cc0 cc1 cc2 cc3
          refine (B_Lies_any s0 0 ((nR : Int) - 1) _).mono ?_
          rintro e w3 ⟨rfl, rfl⟩
          rw [inB_yes (show (0 : Int) ≤ s0 from HS.out.1.1) (show s0 ≤ ((nR : Int) - 1) by have := HS.out.1.2; have := HNN.out.1; omega)]
          go_wp2_with fail
          refine (B_Lies_any s1 0 ((H : Int) - 1) _).mono ?_
          rintro e w3 ⟨rfl, rfl⟩
          rw [inB_yes (show (0 : Int) ≤ s1 from HS.out.2.1.1) (show s1 ≤ ((H : Int) - 1) by have := HS.out.2.1.2; omega)]
          go_wp2_with fail
          refine (B_Valid_any s2 s3 (-100000) 100000 _).mono ?_
          rintro e w3 ⟨rfl, u3⟩
          rw [decide_eq_true (show s2 ≤ s3 ∧ -100000 ≤ s2 ∧ s3 ≤ 100000 from ⟨HS.out.2.2.2, HS.out.2.2.1.1.1, HS.out.2.2.1.2.2⟩)]
          replace k0 := u3.blk k0
          replace V := V.trans u3
          clear u3 kn

          go_wp2_with fail
          go_roundw
          case rel => exact ⟨k + 1, by omega, rfl, by go_num, V, k0⟩
          case measure => (simp only [intOf]; omega)
        · have dk : decide ((k : Int) < nO) = false := decide_eq_false (by omega)
          have ilt : ¬ (k : Int) < (nO : Nat) := by omega
          clear hlt hk
          go_wp2_with fail
          go_loopw [3, 7] (fun b i wr => ∃ k : Nat, k ≤ nP ∧ b = .bool true ∧ i = .int .i64 k ∧ Up w wr ∧ mblk wr q0 = some (.cells #[.int .i64 H, .slice aR nR cR, .slice aO nO cO, .slice aP nP cP] 26 (0, 0))) (fun _ i _ => nP - (intOf i).toNat)
          case atStart => exact ⟨0, Nat.zero_le _, rfl, rfl, V, k0⟩
          case round =>
            clear k0 V
            obtain ⟨k, hk, rfl, rfl, V, k0⟩ := hrel
            by_cases hlt : k < nP
            · have ew : IntKind.i64.wrap ((k : Int) + 1) = (k : Int) + 1 := IntWalk.i64_in _ (by omega)
              have dk : decide ((k : Int) < nP) = true := decide_eq_true (by omega)
              have ilt : (k : Int) < (nP : Nat) := by omega
              have ewR : IntKind.i64.wrap ((nR : Int) - 1) = (nR : Int) - 1 := IntWalk.i64_in _ (by omega)
              obtain ⟨a', c', e', _, _, hm⟩ := HP.out.is
              injection e' with ea eb ec
              clear eb ec
              obtain ⟨g, off, ga, gl, hx⟩ := hm (by have := HNN.out.1; have := HNN.out.2.1; have := HNN.out.2.2; omega)
              subst ea ga
              have hs := HG.out.psB (ps.getD k (0, 0, 0, 0, 0)) (by
                rw [List.getD_eq_getElem?_getD, List.getElem?_eq_getElem (show k < ps.length by have := HNN.out.2.2; omega)]
                exact List.getElem_mem _)
              have cc0 := (V.facts.1 g _ gl).trans (hx k (by have := HNN.out.1; have := HNN.out.2.1; have := HNN.out.2.2; omega) 0 (by omega))
              have cc1 := (V.facts.1 g _ gl).trans (hx k (by have := HNN.out.1; have := HNN.out.2.1; have := HNN.out.2.2; omega) 1 (by omega))
              have cc2 := (V.facts.1 g _ gl).trans (hx k (by have := HNN.out.1; have := HNN.out.2.1; have := HNN.out.2.2; omega) 2 (by omega))
              have cc3 := (V.facts.1 g _ gl).trans (hx k (by have := HNN.out.1; have := HNN.out.2.1; have := HNN.out.2.2; omega) 3 (by omega))
              have cc4 := (V.facts.1 g _ gl).trans (hx k (by have := HNN.out.1; have := HNN.out.2.1; have := HNN.out.2.2; omega) 4 (by omega))
              obtain ⟨⟨s0, s1, s2, s3, s4⟩, hss⟩ : ∃ s, ps.getD k (0, 0, 0, 0, 0) = s := ⟨_, rfl⟩
              rw [hss] at cc0 cc1 cc2 cc3 cc4 hs
              replace cc0 : wr.cell? ⟨g, off + k * 5, none⟩ = some (.int .i64 s0) := cc0
              replace cc1 : wr.cell? ⟨g, off + k * 5 + 1, none⟩ = some (.int .i64 s1) := cc1
              replace cc2 : wr.cell? ⟨g, off + k * 5 + 2, none⟩ = some (.int .i64 s2) := cc2
              replace cc3 : wr.cell? ⟨g, off + k * 5 + 3, none⟩ = some (.int .i64 s3) := cc3
              replace cc4 : wr.cell? ⟨g, off + k * 5 + 4, none⟩ = some (.int .i64 s4) := cc4
              have lk0 := blk_lt k0
              have i0 := k0
              have kn := blk_new wr (.cells #[.int .i64 s0, .int .i64 s1, .int .i64 s2, .int .i64 s3, .int .i64 s4] 61) _ rfl
              replace k0 := blk_keep (.cells #[.int .i64 s0, .int .i64 s1, .int .i64 s2, .int .i64 s3, .int .i64 s4] 61) k0
              replace V := V.alloc (.cells #[.int .i64 s0, .int .i64 s1, .int .i64 s2, .int .i64 s3, .int .i64 s4] 61)
              obtain ⟨pn, hpn⟩ : ∃ z, wr.heap.size = z := ⟨_, rfl⟩
              obtain ⟨W1, hW1⟩ : ∃ z, wr.alloc (.cells #[.int .i64 s0, .int .i64 s1, .int .i64 s2, .int .i64 s3, .int .i64 s4] 61) = z := ⟨_, rfl⟩
              rw [hpn] at kn
              rw [hW1] at kn k0 V
              have HS := Lib.hid hs
              clear hx hss hm hs
              go_wp2_with fail
              clear hpn hW1 lk0 i0 cc0 cc1 cc2 cc3 cc4
              refine (B_Lies_any s0 0 (H : Int) _).mono ?_
              rintro e w3 ⟨rfl, rfl⟩
              rw [inB_yes (show (0 : Int) ≤ s0 from HS.out.1.1) (show s0 ≤ (H : Int) by exact HS.out.1.2)]
              go_wp2_with fail
              refine (B_Lies_any s1 0 ((nR : Int) - 1) _).mono ?_
              rintro e w3 ⟨rfl, rfl⟩
              rw [inB_yes (show (0 : Int) ≤ s1 from HS.out.2.1.1) (show s1 ≤ ((nR : Int) - 1) by have := HS.out.2.1.2; have := HNN.out.1; omega)]
              go_wp2_with fail
              refine (B_Lies_any s2 (-1) ((nR : Int) - 1) _).mono ?_
              rintro e w3 ⟨rfl, rfl⟩
              rw [inB_yes (show ((-1) : Int) ≤ s2 from HS.out.2.2.1.1) (show s2 ≤ ((nR : Int) - 1) by have := HS.out.2.2.1.2; have := HNN.out.1; omega)]
              go_wp2_with fail
              refine (B_Valid_any s3 s4 (-200000) 200000 _).mono ?_
              rintro e w3 ⟨rfl, u3⟩
              rw [decide_eq_true (show s3 ≤ s4 ∧ -200000 ≤ s3 ∧ s4 ≤ 200000 from ⟨HS.out.2.2.2.2.2, HS.out.2.2.2.2.1.1.1, HS.out.2.2.2.2.1.2.2⟩)]
              replace k0 := u3.blk k0
              replace V := V.trans u3
              clear u3 kn

              go_wp2_with fail
              go_roundw
              case rel => exact ⟨k + 1, by omega, rfl, by go_num, V, k0⟩
              case measure => (simp only [intOf]; omega)
            · have dk : decide ((k : Int) < nP) = false := decide_eq_false (by omega)
              have ilt : ¬ (k : Int) < (nP : Nat) := by omega
              clear hlt hk
              go_wp2
              go_ret
              exact ⟨rfl, V⟩

end

end Go.Proofs.Ytonklhfpjooheaa
