import Derived.Test.YtlpkheoljbdajaaLws
/- The contract of the laws' sound. -/
namespace Go.Proofs.Ytlpkheoljbdajaa
open Go.RowKit Go.Shelf
attribute [local go_sem] Oper.semAt_some

section
variable {bl bh rl rh : Int} {aP aQ aL : Option Addr} {nP cP nQ cQ nL cL : Nat} {ps qs : List (Int × Int)} {ls : List T.T5}
set_option maxRecDepth 100000 in
set_option maxHeartbeats 2000000 in
theorem l_sound_no {w : World} {M : Int} (I : Sps w (.slice aP nP cP) ps) (J : Sps w (.slice aQ nQ cQ) qs) (K : Lks w (.slice aL nL cL) ls) (hv : T.valid M bl bh rl rh ps qs ls = false) :
    Calls Try.prog 38 #[BoV M bl bh rl rh (.slice aP nP cP) (.slice aQ nQ cQ) (.slice aL nL cL)] w fun e w' => e = .returned (.bool false) ∧ Up w w' := by
  have HN := Lib.hid (fun w' (u : Up w w') => (Check_any (M := M) (bl := bl) (bh := bh) (rl := rl) (rh := rh) (I.up u) (J.up u) (K.up u)))
  clear I J K
  go_enter Try.func38, Try.ntmps38
  have U0 := (Up.refl w).alloc (.cells (BoC M bl bh rl rh (.slice aP nP cP) (.slice aQ nQ cQ) (.slice aL nL cL)) 27)
  go_wp2_with fail
  refine (HN.out _ U0).mono ?_
  rintro e W1 ⟨rfl, u1⟩
  replace U0 := U0.trans u1
  rw [if_neg (by rw [hv]; decide)]
  clear HN u1 hv
  go_wp2_with fail
  go_loopw [3] (fun b wr => b = .bool false ∧ Up w wr) (fun _ _ => 0)
  case atStart => exact ⟨rfl, U0⟩
  case round =>
    obtain ⟨rfl, V⟩ := hrel
    clear U0
    go_wp2_with fail
    go_loopw [3] (fun b wr => b = .bool false ∧ Up w wr) (fun _ _ => 0)
    case atStart => exact ⟨rfl, V⟩
    case round =>
      obtain ⟨rfl, V⟩ := hrel
      go_wp2_with fail
      go_loopw [3] (fun b wr => b = .bool false ∧ Up w wr) (fun _ _ => 0)
      case atStart => exact ⟨rfl, V⟩
      case round =>
        obtain ⟨rfl, V⟩ := hrel
        go_wp2
        go_ret
        exact ⟨rfl, V⟩
theorem T.valid_parts {M : Int} (hv : T.valid M bl bh rl rh ps qs ls = true) : ((1 ≤ M ∧ M ≤ 8) ∧ (-20000 ≤ bl ∧ bl ≤ bh ∧ bh ≤ 20000) ∧ (-1000 ≤ rl ∧ rl ≤ rh ∧ rh ≤ 1000)) ∧ (ps.length ≤ 4 ∧ qs.length ≤ 4 ∧ ls.length ≤ 10) ∧ (∀ x ∈ ps, T.perOk x = true) ∧ (∀ x ∈ qs, T.pathOk x = true) ∧ ∀ x ∈ ls, T.lookOk ps.length qs.length M x = true := by
  unfold T.valid T.nightsOk T.othersOk at hv
  simp only [Bool.and_eq_true, decide_eq_true_eq, List.all_eq_true, inB_iff, S.spanOk_iff] at hv
  exact ⟨⟨hv.1.1, hv.1.2.1, hv.1.2.2⟩, ⟨hv.2.1.1.1, hv.2.1.2.1, hv.2.2.1⟩, hv.2.1.1.2, hv.2.1.2.2, hv.2.2.2⟩
set_option maxRecDepth 100000 in
set_option maxHeartbeats 4000000 in
theorem l_sound_yes {N : Nat} {w : World} (I : Sps w (.slice aP nP cP) ps) (J : Sps w (.slice aQ nQ cQ) qs) (K : Lks w (.slice aL nL cL) ls) (hv : T.valid N bl bh rl rh ps qs ls = true) :
    Calls Try.prog 38 #[BoV (N : Int) bl bh rl rh (.slice aP nP cP) (.slice aQ nQ cQ) (.slice aL nL cL)] w fun e w' => e = .returned (.bool true) ∧ Up w w' := by
  obtain ⟨⟨hN, hB, hR⟩, ⟨h4, h5, h10⟩, hG⟩ := T.valid_parts hv
  have hn := I.len
  have hno := J.len
  have hnp := K.len
  have p4 : nP ≤ 4 := by omega
  have q4 : nQ ≤ 4 := by omega
  have l10 : nL ≤ 10 := by omega
  have HN := Lib.hid (fun w' (u : Up w w') => (Check_any (M := (N : Int)) (bl := bl) (bh := bh) (rl := rl) (rh := rh) (I.up u) (J.up u) (K.up u)))
  have HP := Lib.hid I
  have HQ := Lib.hid J
  have HL := Lib.hid K
  have HG := Lib.hid hG
  have HNN := Lib.hid (And.intro hn (And.intro hno hnp))
  clear I J K hG hn hno hnp h4 h5 h10
  go_enter Try.func38, Try.ntmps38
  obtain ⟨q0, e0⟩ : ∃ x, w.heap.size = x := ⟨_, rfl⟩
  have V := (Up.refl w).alloc (.cells (BoC (N : Int) bl bh rl rh (.slice aP nP cP) (.slice aQ nQ cQ) (.slice aL nL cL)) 27)
  have k0 := blk_new w (.cells (BoC (N : Int) bl bh rl rh (.slice aP nP cP) (.slice aQ nQ cQ) (.slice aL nL cL)) 27) q0 e0.symm
  go_wp2_with fail
  refine (HN.out _ V).mono ?_
  rintro e W1 ⟨rfl, u1⟩
  replace V := V.trans u1
  replace k0 := u1.blk k0
  rw [if_pos (by rw [hv])]
  clear HN u1 hv
  have d6 : decide ((nP : Int) ≤ 4) = true := decide_eq_true (by omega)
  have d14 : decide ((nQ : Int) ≤ 4) = true := decide_eq_true (by omega)
  have d10 : decide ((nL : Int) ≤ 10) = true := decide_eq_true (by omega)
  go_wp2_with fail
  refine (B_Lies_any _ _ _ _).mono ?_
  rintro e w2 ⟨rfl, rfl⟩
  rw [inB_yes (show (1 : Int) ≤ N by omega) (show (N : Int) ≤ 8 by omega)]
  go_wp2_with fail
  refine (B_Valid_any _ _ _ _ _).mono ?_
  rintro e w2 ⟨rfl, u1⟩
  rw [decide_eq_true (show bl ≤ bh ∧ -20000 ≤ bl ∧ bh ≤ 20000 from ⟨hB.2.1, hB.1, hB.2.2⟩)]
  replace V := V.trans u1
  replace k0 := u1.blk k0
  clear u1
  go_wp2_with fail
  refine (B_Valid_any _ _ _ _ _).mono ?_
  rintro e w2 ⟨rfl, u1⟩
  rw [decide_eq_true (show rl ≤ rh ∧ -1000 ≤ rl ∧ rh ≤ 1000 from ⟨hR.2.1, hR.1, hR.2.2⟩)]
  replace V := V.trans u1
  replace k0 := u1.blk k0
  clear u1
  clear hB hR
  go_wp2_with fail
  go_loopw [3, 4] (fun b i wr => ∃ k : Nat, k ≤ nP ∧ b = .bool true ∧ i = .int .i64 k ∧ Up w wr ∧ mblk wr q0 = some (.cells (BoC (N : Int) bl bh rl rh (.slice aP nP cP) (.slice aQ nQ cQ) (.slice aL nL cL)) 27 (0, 0))) (fun _ i _ => nP - (intOf i).toNat)
  case atStart => exact ⟨0, Nat.zero_le _, rfl, rfl, V, k0⟩
  case round =>
    clear k0 V
    obtain ⟨k, hk, rfl, rfl, V, k0⟩ := hrel
    by_cases hlt : k < nP
    · have ew : IntKind.i64.wrap ((k : Int) + 1) = (k : Int) + 1 := IntWalk.i64_in _ (by omega)
      have dk : decide ((k : Int) < nP) = true := decide_eq_true (by omega)
      have ilt : (k : Int) < (nP : Nat) := by omega
      obtain ⟨a', c', e', _, _, hm⟩ := HP.out.is
      injection e' with ea eb ec
      clear eb ec
      obtain ⟨g, off, ga, gl, hx⟩ := hm (by have := HNN.out.1; have := HNN.out.2.1; have := HNN.out.2.2; omega)
      subst ea ga
      have hs := HG.out.1 (ps.getD k (0, 0)) (T.getD_mem (by have := HNN.out.1; have := HNN.out.2.1; have := HNN.out.2.2; omega))
      have cc0 := (V.facts.1 g _ gl).trans (hx k (by have := HNN.out.1; have := HNN.out.2.1; have := HNN.out.2.2; omega) 0 (by omega))
      have cc1 := (V.facts.1 g _ gl).trans (hx k (by have := HNN.out.1; have := HNN.out.2.1; have := HNN.out.2.2; omega) 1 (by omega))
      obtain ⟨⟨s0, s1⟩, hss⟩ : ∃ s, ps.getD k (0, 0) = s := ⟨_, rfl⟩
      rw [hss] at cc0 cc1 hs
      replace cc0 : wr.cell? ⟨g, off + k * 2, none⟩ = some (.int .i64 s0) := cc0
      replace cc1 : wr.cell? ⟨g, off + k * 2 + 1, none⟩ = some (.int .i64 s1) := cc1
      have HV := Lib.hid V
      clear hx hss hm V
      replace hs := S.spanOk_iff.1 hs
      go_wp2_with fail
      refine (B_Valid_any s0 s1 (-2000) 2000 _).mono ?_
      rintro e w3 ⟨rfl, u3⟩
      rw [decide_eq_true (show s0 ≤ s1 ∧ (-2000) ≤ s0 ∧ s1 ≤ 2000 from ⟨hs.2.1, hs.1, hs.2.2⟩)]
      replace k0 := u3.blk k0
      have V := HV.out.trans u3
      clear u3 HV cc0 cc1 hs
      go_wp2_with fail
      go_roundw
      case rel => exact ⟨k + 1, by omega, rfl, by go_num, V, k0⟩
      case measure => (simp only [intOf]; omega)

    · have dk : decide ((k : Int) < nP) = false := decide_eq_false (by omega)
      have ilt : ¬ (k : Int) < (nP : Nat) := by omega
      clear hlt hk
      go_wp2_with fail
      go_loopw [3, 5] (fun b i wr => ∃ k : Nat, k ≤ nQ ∧ b = .bool true ∧ i = .int .i64 k ∧ Up w wr ∧ mblk wr q0 = some (.cells (BoC (N : Int) bl bh rl rh (.slice aP nP cP) (.slice aQ nQ cQ) (.slice aL nL cL)) 27 (0, 0))) (fun _ i _ => nQ - (intOf i).toNat)
      case atStart => exact ⟨0, Nat.zero_le _, rfl, rfl, V, k0⟩
      case round =>
        clear k0 V
        obtain ⟨k, hk, rfl, rfl, V, k0⟩ := hrel
        by_cases hlt : k < nQ
        · have ew : IntKind.i64.wrap ((k : Int) + 1) = (k : Int) + 1 := IntWalk.i64_in _ (by omega)
          have dk : decide ((k : Int) < nQ) = true := decide_eq_true (by omega)
          have ilt : (k : Int) < (nQ : Nat) := by omega
          obtain ⟨a', c', e', _, _, hm⟩ := HQ.out.is
          injection e' with ea eb ec
          clear eb ec
          obtain ⟨g, off, ga, gl, hx⟩ := hm (by have := HNN.out.1; have := HNN.out.2.1; have := HNN.out.2.2; omega)
          subst ea ga
          have hs := HG.out.2.1 (qs.getD k (0, 0)) (T.getD_mem (by have := HNN.out.1; have := HNN.out.2.1; have := HNN.out.2.2; omega))
          have cc0 := (V.facts.1 g _ gl).trans (hx k (by have := HNN.out.1; have := HNN.out.2.1; have := HNN.out.2.2; omega) 0 (by omega))
          have cc1 := (V.facts.1 g _ gl).trans (hx k (by have := HNN.out.1; have := HNN.out.2.1; have := HNN.out.2.2; omega) 1 (by omega))
          obtain ⟨⟨s0, s1⟩, hss⟩ : ∃ s, qs.getD k (0, 0) = s := ⟨_, rfl⟩
          rw [hss] at cc0 cc1 hs
          replace cc0 : wr.cell? ⟨g, off + k * 2, none⟩ = some (.int .i64 s0) := cc0
          replace cc1 : wr.cell? ⟨g, off + k * 2 + 1, none⟩ = some (.int .i64 s1) := cc1
          have HV := Lib.hid V
          clear hx hss hm V
          replace hs := S.spanOk_iff.1 hs
          go_wp2_with fail
          refine (B_Valid_any s0 s1 0 5000 _).mono ?_
          rintro e w3 ⟨rfl, u3⟩
          rw [decide_eq_true (show s0 ≤ s1 ∧ 0 ≤ s0 ∧ s1 ≤ 5000 from ⟨hs.2.1, hs.1, hs.2.2⟩)]
          replace k0 := u3.blk k0
          have V := HV.out.trans u3
          clear u3 HV cc0 cc1 hs
          go_wp2_with fail
          go_roundw
          case rel => exact ⟨k + 1, by omega, rfl, by go_num, V, k0⟩
          case measure => (simp only [intOf]; omega)

        · have dk : decide ((k : Int) < nQ) = false := decide_eq_false (by omega)
          have ilt : ¬ (k : Int) < (nQ : Nat) := by omega
          clear hlt hk
          go_wp2_with fail
          go_loopw [3, 6] (fun b i wr => ∃ k : Nat, k ≤ nL ∧ b = .bool true ∧ i = .int .i64 k ∧ Up w wr ∧ mblk wr q0 = some (.cells (BoC (N : Int) bl bh rl rh (.slice aP nP cP) (.slice aQ nQ cQ) (.slice aL nL cL)) 27 (0, 0))) (fun _ i _ => nL - (intOf i).toNat)
          case atStart => exact ⟨0, Nat.zero_le _, rfl, rfl, V, k0⟩
          case round =>
            clear k0 V
            obtain ⟨k, hk, rfl, rfl, V, k0⟩ := hrel
            by_cases hlt : k < nL
            · have ew : IntKind.i64.wrap ((k : Int) + 1) = (k : Int) + 1 := IntWalk.i64_in _ (by omega)
              have dk : decide ((k : Int) < nL) = true := decide_eq_true (by omega)
              have ilt : (k : Int) < (nL : Nat) := by omega
              have ewN : IntKind.i64.wrap ((N : Int) - 1) = (N : Int) - 1 := IntWalk.i64_in _ (by omega)
              have ewP : IntKind.i64.wrap ((nP : Int) - 1) = (nP : Int) - 1 := IntWalk.i64_in _ (by omega)
              have ewQ : IntKind.i64.wrap ((nQ : Int) - 1) = (nQ : Int) - 1 := IntWalk.i64_in _ (by omega)
              obtain ⟨a', c', e', _, _, hm⟩ := HL.out.is
              injection e' with ea eb ec
              clear eb ec
              obtain ⟨g, off, ga, gl, hx⟩ := hm (by have := HNN.out.1; have := HNN.out.2.1; have := HNN.out.2.2; omega)
              subst ea ga
              have hs := HG.out.2.2 (ls.getD k (0, 0, 0, 0, 0)) (T.getD_mem (by have := HNN.out.1; have := HNN.out.2.1; have := HNN.out.2.2; omega))
              have cc0 := (V.facts.1 g _ gl).trans (hx k (by have := HNN.out.1; have := HNN.out.2.1; have := HNN.out.2.2; omega) 0 (by omega))
              have cc1 := (V.facts.1 g _ gl).trans (hx k (by have := HNN.out.1; have := HNN.out.2.1; have := HNN.out.2.2; omega) 1 (by omega))
              have cc2 := (V.facts.1 g _ gl).trans (hx k (by have := HNN.out.1; have := HNN.out.2.1; have := HNN.out.2.2; omega) 2 (by omega))
              have cc3 := (V.facts.1 g _ gl).trans (hx k (by have := HNN.out.1; have := HNN.out.2.1; have := HNN.out.2.2; omega) 3 (by omega))
              have cc4 := (V.facts.1 g _ gl).trans (hx k (by have := HNN.out.1; have := HNN.out.2.1; have := HNN.out.2.2; omega) 4 (by omega))
              obtain ⟨⟨s0, s1, s2, s3, s4⟩, hss⟩ : ∃ s, ls.getD k (0, 0, 0, 0, 0) = s := ⟨_, rfl⟩
              rw [hss] at cc0 cc1 cc2 cc3 cc4 hs
              replace cc0 : wr.cell? ⟨g, off + k * 5, none⟩ = some (.int .i64 s0) := cc0
              replace cc1 : wr.cell? ⟨g, off + k * 5 + 1, none⟩ = some (.int .i64 s1) := cc1
              replace cc2 : wr.cell? ⟨g, off + k * 5 + 2, none⟩ = some (.int .i64 s2) := cc2
              replace cc3 : wr.cell? ⟨g, off + k * 5 + 3, none⟩ = some (.int .i64 s3) := cc3
              replace cc4 : wr.cell? ⟨g, off + k * 5 + 4, none⟩ = some (.int .i64 s4) := cc4
              have lk0 := blk_lt k0
              have i0 := k0
              unfold T.lookOk at hs
              simp only [Bool.and_eq_true, inB_iff] at hs
              have h1 : s1 = 0 ∨ s1 = 1 := by omega
              have HS := Lib.hid hs
              clear hx hss hm hs
              rcases h1 with h1 | h1
              · subst h1
                have HW0 := Lib.hid (show T.many ps.length qs.length N 0 = _ from rfl)
                simp only [T.many] at HS
                have kn := blk_new wr (.cells #[.int .i64 s0, .int .i64 0, .int .i64 s2, .int .i64 s3, .int .i64 s4] 63) _ rfl
                replace k0 := blk_keep (.cells #[.int .i64 s0, .int .i64 0, .int .i64 s2, .int .i64 s3, .int .i64 s4] 63) k0
                replace V := V.alloc (.cells #[.int .i64 s0, .int .i64 0, .int .i64 s2, .int .i64 s3, .int .i64 s4] 63)
                obtain ⟨pn, hpn⟩ : ∃ z, wr.heap.size = z := ⟨_, rfl⟩
                obtain ⟨W1, hW1⟩ : ∃ z, wr.alloc (.cells #[.int .i64 s0, .int .i64 0, .int .i64 s2, .int .i64 s3, .int .i64 s4] 63) = z := ⟨_, rfl⟩
                rw [hpn] at kn
                rw [hW1] at kn k0 V
                go_wp2_with fail
                clear hpn hW1 lk0 i0 cc0 cc1 cc2 cc3 cc4
                refine (B_Lies_any s0 0 ((N : Int) - 1) _).mono ?_
                rintro e w3 ⟨rfl, rfl⟩
                rw [inB_yes (show (0 : Int) ≤ s0 by have := HS.out.1; omega) (show s0 ≤ ((N : Int) - 1) by have := HS.out.1; omega)]
                go_wp2_with fail
                refine (B_Lies_any s2 0 ((nP : Int) - 1) _).mono ?_
                rintro e w3 ⟨rfl, rfl⟩
                rw [inB_yes (show (0 : Int) ≤ s2 by have := HS.out.2.2.1; omega) (show s2 ≤ ((nP : Int) - 1) by have := HS.out.2.2.1; have q := HW0.out; have := HNN.out.1; have := HNN.out.2.1; omega)]
                go_wp2_with fail
                refine (B_Lies_any s3 (-30000) 30000 _).mono ?_
                rintro e w3 ⟨rfl, rfl⟩
                rw [inB_yes (show ((-30000) : Int) ≤ s3 by have := HS.out.2.2.2.1; omega) (show s3 ≤ 30000 by have := HS.out.2.2.2.1; omega)]
                go_wp2_with fail
                refine (B_Lies_any s4 0 2000 _).mono ?_
                rintro e w3 ⟨rfl, rfl⟩
                rw [inB_yes (show (0 : Int) ≤ s4 by have := HS.out.2.2.2.2; omega) (show s4 ≤ 2000 by have := HS.out.2.2.2.2; omega)]
                go_wp2_with fail
                go_roundw
                case rel => exact ⟨k + 1, by omega, rfl, by go_num, V, k0⟩
                case measure => (simp only [intOf]; omega)
              · subst h1
                have HW1 := Lib.hid (show T.many ps.length qs.length N 1 = _ from rfl)
                simp only [T.many] at HS
                have kn := blk_new wr (.cells #[.int .i64 s0, .int .i64 1, .int .i64 s2, .int .i64 s3, .int .i64 s4] 63) _ rfl
                replace k0 := blk_keep (.cells #[.int .i64 s0, .int .i64 1, .int .i64 s2, .int .i64 s3, .int .i64 s4] 63) k0
                replace V := V.alloc (.cells #[.int .i64 s0, .int .i64 1, .int .i64 s2, .int .i64 s3, .int .i64 s4] 63)
                obtain ⟨pn, hpn⟩ : ∃ z, wr.heap.size = z := ⟨_, rfl⟩
                obtain ⟨W1, hW1⟩ : ∃ z, wr.alloc (.cells #[.int .i64 s0, .int .i64 1, .int .i64 s2, .int .i64 s3, .int .i64 s4] 63) = z := ⟨_, rfl⟩
                rw [hpn] at kn
                rw [hW1] at kn k0 V
                go_wp2_with fail
                clear hpn hW1 lk0 i0 cc0 cc1 cc2 cc3 cc4
                refine (B_Lies_any s0 0 ((N : Int) - 1) _).mono ?_
                rintro e w3 ⟨rfl, rfl⟩
                rw [inB_yes (show (0 : Int) ≤ s0 by have := HS.out.1; omega) (show s0 ≤ ((N : Int) - 1) by have := HS.out.1; omega)]
                go_wp2_with fail
                refine (B_Lies_any s2 0 ((nQ : Int) - 1) _).mono ?_
                rintro e w3 ⟨rfl, rfl⟩
                rw [inB_yes (show (0 : Int) ≤ s2 by have := HS.out.2.2.1; omega) (show s2 ≤ ((nQ : Int) - 1) by have := HS.out.2.2.1; have q := HW1.out; have := HNN.out.1; have := HNN.out.2.1; omega)]
                go_wp2_with fail
                refine (B_Lies_any s3 (-30000) 30000 _).mono ?_
                rintro e w3 ⟨rfl, rfl⟩
                rw [inB_yes (show ((-30000) : Int) ≤ s3 by have := HS.out.2.2.2.1; omega) (show s3 ≤ 30000 by have := HS.out.2.2.2.1; omega)]
                go_wp2_with fail
                refine (B_Lies_any s4 0 2000 _).mono ?_
                rintro e w3 ⟨rfl, rfl⟩
                rw [inB_yes (show (0 : Int) ≤ s4 by have := HS.out.2.2.2.2; omega) (show s4 ≤ 2000 by have := HS.out.2.2.2.2; omega)]
                go_wp2_with fail
                go_roundw
                case rel => exact ⟨k + 1, by omega, rfl, by go_num, V, k0⟩
                case measure => (simp only [intOf]; omega)

            · have dk : decide ((k : Int) < nL) = false := decide_eq_false (by omega)
              have ilt : ¬ (k : Int) < (nL : Nat) := by omega
              clear hlt hk
              go_wp2
              go_ret
              exact ⟨rfl, V⟩

end

end Go.Proofs.Ytlpkheoljbdajaa
