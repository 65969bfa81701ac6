import Derived.Test.YtlpkheoljbdajaaBsc
import Derived.Test.YtlpkheoljbdajaaQue
import Derived.Test.YtlpkheoljbdajaaTel
import Derived.Test.YtlpkheoljbdajaaHeQ
import Derived.Test.YtlpkheoljbdajaaRfM
import Derived.Test.YtlpkheoljbdajaaAp2
import Derived.Test.YtlpkheoljbdajaaClA
/- The contracts of the reference's spans and Check. -/
namespace Go.Proofs.Ytlpkheoljbdajaa
open Go.RowKit Go.Shelf
attribute [local go_sem] Oper.semAt_some

section
variable {bl bh rl rh : Int} {aP aQ aL : Option Addr} {nP cP nQ cQ nL cL : Nat} {ps qs : List (Int × Int)} {ls : List T.T5}
theorem T.all_take {α : Type} {p : α → Bool} {xs : List α} {d : α} {j : Nat} (hj : j < xs.length) : (xs.take (j + 1)).all p = ((xs.take j).all p && p (xs.getD j d)) := by
  rw [List.take_add_one, List.getElem?_eq_getElem hj, List.all_append, List.getD_eq_getElem?_getD, List.getElem?_eq_getElem hj]
  simp
theorem T.all_not {α : Type} {p : α → Bool} {xs : List α} {j : Nat} (h : (xs.take j).all p = false) : xs.all p = false := by
  rw [Bool.eq_false_iff] at h ⊢
  intro q
  rw [List.all_eq_true] at q
  exact h (List.all_eq_true.2 fun x hx => q x (List.mem_of_mem_take hx))
set_option maxRecDepth 100000 in
set_option maxHeartbeats 4000000 in
theorem r_spans_any {w : World} {v : Value} {xs : List (Int × Int)} (I : Sps w v xs) (lo hi : Int) :
    Calls Try.prog 62 #[v, .int .i64 lo, .int .i64 hi] w fun e w' => e = .returned (.bool (xs.all fun s => S.spanOk s.1 s.2 lo hi)) ∧ Up w w' := by
  obtain ⟨a, c, rfl, _, hl, hm⟩ := I.is
  have HM := Lib.hid hm
  clear hm I
  have U := Up.refl w
  go_enter Try.func62, Try.ntmps62
  go_wp2_with fail
  go_loopw [7] (fun i wr => ∃ j : Nat, j ≤ xs.length ∧ i = .int .i64 j ∧ Up w wr ∧ Hid ((xs.take j).all (fun s => S.spanOk s.1 s.2 lo hi) = true)) (fun i _ => xs.length - (intOf i).toNat)
  case atStart => exact ⟨0, Nat.zero_le _, rfl, U, Lib.hid rfl⟩
  case round =>
    clear U
    obtain ⟨j, hj, rfl, U, HA⟩ := hrel
    by_cases hlt : j < xs.length
    · have ew : IntKind.i64.wrap ((j : Int) + 1) = (j : Int) + 1 := IntWalk.i64_in _ (by omega)
      have dk : decide ((j : Int) < (xs.length : Int)) = true := decide_eq_true (by omega)
      have ilt : (j : Int) < (xs.length : Int) := by omega
      obtain ⟨g, off, rfl, gl, hx⟩ := HM.out (by omega)
      obtain ⟨⟨r0, r1⟩, hss⟩ : ∃ s, xs.getD j (0, 0) = s := ⟨_, rfl⟩
      have c0 : wr.cell? ⟨g, off + j * 2, none⟩ = some (.int .i64 r0) := by have := (U.facts.1 g _ gl).trans (hx j hlt 0 (by omega)); rw [hss] at this; exact this
      have c1 : wr.cell? ⟨g, off + j * 2 + 1, none⟩ = some (.int .i64 r1) := by have := (U.facts.1 g _ gl).trans (hx j hlt 1 (by omega)); rw [hss] at this; exact this
      have HS := Lib.hid (T.all_take (p := fun s => S.spanOk s.1 s.2 lo hi) (d := (0, 0)) hlt)
      rw [HA.out, hss] at HS
      clear hx gl hss
      go_wp2_with fail
      refine (B_Valid_any r0 r1 lo hi _).mono ?_
      rintro e w3 ⟨rfl, u3⟩
      replace U := U.trans u3
      clear u3 c0 c1
      by_cases hv : r0 ≤ r1 ∧ lo ≤ r0 ∧ r1 ≤ hi
      · rw [decide_eq_true hv]
        have HA2 := Lib.hid (show (xs.take (j + 1)).all (fun s => S.spanOk s.1 s.2 lo hi) = true by
          rw [HS.out]
          exact S.spanOk_iff.2 ⟨hv.2.1, hv.1, hv.2.2⟩)
        clear hv HA HS
        go_wp2_with fail
        go_roundw
        case rel => exact ⟨j + 1, by omega, by go_num, U, HA2⟩
        case measure => (simp only [intOf]; omega)
      · rw [decide_eq_false hv]
        have HA2 := Lib.hid (show xs.all (fun s => S.spanOk s.1 s.2 lo hi) = false from T.all_not (j := j + 1) (by
          rw [HS.out, Bool.true_and, Bool.eq_false_iff]
          intro q
          have := S.spanOk_iff.1 q
          omega))
        clear hv HA HS
        go_wp2
        go_ret
        exact ⟨by rw [HA2.out]; rfl, U⟩
    · have hjn : xs.length = j := by omega
      subst hjn
      have dk : decide ((xs.length : Int) < (xs.length : Int)) = false := decide_eq_false (by omega)
      have HA2 := HA.out
      rw [List.take_length] at HA2
      replace HA := Lib.hid HA2
      clear HA2
      go_wp2
      go_ret
      exact ⟨by rw [HA.out]; rfl, U⟩
set_option maxRecDepth 100000 in
set_option maxHeartbeats 8000000 in
set_option linter.unusedSimpArgs false in
theorem r_Check_any {w : World} {M : Int} (I : Sps w (.slice aP nP cP) ps) (J : Sps w (.slice aQ nQ cQ) qs) (K : Lks w (.slice aL nL cL) ls) :
    Calls Try.prog 20 #[BoV M bl bh rl rh (.slice aP nP cP) (.slice aQ nQ cQ) (.slice aL nL cL)] w fun e w' => e = .returned (.int .i64 (if T.valid M bl bh rl rh ps qs ls = true then 0 else 30)) ∧ Up w w' := by
  have hn := I.len
  have hno := J.len
  have hnp := K.len
  have mP := I.max
  have mQ := J.max
  have mL := K.max
  subst hn hno hnp
  obtain ⟨va, hva⟩ : ∃ b, T.valid M bl bh rl rh ps qs ls = b := ⟨_, rfl⟩
  have HVA := Lib.hid hva
  rw [hva]
  have HI := Lib.hid (fun w' (u : Up w w') => I.up u)
  have HJ := Lib.hid (fun w' (u : Up w w') => J.up u)
  have HK := Lib.hid (fun w' (u : Up w w') => K.up u)
  have hvd := hva
  unfold T.valid T.nightsOk T.othersOk at hvd
  have HVD := Lib.hid hvd
  clear I J K hva hvd
  go_enter Try.func20, Try.ntmps20
  obtain ⟨q0, e0⟩ : ∃ x, w.heap.size = x := ⟨_, rfl⟩
  have V := (Up.refl w).alloc (.cells (BoC M bl bh rl rh (.slice aP ps.length cP) (.slice aQ qs.length cQ) (.slice aL ls.length cL)) 27)
  have k0 := blk_new w (.cells (BoC M bl bh rl rh (.slice aP ps.length cP) (.slice aQ qs.length cQ) (.slice aL ls.length cL)) 27) q0 e0.symm
  go_wp2_with fail
  have dsp : ∀ l h lo hi : Int, decide (l ≤ h ∧ lo ≤ l ∧ h ≤ hi) = S.spanOk l h lo hi := fun l h lo hi => by
    rw [Bool.eq_iff_iff, decide_eq_true_iff, S.spanOk_iff]
    exact ⟨fun q => ⟨q.2.1, q.1, q.2.2⟩, fun q => ⟨q.2.1, q.1, q.2.2⟩⟩
  have DSP := Lib.hid dsp
  clear dsp
  refine (B_Lies_any _ _ _ _).mono ?_
  rintro e w2 ⟨rfl, rfl⟩
  cases h0 : inB M 1 8 with
  | false =>
    have hf : va = false := by have q := HVD.out; rw [h0] at q; simpa using q.symm
    clear h0 HVD
    subst hf
    go_wp2_with fail
    go_loopw [3] (fun b wr => b = .bool false ∧ Up w wr) (fun _ _ => 0)
    case atStart => exact ⟨rfl, V⟩
    case round =>
      obtain ⟨rfl, V⟩ := hrel
      clear k0
      go_wp2
      go_ret
      exact ⟨rfl, V⟩
  | true =>
    go_wp2_with fail
    refine (B_Valid_any _ _ _ _ _).mono ?_
    rintro e w2 ⟨rfl, u⟩
    replace V := V.trans u
    replace k0 := u.blk k0
    clear u
    rw [DSP.out]
    cases h1 : S.spanOk bl bh (-20000) 20000 with
    | false =>
      have hf : va = false := by have q := HVD.out; rw [h0, h1] at q; simpa using q.symm
      clear h0 h1 HVD
      subst hf
      go_wp2_with fail
      go_loopw [3] (fun b wr => b = .bool false ∧ Up w wr) (fun _ _ => 0)
      case atStart => exact ⟨rfl, V⟩
      case round =>
        obtain ⟨rfl, V⟩ := hrel
        clear k0
        go_wp2
        go_ret
        exact ⟨rfl, V⟩
    | true =>
      go_wp2_with fail
      refine (B_Valid_any _ _ _ _ _).mono ?_
      rintro e w2 ⟨rfl, u⟩
      replace V := V.trans u
      replace k0 := u.blk k0
      clear u
      rw [DSP.out]
      cases h2 : S.spanOk rl rh (-1000) 1000 with
      | false =>
        have hf : va = false := by have q := HVD.out; rw [h0, h1, h2] at q; simpa using q.symm
        clear h0 h1 h2 HVD
        subst hf
        go_wp2_with fail
        go_loopw [3] (fun b wr => b = .bool false ∧ Up w wr) (fun _ _ => 0)
        case atStart => exact ⟨rfl, V⟩
        case round =>
          obtain ⟨rfl, V⟩ := hrel
          clear k0
          go_wp2
          go_ret
          exact ⟨rfl, V⟩
      | true =>
        by_cases gp : ps.length ≤ 4
        · skip
          have dp : decide ((ps.length : Int) ≤ 4) = true := decide_eq_true (by omega)
          have ip : (ps.length : Int) ≤ 4 := by omega
          by_cases gq : qs.length ≤ 4
          · skip
            have dq : decide ((qs.length : Int) ≤ 4) = true := decide_eq_true (by omega)
            have iq : (qs.length : Int) ≤ 4 := by omega
            by_cases gl : ls.length ≤ 10
            · skip
              have dl : decide ((ls.length : Int) ≤ 10) = true := decide_eq_true (by omega)
              have il : (ls.length : Int) ≤ 10 := by omega
              go_wp2_with fail
              refine (r_spans_any (HI.out _ V) (-2000) 2000).mono ?_
              rintro e w2 ⟨rfl, u⟩
              replace V := V.trans u
              replace k0 := u.blk k0
              clear u
              cases hs : ps.all (fun s => S.spanOk s.1 s.2 (-2000) 2000) with
              | false =>
                have hf : va = false := by have q := HVD.out; rw [h0, h1, h2, decide_eq_true gp, decide_eq_true gq, decide_eq_true gl, show ps.all T.perOk = false from hs] at q; simpa using q.symm
                clear h0 h1 h2 gp gq gl hs HVD
                subst hf
                go_wp2_with fail
                go_loopw [3] (fun b wr => b = .bool false ∧ Up w wr) (fun _ _ => 0)
                case atStart => exact ⟨rfl, V⟩
                case round =>
                  obtain ⟨rfl, V⟩ := hrel
                  clear k0
                  go_wp2
                  go_ret
                  exact ⟨rfl, V⟩
              | true =>
                go_wp2_with fail
                refine (r_spans_any (HJ.out _ V) (0) 5000).mono ?_
                rintro e w2 ⟨rfl, u⟩
                replace V := V.trans u
                replace k0 := u.blk k0
                clear u
                cases ht : qs.all (fun s => S.spanOk s.1 s.2 (0) 5000) with
                | false =>
                  have hf : va = false := by have q := HVD.out; rw [h0, h1, h2, decide_eq_true gp, decide_eq_true gq, decide_eq_true gl, show ps.all T.perOk = true from hs, show qs.all T.pathOk = false from ht] at q; simpa using q.symm
                  clear h0 h1 h2 gp gq gl ht hs HVD
                  subst hf
                  go_wp2_with fail
                  go_loopw [3] (fun b wr => b = .bool false ∧ Up w wr) (fun _ _ => 0)
                  case atStart => exact ⟨rfl, V⟩
                  case round =>
                    obtain ⟨rfl, V⟩ := hrel
                    clear k0
                    go_wp2
                    go_ret
                    exact ⟨rfl, V⟩
                | true =>
                  go_wp2_with fail
                  have HF := Lib.hid (show va = ls.all (T.lookOk ps.length qs.length M) by
                    have q := HVD.out
                    rw [h0, h1, h2, decide_eq_true gp, decide_eq_true gq, decide_eq_true gl, show ps.all T.perOk = true from hs, show qs.all T.pathOk = true from ht] at q
                    simpa using q.symm)
                  have HMB := Lib.hid (inB_iff.1 h0)
                  clear HVD h0 h1 h2 hs ht
                  have ewN : IntKind.i64.wrap (M - 1) = M - 1 := IntWalk.i64_in _ (by have := HMB.out; omega)
                  have ewP : IntKind.i64.wrap ((ps.length : Int) - 1) = (ps.length : Int) - 1 := IntWalk.i64_in _ (by omega)
                  have ewQ : IntKind.i64.wrap ((qs.length : Int) - 1) = (qs.length : Int) - 1 := IntWalk.i64_in _ (by omega)
                  go_loopw [3, 4] (fun b i wr => ∃ (k : Nat) (t : Bool), k ≤ ls.length ∧ b = .bool t ∧ i = .int .i64 k ∧ Up w wr ∧ mblk wr q0 = some (.cells (BoC M bl bh rl rh (.slice aP ps.length cP) (.slice aQ qs.length cQ) (.slice aL ls.length cL)) 27 (0, 0)) ∧ Hid (t = (ls.take k).all (T.lookOk ps.length qs.length M))) (fun _ i _ => ls.length - (intOf i).toNat)
                  case atStart => exact ⟨0, true, Nat.zero_le _, rfl, rfl, V, k0, Lib.hid rfl⟩
                  case round =>
                    clear k0 V
                    obtain ⟨k, t, hk, rfl, rfl, V, k0, HT⟩ := hrel
                    cases t with
                    | false =>
                      have hf : va = false := by rw [HF.out]; exact T.all_not HT.out.symm
                      clear HT HF k0
                      subst hf
                      go_wp2
                      go_ret
                      exact ⟨rfl, V⟩
                    | true =>
                      by_cases hlt : k < ls.length
                      · skip
                        have ew : IntKind.i64.wrap ((k : Int) + 1) = (k : Int) + 1 := IntWalk.i64_in _ (by omega)
                        have dk : decide ((k : Int) < (ls.length : Int)) = true := decide_eq_true (by omega)
                        have ilt : (k : Int) < (ls.length : Int) := by omega
                        obtain ⟨a', c', e', _, _, hm⟩ := (HK.out _ (Up.refl w)).is
                        injection e' with ea eb ec
                        clear eb ec
                        obtain ⟨g, off, ga, glE, hx⟩ := hm (by omega)
                        subst ea ga
                        clear hm
                        obtain ⟨⟨s0, s1, s2, s3, s4⟩, hss⟩ : ∃ s, ls.getD k (0, 0, 0, 0, 0) = s := ⟨_, rfl⟩
                        have cc0 : wr.cell? ⟨g, off + k * 5, none⟩ = some (.int .i64 s0) := by have := (V.facts.1 g _ glE).trans (hx k hlt 0 (by omega)); rw [hss] at this; exact this
                        have cc1 : wr.cell? ⟨g, off + k * 5 + 1, none⟩ = some (.int .i64 s1) := by have := (V.facts.1 g _ glE).trans (hx k hlt 1 (by omega)); rw [hss] at this; exact this
                        have cc2 : wr.cell? ⟨g, off + k * 5 + 2, none⟩ = some (.int .i64 s2) := by have := (V.facts.1 g _ glE).trans (hx k hlt 2 (by omega)); rw [hss] at this; exact this
                        have cc3 : wr.cell? ⟨g, off + k * 5 + 3, none⟩ = some (.int .i64 s3) := by have := (V.facts.1 g _ glE).trans (hx k hlt 3 (by omega)); rw [hss] at this; exact this
                        have cc4 : wr.cell? ⟨g, off + k * 5 + 4, none⟩ = some (.int .i64 s4) := by have := (V.facts.1 g _ glE).trans (hx k hlt 4 (by omega)); rw [hss] at this; exact this
                        have HS := Lib.hid (T.all_take (p := T.lookOk ps.length qs.length M) (d := (0, 0, 0, 0, 0)) hlt)
                        rw [← HT.out, hss, Bool.true_and] at HS
                        clear hx glE hss HT
                        have lk0 := blk_lt k0
                        have i0 := k0
                        by_cases h1 : s1 = 1
                        · skip
                          subst h1
                          have HL2 := Lib.hid (show (ls.take (k + 1)).all (T.lookOk ps.length qs.length M) = (inB s0 0 (M - 1) && (inB 1 0 1 && (inB s2 0 ((qs.length : Int) - 1) && (inB s3 (-30000) 30000 && inB s4 0 2000)))) by
                            rw [HS.out]
                            rfl)
                          clear HS
                          have kn := blk_new wr (.cells #[.int .i64 s0, .int .i64 1, .int .i64 s2, .int .i64 s3, .int .i64 s4] 63) _ rfl
                          replace k0 := blk_keep (.cells #[.int .i64 s0, .int .i64 1, .int .i64 s2, .int .i64 s3, .int .i64 s4] 63) k0
                          replace V := V.alloc (.cells #[.int .i64 s0, .int .i64 1, .int .i64 s2, .int .i64 s3, .int .i64 s4] 63)
                          obtain ⟨pn, hpn⟩ : ∃ z, wr.heap.size = z := ⟨_, rfl⟩
                          obtain ⟨W1, hW1⟩ : ∃ z, wr.alloc (.cells #[.int .i64 s0, .int .i64 1, .int .i64 s2, .int .i64 s3, .int .i64 s4] 63) = z := ⟨_, rfl⟩
                          rw [hpn] at kn
                          rw [hW1] at kn k0 V
                          go_wp2_with fail
                          try rw [hW1]
                          try rw [hpn]
                          clear hpn hW1 lk0 i0 cc0 cc1 cc2 cc3 cc4
                          refine (B_Lies_any _ _ _ _).mono ?_
                          rintro e w2 ⟨rfl, rfl⟩
                          cases b0 : inB s0 0 (M - 1) with
                          | false =>
                            have HT2 := Lib.hid (show false = (ls.take (k + 1)).all (T.lookOk ps.length qs.length M) by rw [HL2.out, b0]; simp)
                            clear HL2 b0
                            go_wp2_with fail
                            go_roundw
                            case rel => exact ⟨k + 1, false, by omega, rfl, by go_num, V, k0, HT2⟩
                            case measure => (simp only [intOf]; omega)
                          | true =>
                            go_wp2_with fail
                            refine (B_Lies_any _ _ _ _).mono ?_
                            rintro e w2 ⟨rfl, rfl⟩
                            cases b1 : inB 1 0 1 with
                            | false =>
                              have HT2 := Lib.hid (show false = (ls.take (k + 1)).all (T.lookOk ps.length qs.length M) by rw [HL2.out, b0, b1]; simp)
                              clear HL2 b0 b1
                              go_wp2_with fail
                              go_roundw
                              case rel => exact ⟨k + 1, false, by omega, rfl, by go_num, V, k0, HT2⟩
                              case measure => (simp only [intOf]; omega)
                            | true =>
                              go_wp2_with fail
                              refine (B_Lies_any _ _ _ _).mono ?_
                              rintro e w2 ⟨rfl, rfl⟩
                              cases b2 : inB s2 0 ((qs.length : Int) - 1) with
                              | false =>
                                have HT2 := Lib.hid (show false = (ls.take (k + 1)).all (T.lookOk ps.length qs.length M) by rw [HL2.out, b0, b1, b2]; simp)
                                clear HL2 b0 b1 b2
                                go_wp2_with fail
                                go_roundw
                                case rel => exact ⟨k + 1, false, by omega, rfl, by go_num, V, k0, HT2⟩
                                case measure => (simp only [intOf]; omega)
                              | true =>
                                go_wp2_with fail
                                refine (B_Lies_any _ _ _ _).mono ?_
                                rintro e w2 ⟨rfl, rfl⟩
                                cases b3 : inB s3 (-30000) 30000 with
                                | false =>
                                  have HT2 := Lib.hid (show false = (ls.take (k + 1)).all (T.lookOk ps.length qs.length M) by rw [HL2.out, b0, b1, b2, b3]; simp)
                                  clear HL2 b0 b1 b2 b3
                                  go_wp2_with fail
                                  go_roundw
                                  case rel => exact ⟨k + 1, false, by omega, rfl, by go_num, V, k0, HT2⟩
                                  case measure => (simp only [intOf]; omega)
                                | true =>
                                  go_wp2_with fail
                                  refine (B_Lies_any _ _ _ _).mono ?_
                                  rintro e w2 ⟨rfl, rfl⟩
                                  cases b4 : inB s4 0 2000 with
                                  | false =>
                                    have HT2 := Lib.hid (show false = (ls.take (k + 1)).all (T.lookOk ps.length qs.length M) by rw [HL2.out, b0, b1, b2, b3, b4]; simp)
                                    clear HL2 b0 b1 b2 b3 b4
                                    go_wp2_with fail
                                    go_roundw
                                    case rel => exact ⟨k + 1, false, by omega, rfl, by go_num, V, k0, HT2⟩
                                    case measure => (simp only [intOf]; omega)
                                  | true =>
                                    have HT2 := Lib.hid (show true = (ls.take (k + 1)).all (T.lookOk ps.length qs.length M) by rw [HL2.out, b0, b1, b2, b3, b4]; rfl)
                                    clear HL2 b0 b1 b2 b3 b4
                                    go_wp2_with fail
                                    go_roundw
                                    case rel => exact ⟨k + 1, true, by omega, rfl, by go_num, V, k0, HT2⟩
                                    case measure => (simp only [intOf]; omega)
                        · skip
                          have f1 : (s1 == 1) = false := by rw [beq_eq_false_iff_ne]; exact h1
                          have HL2 := Lib.hid (show (ls.take (k + 1)).all (T.lookOk ps.length qs.length M) = (inB s0 0 (M - 1) && (inB s1 0 1 && (inB s2 0 ((ps.length : Int) - 1) && (inB s3 (-30000) 30000 && inB s4 0 2000)))) by
                            rw [HS.out]
                            unfold T.lookOk
                            dsimp only
                            by_cases hz : s1 = 0
                            · subst hz
                              rfl
                            · have hb : inB s1 0 1 = false := by
                                rw [Bool.eq_false_iff]
                                intro q
                                have := inB_iff.1 q
                                omega
                              rw [hb]
                              simp)
                          clear HS
                          have kn := blk_new wr (.cells #[.int .i64 s0, .int .i64 s1, .int .i64 s2, .int .i64 s3, .int .i64 s4] 63) _ rfl
                          replace k0 := blk_keep (.cells #[.int .i64 s0, .int .i64 s1, .int .i64 s2, .int .i64 s3, .int .i64 s4] 63) k0
                          replace V := V.alloc (.cells #[.int .i64 s0, .int .i64 s1, .int .i64 s2, .int .i64 s3, .int .i64 s4] 63)
                          obtain ⟨pn, hpn⟩ : ∃ z, wr.heap.size = z := ⟨_, rfl⟩
                          obtain ⟨W1, hW1⟩ : ∃ z, wr.alloc (.cells #[.int .i64 s0, .int .i64 s1, .int .i64 s2, .int .i64 s3, .int .i64 s4] 63) = z := ⟨_, rfl⟩
                          rw [hpn] at kn
                          rw [hW1] at kn k0 V
                          go_wp2_with fail
                          try rw [hW1]
                          try rw [hpn]
                          clear hpn hW1 lk0 i0 cc0 cc1 cc2 cc3 cc4
                          refine (B_Lies_any _ _ _ _).mono ?_
                          rintro e w2 ⟨rfl, rfl⟩
                          cases b0 : inB s0 0 (M - 1) with
                          | false =>
                            have HT2 := Lib.hid (show false = (ls.take (k + 1)).all (T.lookOk ps.length qs.length M) by rw [HL2.out, b0]; simp)
                            clear HL2 b0
                            go_wp2_with fail
                            go_roundw
                            case rel => exact ⟨k + 1, false, by omega, rfl, by go_num, V, k0, HT2⟩
                            case measure => (simp only [intOf]; omega)
                          | true =>
                            go_wp2_with fail
                            refine (B_Lies_any _ _ _ _).mono ?_
                            rintro e w2 ⟨rfl, rfl⟩
                            cases b1 : inB s1 0 1 with
                            | false =>
                              have HT2 := Lib.hid (show false = (ls.take (k + 1)).all (T.lookOk ps.length qs.length M) by rw [HL2.out, b0, b1]; simp)
                              clear HL2 b0 b1
                              go_wp2_with fail
                              go_roundw
                              case rel => exact ⟨k + 1, false, by omega, rfl, by go_num, V, k0, HT2⟩
                              case measure => (simp only [intOf]; omega)
                            | true =>
                              go_wp2_with fail
                              refine (B_Lies_any _ _ _ _).mono ?_
                              rintro e w2 ⟨rfl, rfl⟩
                              cases b2 : inB s2 0 ((ps.length : Int) - 1) with
                              | false =>
                                have HT2 := Lib.hid (show false = (ls.take (k + 1)).all (T.lookOk ps.length qs.length M) by rw [HL2.out, b0, b1, b2]; simp)
                                clear HL2 b0 b1 b2
                                go_wp2_with fail
                                go_roundw
                                case rel => exact ⟨k + 1, false, by omega, rfl, by go_num, V, k0, HT2⟩
                                case measure => (simp only [intOf]; omega)
                              | true =>
                                go_wp2_with fail
                                refine (B_Lies_any _ _ _ _).mono ?_
                                rintro e w2 ⟨rfl, rfl⟩
                                cases b3 : inB s3 (-30000) 30000 with
                                | false =>
                                  have HT2 := Lib.hid (show false = (ls.take (k + 1)).all (T.lookOk ps.length qs.length M) by rw [HL2.out, b0, b1, b2, b3]; simp)
                                  clear HL2 b0 b1 b2 b3
                                  go_wp2_with fail
                                  go_roundw
                                  case rel => exact ⟨k + 1, false, by omega, rfl, by go_num, V, k0, HT2⟩
                                  case measure => (simp only [intOf]; omega)
                                | true =>
                                  go_wp2_with fail
                                  refine (B_Lies_any _ _ _ _).mono ?_
                                  rintro e w2 ⟨rfl, rfl⟩
                                  cases b4 : inB s4 0 2000 with
                                  | false =>
                                    have HT2 := Lib.hid (show false = (ls.take (k + 1)).all (T.lookOk ps.length qs.length M) by rw [HL2.out, b0, b1, b2, b3, b4]; simp)
                                    clear HL2 b0 b1 b2 b3 b4
                                    go_wp2_with fail
                                    go_roundw
                                    case rel => exact ⟨k + 1, false, by omega, rfl, by go_num, V, k0, HT2⟩
                                    case measure => (simp only [intOf]; omega)
                                  | true =>
                                    have HT2 := Lib.hid (show true = (ls.take (k + 1)).all (T.lookOk ps.length qs.length M) by rw [HL2.out, b0, b1, b2, b3, b4]; rfl)
                                    clear HL2 b0 b1 b2 b3 b4
                                    go_wp2_with fail
                                    go_roundw
                                    case rel => exact ⟨k + 1, true, by omega, rfl, by go_num, V, k0, HT2⟩
                                    case measure => (simp only [intOf]; omega)
                      · skip
                        have hkn : ls.length = k := by omega
                        subst hkn
                        have dk : decide ((ls.length : Int) < (ls.length : Int)) = false := decide_eq_false (by omega)
                        have hf : va = true := by rw [HF.out, HT.out, List.take_length]
                        clear HT HF
                        subst hf
                        go_wp2
                        go_ret
                        exact ⟨rfl, V⟩
            · skip
              have dl : decide ((ls.length : Int) ≤ 10) = false := decide_eq_false (by omega)
              have il : ¬ (ls.length : Int) ≤ 10 := by omega
              have hf : va = false := by have q := HVD.out; rw [h0, h1, h2, decide_eq_true gp, decide_eq_true gq, decide_eq_false gl] at q; simpa using q.symm
              clear h0 h1 h2 gl gp gq HVD
              subst hf
              go_wp2_with fail
              go_loopw [3] (fun b wr => b = .bool false ∧ Up w wr) (fun _ _ => 0)
              case atStart => exact ⟨rfl, V⟩
              case round =>
                obtain ⟨rfl, V⟩ := hrel
                clear k0
                go_wp2
                go_ret
                exact ⟨rfl, V⟩
          · skip
            have dq : decide ((qs.length : Int) ≤ 4) = false := decide_eq_false (by omega)
            have iq : ¬ (qs.length : Int) ≤ 4 := by omega
            have hf : va = false := by have q := HVD.out; rw [h0, h1, h2, decide_eq_true gp, decide_eq_false gq] at q; simpa using q.symm
            clear h0 h1 h2 gq gp HVD
            subst hf
            go_wp2_with fail
            go_loopw [3] (fun b wr => b = .bool false ∧ Up w wr) (fun _ _ => 0)
            case atStart => exact ⟨rfl, V⟩
            case round =>
              obtain ⟨rfl, V⟩ := hrel
              clear k0
              go_wp2
              go_ret
              exact ⟨rfl, V⟩
        · skip
          have dp : decide ((ps.length : Int) ≤ 4) = false := decide_eq_false (by omega)
          have ip : ¬ (ps.length : Int) ≤ 4 := by omega
          have hf : va = false := by have q := HVD.out; rw [h0, h1, h2, decide_eq_false gp] at q; simpa using q.symm
          clear h0 h1 h2 gp HVD
          subst hf
          go_wp2_with fail
          go_loopw [3] (fun b wr => b = .bool false ∧ Up w wr) (fun _ _ => 0)
          case atStart => exact ⟨rfl, V⟩
          case round =>
            obtain ⟨rfl, V⟩ := hrel
            clear k0
            go_wp2
            go_ret
            exact ⟨rfl, V⟩
end

end Go.Proofs.Ytlpkheoljbdajaa

/- The contracts of the reference's say, person, path, between. -/
namespace Go.Proofs.Ytlpkheoljbdajaa
open Go.RowKit Go.Shelf
attribute [local go_sem] Oper.semAt_some
section
variable {bl bh rl rh : Int} {aP aQ aL : Option Addr} {nP cP nQ cQ nL cL : Nat} {ps qs : List (Int × Int)} {ls : List T.T5}
set_option maxRecDepth 100000 in
set_option maxHeartbeats 4000000 in
set_option linter.unusedSimpArgs false in
theorem r_say_any {w0 w : World} {g N a b : Nat} {rw : Nat → Nat} {M : T.Mt} {l h : Int} (U : Up w0 w) (HM : T.Mx w g N rw M N) (hr : ∀ c, c < N → w0.heap.size ≤ rw c) (ha : a < N) (hb : b < N) (hab : a ≠ b) (hl : -1000000 ≤ l ∧ l ≤ 1000000) :
    Calls Try.prog 98 #[.slice (some ⟨g, 0, none⟩) N N, .int .i64 (a : Int), .int .i64 (b : Int), SpV l h] w fun e w' => e = .returned (.tuple #[]) ∧ T.Mx w' g N rw (T.sayM M a b l h) N ∧ Up w0 w' := by
  have hmx : Try.prog.follows .mixedOrders = true := by kernel_rfl
  have U1 := U.alloc (.cells #[.int .i64 l, .int .i64 h] 23)
  have kS := blk_new w (.cells #[.int .i64 l, .int .i64 h] 23) _ rfl
  have M1 := HM.up ((Up.refl w).alloc (.cells #[.int .i64 l, .int .i64 h] 23))
  have c1 := M1.cell1 ha
  have c2 := M1.cell1 hb
  have ia : (a : Int) < (N : Int) := by omega
  have ib : (b : Int) < (N : Int) := by omega
  have wn : IntKind.i64.wrap (-l) = -l := IntWalk.i64_in _ (by omega)
  have ra := hr a ha
  have rb := hr b hb
  have nab : rw a ≠ rw b := fun e => hab (HM.inj a b ha hb e)
  obtain ⟨m1, hm1⟩ : ∃ q, M a b = q := ⟨_, rfl⟩
  obtain ⟨m2, hm2⟩ : ∃ q, M b a = q := ⟨_, rfl⟩
  obtain ⟨x1, hx1⟩ : ∃ q, Min.min m1 h = q := ⟨_, rfl⟩
  obtain ⟨x2, hx2⟩ : ∃ q, Min.min m2 (-l) = q := ⟨_, rfl⟩
  have R1 := min_run hx1
  have R2 := min_run hx2
  have HF := Lib.hid (show T.sayM M a b l h = T.mup (T.mup M a b x1) b a x2 by unfold T.sayM; rw [hm1, hx1, hm2, hx2])
  have v1 := M1.cell2 ha hb
  have v2 := M1.cell2 hb ha
  rw [hm1] at v1
  rw [hm2] at v2
  have kS2 := blk_lt kS
  obtain ⟨qs, hqs⟩ : ∃ q, w.heap.size = q := ⟨_, rfl⟩
  have nqa : qs ≠ rw a := fun e => by have := HM.lt ha; omega
  have nqb : qs ≠ rw b := fun e => by have := HM.lt hb; omega
  obtain ⟨W1, hW1⟩ : ∃ q, w.alloc (.cells #[.int .i64 l, .int .i64 h] 23) = q := ⟨_, rfl⟩
  rw [hW1] at U1 kS M1 c1 c2 v1 v2
  rw [hqs] at kS
  clear U HM hr hx1 hx2 hm1 hm2 kS2 hl
  go_enter Try.func98, Try.ntmps98
  go_wp2_with fail
  try rw [hW1]
  try rw [hqs]
  clear hW1 hqs
  refine (wpIn_wide (n := 5)).1 ?_
  refine wpIn_nrm ?_
  refine regionG (fun w' => w'.cell? ⟨g, a, none⟩ = some (.slice (some ⟨rw a, 0, none⟩) N N) ∧ w'.cell? ⟨g, b, none⟩ = some (.slice (some ⟨rw b, 0, none⟩) N N)) 9 hmx ⟨c1, c2⟩ (fun hHeld hCl => ?_)
  obtain ⟨X1, hX1⟩ : ∃ X, W1.drew = X := ⟨_, rfl⟩
  have UX := U1.drew
  have MX := M1.up (Up.refl W1).drew
  have kX := (Up.refl W1).drew.blk kS
  have vX := (Up.refl W1).drew.cell2 v1
  have vY := (Up.refl W1).drew.cell2 v2
  rw [hX1] at hHeld UX MX kX vX vY ⊢
  clear hX1 U1 M1 kS v1 v2 c1 c2
  refine T.gT 0 (some 10) ?v1 rfl rfl hCl (by assumption) ?hy1 (fun hCl => ?_)
  case hy1 => ((intro w hSw; (try dsimp only at hSw); (try go_split_ands); go_simp); try with_reducible rfl)
  simp only [Act.put, T.pa, T.pb, T.pc]
  refine T.gT 1 (some 11) ?v2 rfl rfl hCl (by assumption) ?hy2 (fun hCl => ?_)
  case hy2 => ((intro w hSw; (try dsimp only at hSw); (try go_split_ands); go_simp); try with_reducible rfl)
  simp only [Act.put, T.pa, T.pb, T.pc]
  refine T.gT 2 (some 12) ?v3 rfl rfl hCl (by assumption) ?hy3 (fun hCl => ?_)
  case hy3 => ((intro w hSw; (try dsimp only at hSw); (try go_split_ands); go_simp); try with_reducible rfl)
  simp only [Act.put, T.pa, T.pb, T.pc]
  refine T.gT 3 (some 13) ?v4 rfl rfl hCl (by assumption) ?hy4 (fun hCl => ?_)
  case hy4 => ((intro w hSw; (try dsimp only at hSw); (try go_split_ands); go_simp); try with_reducible rfl)
  simp only [Act.put, T.pa, T.pb, T.pc]
  refine T.gT 4 (some 14) ?v5 rfl rfl hCl (by assumption) ?hy5 (fun hCl => ?_)
  case hy5 => ((intro w hSw; (try dsimp only at hSw); (try go_split_ands); go_simp); try with_reducible rfl)
  simp only [Act.put, T.pa, T.pb, T.pc]
  refine T.gT 5 (some 15) ?v6 rfl rfl hCl (by assumption) ?hy6 (fun hCl => ?_)
  case hy6 => ((intro w hSw; (try dsimp only at hSw); (try go_split_ands); go_simp); try with_reducible rfl)
  simp only [Act.put, T.pa, T.pb, T.pc]
  refine T.gT 6 (some 16) ?v7 rfl rfl hCl (by assumption) ?hy7 (fun hCl => ?_)
  case hy7 => ((intro w hSw; (try dsimp only at hSw); (try go_split_ands); go_simp); try with_reducible rfl)
  simp only [Act.put, T.pa, T.pb, T.pc]
  refine T.gT 7 (some 17) ?v8 rfl rfl hCl (by assumption) ?hy8 (fun hCl => ?_)
  case hy8 => ((intro w hSw; (try dsimp only at hSw); (try go_split_ands); go_simp); try with_reducible rfl)
  simp only [Act.put, T.pa, T.pb, T.pc]
  refine nextG (i := 8) (by kernel_rfl) rfl (by rfl) hCl (fun K hK => ?_)
  go_simp
  refine hK.out _ _ hHeld (fun _ hCl => ?_)
  clear hK K
  try dsimp only [List.getElem_toArray, List.getElem_cons_succ, List.getElem_cons_zero]
  try simp only [Act.put, List.setIfInBounds_toArray, List.set_cons_zero, List.set_cons_succ]
  clear hCl
  refine lastG (i := 9) (by kernel_rfl) rfl (by rfl) (by decide) (fun K hK => ?_)
  go_simp
  refine hK.out _ _ ?_
  clear hK K hHeld
  refine doneG (by kernel_rfl) ?_ _
  refine S.nrm_intro ?_
  go_wp2_with fail
  refine (wpIn_wide (n := 5)).1 ?_
  refine wpIn_nrm ?_
  refine regionG (fun w' => w'.cell? ⟨rw a, b, none⟩ = some (.int .i64 m1) ∧ mblk w' qs = some (.cells #[.int .i64 l, .int .i64 h] 23 (0, 0))) 10 hmx ⟨vX, kX⟩ (fun hHeld hCl => ?_)
  obtain ⟨X2, hX2⟩ : ∃ X, X1.drew = X := ⟨_, rfl⟩
  have UX2 := UX.drew
  have MX2 := MX.up (Up.refl X1).drew
  have kX2 := (Up.refl X1).drew.blk kX
  have oX2 := (Up.refl X1).drew.cell2 vY
  rw [hX2] at hHeld UX2 MX2 kX2 oX2 ⊢
  clear hX2 UX MX kX vX vY
  have zf := MX2.froz ha b
  have c0 := MX2.cell2 ha hb
  refine T.gT 0 (some 18) ?v11 rfl rfl hCl (by assumption) ?hy11 (fun hCl => ?_)
  case hy11 => ((intro w hSw; (try dsimp only at hSw); (try go_split_ands); go_simp); try with_reducible rfl)
  simp only [Act.put, T.pa, T.pb, T.pc]
  refine T.gT 1 (some 19) ?v12 rfl rfl hCl (by assumption) ?hy12 (fun hCl => ?_)
  case hy12 => ((intro w hSw; (try dsimp only at hSw); (try go_split_ands); go_simp); try with_reducible rfl)
  simp only [Act.put, T.pa, T.pb, T.pc]
  refine T.gT 2 (some 20) ?v13 rfl rfl hCl (by assumption) ?hy13 (fun hCl => ?_)
  case hy13 => ((intro w hSw; (try dsimp only at hSw); (try go_split_ands); go_simp); try with_reducible rfl)
  simp only [Act.put, T.pa, T.pb, T.pc]
  refine T.gT 3 (some 21) ?v14 rfl rfl hCl (by assumption) ?hy14 (fun hCl => ?_)
  case hy14 => ((intro w hSw; (try dsimp only at hSw); (try go_split_ands); go_simp); try with_reducible rfl)
  simp only [Act.put, T.pa, T.pb, T.pc]
  refine T.gT 4 (some 22) ?v15 rfl rfl hCl (by assumption) ?hy15 (fun hCl => ?_)
  case hy15 => ((intro w hSw; (try dsimp only at hSw); (try go_split_ands); go_simp); try with_reducible rfl)
  simp only [Act.put, T.pa, T.pb, T.pc]
  refine T.gT 5 (some 23) ?v16 rfl rfl hCl (by assumption) ?hy16 (fun hCl => ?_)
  case hy16 => ((intro w hSw; (try dsimp only at hSw); (try go_split_ands); go_simp); try with_reducible rfl)
  simp only [Act.put, T.pa, T.pb, T.pc]
  refine T.gT 6 (some 24) ?v17 rfl rfl hCl (by assumption) ?hy17 (fun hCl => ?_)
  case hy17 => ((intro w hSw; (try dsimp only at hSw); (try go_split_ands); go_simp); try with_reducible rfl)
  simp only [Act.put, T.pa, T.pb, T.pc]
  refine T.gT 7 (some 25) ?v18 rfl rfl hCl (by assumption) ?hy18 (fun hCl => ?_)
  case hy18 => ((intro w hSw; (try dsimp only at hSw); (try go_split_ands); go_simp); try with_reducible rfl)
  simp only [Act.put, T.pa, T.pb, T.pc]
  refine T.gT 8 (some 26) ?v19 rfl rfl hCl (by assumption) ?hy19 (fun hCl => ?_)
  case hy19 => ((intro w hSw; (try dsimp only at hSw); (try go_split_ands); go_simp); try with_reducible rfl)
  simp only [Act.put, T.pa, T.pb, T.pc]
  refine T.gT 9 (some 27) ?v20 rfl rfl hCl (by assumption) ?hy20 (fun hCl => ?_)
  case hy20 => ((intro w hSw; (try dsimp only at hSw); (try go_split_ands); go_simp); try with_reducible rfl)
  simp only [Act.put, T.pa, T.pb, T.pc]
  clear hCl hHeld
  refine lastG (i := 10) (by kernel_rfl) rfl (by rfl) (by decide) (fun K hK => ?_)
  go_simp
  have MP := MX2.put (b := b) ha x1
  have UP := UX2.set (p := ⟨rw a, b, none⟩) (show w0.heap.size ≤ rw a by omega) (.int .i64 x1)
  have kP : mblk (X2.setCell ⟨rw a, b, none⟩ (.int .i64 x1)) qs = some (.cells #[.int .i64 l, .int .i64 h] 23 (0, 0)) := by rw [blk_set _ _ _ _ (by show qs ≠ rw a; omega)]; exact kX2
  have oP : (X2.setCell ⟨rw a, b, none⟩ (.int .i64 x1)).cell? ⟨rw b, a, none⟩ = some (.int .i64 m2) := by
    have q := MP.cell2 hb ha
    rw [T.mup_ne _ _ (fun q => hab q.2)] at q
    have q2 := MX2.cell2 hb ha
    rw [q, ← q2]
    exact oX2
  obtain ⟨Z2, hZ2⟩ : ∃ q, X2.setCell ⟨rw a, b, none⟩ (.int .i64 x1) = q := ⟨_, rfl⟩
  rw [hZ2] at MP UP kP oP
  try rw [hZ2]
  refine hK.out _ _ ?_
  clear hK K hZ2 zf c0 UX2 MX2 kX2 oX2
  refine doneG (by kernel_rfl) ?_ _
  refine S.nrm_intro ?_
  have UX := UP
  have MX := MP
  have kX := kP
  have vY := oP
  clear UP MP kP oP
  go_wp2_with fail
  refine (wpIn_wide (n := 5)).1 ?_
  refine wpIn_nrm ?_
  refine regionG (fun w' => w'.cell? ⟨rw b, a, none⟩ = some (.int .i64 m2) ∧ mblk w' qs = some (.cells #[.int .i64 l, .int .i64 h] 23 (0, 0))) 11 hmx ⟨vY, kX⟩ (fun hHeld hCl => ?_)
  obtain ⟨X3, hX3⟩ : ∃ X, Z2.drew = X := ⟨_, rfl⟩
  have UX3 := UX.drew
  have MX3 := MX.up (Up.refl Z2).drew
  have kX3 := (Up.refl Z2).drew.blk kX
  rw [hX3] at hHeld UX3 MX3 kX3 ⊢
  clear hX3 UX MX kX vY
  have zf := MX3.froz hb a
  have c0 := MX3.cell2 hb ha
  refine T.gT 0 (some 28) ?v22 rfl rfl hCl (by assumption) ?hy22 (fun hCl => ?_)
  case hy22 => ((intro w hSw; (try dsimp only at hSw); (try go_split_ands); go_simp); try with_reducible rfl)
  simp only [Act.put, T.pa, T.pb, T.pc]
  refine T.gT 1 (some 29) ?v23 rfl rfl hCl (by assumption) ?hy23 (fun hCl => ?_)
  case hy23 => ((intro w hSw; (try dsimp only at hSw); (try go_split_ands); go_simp); try with_reducible rfl)
  simp only [Act.put, T.pa, T.pb, T.pc]
  refine T.gT 2 (some 30) ?v24 rfl rfl hCl (by assumption) ?hy24 (fun hCl => ?_)
  case hy24 => ((intro w hSw; (try dsimp only at hSw); (try go_split_ands); go_simp); try with_reducible rfl)
  simp only [Act.put, T.pa, T.pb, T.pc]
  refine T.gT 3 (some 31) ?v25 rfl rfl hCl (by assumption) ?hy25 (fun hCl => ?_)
  case hy25 => ((intro w hSw; (try dsimp only at hSw); (try go_split_ands); go_simp); try with_reducible rfl)
  simp only [Act.put, T.pa, T.pb, T.pc]
  refine T.gT 4 (some 32) ?v26 rfl rfl hCl (by assumption) ?hy26 (fun hCl => ?_)
  case hy26 => ((intro w hSw; (try dsimp only at hSw); (try go_split_ands); go_simp); try with_reducible rfl)
  simp only [Act.put, T.pa, T.pb, T.pc]
  refine T.gT 5 (some 33) ?v27 rfl rfl hCl (by assumption) ?hy27 (fun hCl => ?_)
  case hy27 => ((intro w hSw; (try dsimp only at hSw); (try go_split_ands); go_simp); try with_reducible rfl)
  simp only [Act.put, T.pa, T.pb, T.pc]
  refine T.gT 6 (some 34) ?v28 rfl rfl hCl (by assumption) ?hy28 (fun hCl => ?_)
  case hy28 => ((intro w hSw; (try dsimp only at hSw); (try go_split_ands); go_simp); try with_reducible rfl)
  simp only [Act.put, T.pa, T.pb, T.pc]
  refine T.gT 7 (some 35) ?v29 rfl rfl hCl (by assumption) ?hy29 (fun hCl => ?_)
  case hy29 => ((intro w hSw; (try dsimp only at hSw); (try go_split_ands); go_simp); try with_reducible rfl)
  simp only [Act.put, T.pa, T.pb, T.pc]
  refine T.gT 8 (some 36) ?v30 rfl rfl hCl (by assumption) ?hy30 (fun hCl => ?_)
  case hy30 => ((intro w hSw; (try dsimp only at hSw); (try go_split_ands); go_simp); try with_reducible rfl)
  simp only [Act.put, T.pa, T.pb, T.pc]
  refine T.gT 9 (some 37) ?v31 rfl rfl hCl (by assumption) ?hy31 (fun hCl => ?_)
  case hy31 => ((intro w hSw; (try dsimp only at hSw); (try go_split_ands); go_simp); try with_reducible rfl)
  simp only [Act.put, T.pa, T.pb, T.pc]
  refine T.gT 10 (some 38) ?v32 rfl rfl hCl (by assumption) ?hy32 (fun hCl => ?_)
  case hy32 => ((intro w hSw; (try dsimp only at hSw); (try go_split_ands); go_simp); try with_reducible rfl)
  simp only [Act.put, T.pa, T.pb, T.pc]
  clear hCl hHeld
  refine lastG (i := 11) (by kernel_rfl) rfl (by rfl) (by decide) (fun K hK => ?_)
  go_simp
  have MP := MX3.put (b := a) hb x2
  have UP := UX3.set (p := ⟨rw b, a, none⟩) (show w0.heap.size ≤ rw b by omega) (.int .i64 x2)
  have kP : mblk (X3.setCell ⟨rw b, a, none⟩ (.int .i64 x2)) qs = some (.cells #[.int .i64 l, .int .i64 h] 23 (0, 0)) := by rw [blk_set _ _ _ _ (by show qs ≠ rw b; omega)]; exact kX3
  obtain ⟨Z3, hZ3⟩ : ∃ q, X3.setCell ⟨rw b, a, none⟩ (.int .i64 x2) = q := ⟨_, rfl⟩
  rw [hZ3] at MP UP kP
  try rw [hZ3]
  refine hK.out _ _ ?_
  clear hK K hZ3 zf c0 UX3 MX3 kX3
  refine doneG (by kernel_rfl) ?_ _
  refine S.nrm_intro ?_
  have HM := Lib.hid MP
  have HU := Lib.hid UP
  clear MP UP kP
  go_wp2
  go_end0
  exact ⟨rfl, by rw [HF.out]; exact HM.out, HU.out⟩
set_option maxRecDepth 100000 in
theorem r_person_any (w : World) {N : Nat} {k : Nat} (hN : N ≤ 8) (hk : k ≤ 10) : Calls Try.prog 68 #[BoV (N : Int) bl bh rl rh (.slice aP nP cP) (.slice aQ nQ cQ) (.slice aL nL cL), .int .i64 (k : Int)] w fun e w' => e = .returned (.int .i64 ((1 + N + k : Nat) : Int)) ∧ Up w w' := by
  have U := (Up.refl w).alloc (.cells (BoC (N : Int) bl bh rl rh (.slice aP nP cP) (.slice aQ nQ cQ) (.slice aL nL cL)) 27)
  have kB := blk_new w (.cells (BoC (N : Int) bl bh rl rh (.slice aP nP cP) (.slice aQ nQ cQ) (.slice aL nL cL)) 27) _ rfl
  have w3 : IntKind.i64.wrap (1 + (N : Int)) = 1 + (N : Int) := IntWalk.i64_in _ (by omega)
  have w4 : IntKind.i64.wrap (1 + (N : Int) + (k : Int)) = 1 + (N : Int) + (k : Int) := IntWalk.i64_in _ (by omega)
  rw [show ((1 + N + k : Nat) : Int) = 1 + (N : Int) + (k : Int) by omega]
  go_enter Try.func68, Try.ntmps68
  go_wp2
  go_ret
  exact ⟨rfl, U⟩
set_option maxRecDepth 100000 in
theorem r_path_any (w : World) {N : Nat} {k : Nat} (hN : N ≤ 8) (hp : nP ≤ 4) (hk : k ≤ 10) : Calls Try.prog 69 #[BoV (N : Int) bl bh rl rh (.slice aP nP cP) (.slice aQ nQ cQ) (.slice aL nL cL), .int .i64 (k : Int)] w fun e w' => e = .returned (.int .i64 ((1 + N + nP + k : Nat) : Int)) ∧ Up w w' := by
  have U := (Up.refl w).alloc (.cells (BoC (N : Int) bl bh rl rh (.slice aP nP cP) (.slice aQ nQ cQ) (.slice aL nL cL)) 27)
  have kB := blk_new w (.cells (BoC (N : Int) bl bh rl rh (.slice aP nP cP) (.slice aQ nQ cQ) (.slice aL nL cL)) 27) _ rfl
  have w3 : IntKind.i64.wrap (1 + (N : Int)) = 1 + (N : Int) := IntWalk.i64_in _ (by omega)
  have w4 : IntKind.i64.wrap (1 + (N : Int) + (nP : Int)) = 1 + (N : Int) + (nP : Int) := IntWalk.i64_in _ (by omega)
  have w5 : IntKind.i64.wrap (1 + (N : Int) + (nP : Int) + (k : Int)) = 1 + (N : Int) + (nP : Int) + (k : Int) := IntWalk.i64_in _ (by omega)
  rw [show ((1 + N + nP + k : Nat) : Int) = 1 + (N : Int) + (nP : Int) + (k : Int) by omega]
  go_enter Try.func69, Try.ntmps69
  go_wp2
  go_ret
  exact ⟨rfl, U⟩
set_option maxRecDepth 100000 in
set_option maxHeartbeats 4000000 in
set_option linter.unusedSimpArgs false in
theorem r_between_any {w : World} {g N a b : Nat} {rw : Nat → Nat} {M : T.Mt} (HM : T.Mx w g N rw M N) (ha : a < N) (hb : b < N) (hl : -1000000 ≤ M b a ∧ M b a ≤ 1000000) :
    Calls Try.prog 67 #[.slice (some ⟨g, 0, none⟩) N N, .int .i64 (a : Int), .int .i64 (b : Int)] w fun e w' => e = .returned (SpV (-(M b a)) (M a b)) ∧ Up w w' := by
  have hmx : Try.prog.follows .mixedOrders = true := by kernel_rfl
  have Z0 := (Up.refl w).alloc (.cells #[.int .i64 0, .int .i64 0] 23)
  have kS := blk_new w (.cells #[.int .i64 0, .int .i64 0] 23) _ rfl
  have M1 := HM.up Z0
  obtain ⟨m1, hm1⟩ : ∃ q, M b a = q := ⟨_, rfl⟩
  obtain ⟨m2, hm2⟩ : ∃ q, M a b = q := ⟨_, rfl⟩
  rw [hm1] at hl
  have wn : IntKind.i64.wrap (-m1) = -m1 := IntWalk.i64_in _ (by omega)
  have ia : (a : Int) < (N : Int) := by omega
  have ib : (b : Int) < (N : Int) := by omega
  have HTo := Lib.hid (fun l h w => B_To_any l h w)
  obtain ⟨qs, hqs⟩ : ∃ q, w.heap.size = q := ⟨_, rfl⟩
  obtain ⟨W1, hW1⟩ : ∃ q, w.alloc (.cells #[.int .i64 0, .int .i64 0] 23) = q := ⟨_, rfl⟩
  have HC := Lib.hid (show ∀ w', Up W1 w' → w'.cell? ⟨g, a, none⟩ = some (.slice (some ⟨rw a, 0, none⟩) N N) ∧ w'.cell? ⟨g, b, none⟩ = some (.slice (some ⟨rw b, 0, none⟩) N N) ∧ w'.cell? ⟨rw b, a, none⟩ = some (.int .i64 m1) ∧ w'.cell? ⟨rw a, b, none⟩ = some (.int .i64 m2) from fun w' u => by
    rw [hW1] at M1
    have q := M1.up u
    exact ⟨q.cell1 ha, q.cell1 hb, by rw [← hm1]; exact q.cell2 hb ha, by rw [← hm2]; exact q.cell2 ha hb⟩)
  have wl : w.heap.size ≤ qs := by omega
  rw [hW1] at Z0 kS
  rw [hqs] at kS
  have U := Z0
  rw [hm1, hm2]
  clear M1 HM hl hm1 hm2 Z0
  go_enter Try.func67, Try.ntmps67
  go_wp2_with fail
  try rw [hW1]
  try rw [hqs]
  clear hW1 hqs
  have F2 := Lib.hid (fun w (u : Up W1 w) => cellB (u.blk kS))
  refine (wpIn_wide (n := 5)).1 ?_
  refine wpIn_nrm ?_
  refine T.regionQ (fun w' => Up W1 w') 16 1 hmx (by kernel_rfl) (by kernel_rfl) ((Up.refl W1).drew) (fun hCl => ?_)
  refine T.qT 0 (some 7) ?v34 rfl rfl hCl ?hy34 (fun hCl => ?_)
  case hy34 => (intro w hSw; refine T.qVal ?_ hSw; (try dsimp only [List.getElem_toArray, List.getElem_cons_succ, List.getElem_cons_zero]); go_simp; try with_reducible rfl)
  simp only [Act.put, T.pa, T.pb, T.pc]
  refine T.qT 1 (some 8) ?v35 rfl rfl hCl ?hy35 (fun hCl => ?_)
  case hy35 => (intro w hSw; refine T.qVal ?_ hSw; (try dsimp only [List.getElem_toArray, List.getElem_cons_succ, List.getElem_cons_zero]); go_simp; try with_reducible rfl)
  simp only [Act.put, T.pa, T.pb, T.pc]
  refine T.qT 4 (some 11) ?v36 rfl rfl hCl ?hy36 (fun hCl => ?_)
  case hy36 => (intro w hSw; refine T.qVal ?_ hSw; (try dsimp only [List.getElem_toArray, List.getElem_cons_succ, List.getElem_cons_zero]); go_simp; try with_reducible rfl)
  simp only [Act.put, T.pa, T.pb, T.pc]
  refine T.qT 8 (some 15) ?v37 rfl rfl hCl ?hy37 (fun hCl => ?_)
  case hy37 => (intro w hSw; refine T.qVal ?_ hSw; (try dsimp only [List.getElem_toArray, List.getElem_cons_succ, List.getElem_cons_zero]); go_simp; try with_reducible rfl)
  simp only [Act.put, T.pa, T.pb, T.pc]
  refine T.qT 9 (some 16) ?v38 rfl rfl hCl ?hy38 (fun hCl => ?_)
  case hy38 => (intro w hSw; refine T.qVal ?_ hSw; (try dsimp only [List.getElem_toArray, List.getElem_cons_succ, List.getElem_cons_zero]); go_simp; try with_reducible rfl)
  simp only [Act.put, T.pa, T.pb, T.pc]
  refine T.qT 12 (some 19) ?v39 rfl rfl hCl ?hy39 (fun hCl => ?_)
  case hy39 => (intro w hSw; refine T.qVal ?_ hSw; (try dsimp only [List.getElem_toArray, List.getElem_cons_succ, List.getElem_cons_zero]); go_simp; try with_reducible rfl)
  simp only [Act.put, T.pa, T.pb, T.pc]
  refine T.qT 2 (some 9) ?v40 rfl rfl hCl ?hy40 (fun hCl => ?_)
  case hy40 => (intro w hSw; refine T.qVal ?_ hSw; (try dsimp only [List.getElem_toArray, List.getElem_cons_succ, List.getElem_cons_zero]); go_simp; try with_reducible rfl)
  simp only [Act.put, T.pa, T.pb, T.pc]
  refine T.qT 10 (some 17) ?v41 rfl rfl hCl ?hy41 (fun hCl => ?_)
  case hy41 => (intro w hSw; refine T.qVal ?_ hSw; (try dsimp only [List.getElem_toArray, List.getElem_cons_succ, List.getElem_cons_zero]); go_simp; try with_reducible rfl)
  simp only [Act.put, T.pa, T.pb, T.pc]
  refine T.qT 3 (some 10) ?v42 rfl rfl hCl ?hy42 (fun hCl => ?_)
  case hy42 => (intro w hSw; refine T.qVal ?_ hSw; (have fF2 := F2.out w hSw; obtain ⟨t1, t2, t3, t4⟩ := HC.out w hSw); (try dsimp only [List.getElem_toArray, List.getElem_cons_succ, List.getElem_cons_zero]); go_simp; try with_reducible rfl)
  simp only [Act.put, T.pa, T.pb, T.pc]
  refine T.qT 11 (some 18) ?v43 rfl rfl hCl ?hy43 (fun hCl => ?_)
  case hy43 => (intro w hSw; refine T.qVal ?_ hSw; (have fF2 := F2.out w hSw; obtain ⟨t1, t2, t3, t4⟩ := HC.out w hSw); (try dsimp only [List.getElem_toArray, List.getElem_cons_succ, List.getElem_cons_zero]); go_simp; try with_reducible rfl)
  simp only [Act.put, T.pa, T.pb, T.pc]
  refine T.qT 5 (some 12) ?v44 rfl rfl hCl ?hy44 (fun hCl => ?_)
  case hy44 => (intro w hSw; refine T.qVal ?_ hSw; (try dsimp only [List.getElem_toArray, List.getElem_cons_succ, List.getElem_cons_zero]); go_simp; try with_reducible rfl)
  simp only [Act.put, T.pa, T.pb, T.pc]
  refine T.qT 13 (some 20) ?v45 rfl rfl hCl ?hy45 (fun hCl => ?_)
  case hy45 => (intro w hSw; refine T.qVal ?_ hSw; (try dsimp only [List.getElem_toArray, List.getElem_cons_succ, List.getElem_cons_zero]); go_simp; try with_reducible rfl)
  simp only [Act.put, T.pa, T.pb, T.pc]
  refine T.qT 6 (some 13) ?v46 rfl rfl hCl ?hy46 (fun hCl => ?_)
  case hy46 => (intro w hSw; refine T.qVal ?_ hSw; (have fF2 := F2.out w hSw; obtain ⟨t1, t2, t3, t4⟩ := HC.out w hSw); (try dsimp only [List.getElem_toArray, List.getElem_cons_succ, List.getElem_cons_zero]); go_simp; try with_reducible rfl)
  simp only [Act.put, T.pa, T.pb, T.pc]
  refine T.qT 14 (some 21) ?v47 rfl rfl hCl ?hy47 (fun hCl => ?_)
  case hy47 => (intro w hSw; refine T.qVal ?_ hSw; (have fF2 := F2.out w hSw; obtain ⟨t1, t2, t3, t4⟩ := HC.out w hSw); (try dsimp only [List.getElem_toArray, List.getElem_cons_succ, List.getElem_cons_zero]); go_simp; try with_reducible rfl)
  simp only [Act.put, T.pa, T.pb, T.pc]
  refine T.qT 7 (some 14) ?v48 rfl rfl hCl ?hy48 (fun hCl => ?_)
  case hy48 => (intro w hSw; refine T.qVal ?_ hSw; (try dsimp only [List.getElem_toArray, List.getElem_cons_succ, List.getElem_cons_zero]); go_simp; try with_reducible rfl)
  simp only [Act.put, T.pa, T.pb, T.pc]
  refine T.qT 15 (some 22) ((SpV (-m1) m2)) rfl rfl hCl ?hy49 (fun hCl => ?_)
  case hy49 => (intro w hSw; (have fF2 := F2.out w hSw; obtain ⟨t1, t2, t3, t4⟩ := HC.out w hSw); (try dsimp only [List.getElem_toArray, List.getElem_cons_succ, List.getElem_cons_zero]); go_simp; (refine (callsIn_wide.2 (HTo.out _ _ w)).mono ?_; rintro e w3 ⟨rfl, u3⟩; exact ⟨rfl, hSw.trans u3⟩))
  simp only [Act.put, T.pa, T.pb, T.pc]
  refine T.tail_intro (by kernel_rfl) (fun Y1 hY1 => ?_)
  have zg := frozB (hY1.blk kS)
  have kx := hY1.blk kS
  clear HC
  replace U := U.trans hY1
  replace kS := hY1.blk kS
  clear F2 hY1
  refine lastG (i := 16) (by kernel_rfl) rfl (by rfl) (by decide) (fun K hK => ?_)
  go_simp
  refine hK.out _ _ ?_
  clear hK K
  refine doneG (by kernel_rfl) ?_ _
  refine S.nrm_intro ?_
  have kP : mblk ((Y1.setCell ⟨qs, 0, none⟩ (.int .i64 (-m1))).setCell ⟨qs, 1, none⟩ (.int .i64 m2)) qs = some (.cells #[.int .i64 (-m1), .int .i64 m2] 23 (0, 0)) := blk_put (blk_put kS 0 _) 1 _
  have UP := (U.set (p := ⟨qs, 0, none⟩) wl (.int .i64 (-m1))).set (p := ⟨qs, 1, none⟩) wl (.int .i64 m2)
  have HP := Lib.hid kP
  have HU := Lib.hid UP
  clear kP UP U kS zg kx
  go_wp2_with fail
  have cc := cellB HP.out
  exact bodyPost_ret (v := SpV (-m1) m2) (by simp [results, Try.results67, go_sem, cc]) rfl ⟨rfl, HU.out⟩
end

end Go.Proofs.Ytlpkheoljbdajaa

/- The contract of the reference's said. -/
namespace Go.Proofs.Ytlpkheoljbdajaa
open Go.RowKit Go.Shelf
attribute [local go_sem] Oper.semAt_some
section
variable {bl bh rl rh : Int} {aP aQ aL : Option Addr} {nP cP nQ cQ nL cL : Nat} {ps qs : List (Int × Int)} {ls : List T.T5}
set_option maxRecDepth 100000 in
set_option maxHeartbeats 8000000 in
set_option linter.unusedSimpArgs false in
theorem r_said_any {N : Nat} {w : World} (I : Sps w (.slice aP nP cP) ps) (J : Sps w (.slice aQ nQ cQ) qs) (K : Lks w (.slice aL nL cL) ls) (hv : T.valid (N : Int) bl bh rl rh ps qs ls = true) {z : Nat} (hz : z < 1024) :
    Calls Try.prog 77 #[BoV (N : Int) bl bh rl rh (.slice aP nP cP) (.slice aQ nQ cQ) (.slice aL nL cL), .int .i64 (z : Int)] w fun e w' => (∃ (g D : Nat) (rw : Nat → Nat) (M : T.Mt), D = 1 + N + ps.length + qs.length ∧ e = .returned (.slice (some ⟨g, 0, none⟩) D D) ∧ T.Mx w' g D rw M D ∧ (∀ c, c < D → w.heap.size ≤ rw c) ∧ T.Ini D (T.rE N N (ps.length + qs.length)) M (T.rC N ps.length bl bh rl rh ps qs ls z N ps.length qs.length ls.length)) ∧ Up w w' := by
  obtain ⟨⟨hN, hB, hR⟩, ⟨h4, h5, h10⟩, hP, hQ, hL⟩ := T.valid_parts hv
  have hn := I.len
  have hno := J.len
  have hnp := K.len
  subst hn hno hnp
  have hmx : Try.prog.follows .mixedOrders = true := by kernel_rfl
  obtain ⟨D, hD⟩ : ∃ D, 1 + N + ps.length + qs.length = D := ⟨_, rfl⟩
  have N8 : N ≤ 8 := by omega
  have N1 : 1 ≤ N := by omega
  have hD17 : D ≤ 17 := by omega
  have HDD := Lib.hid hD
  have HPa := Lib.hid (fun w => show Calls Try.prog 69 #[BoV (N : Int) bl bh rl rh (.slice aP ps.length cP) (.slice aQ qs.length cQ) (.slice aL ls.length cL), .int .i64 (qs.length : Int)] w fun e w' => e = .returned (.int .i64 (D : Int)) ∧ Up w w' by rw [← hD]; exact r_path_any w N8 h4 (by omega))
  have HPP := Lib.hid (fun x (hx : x ∈ ps) => (S.spanOk_iff.1 (hP x hx) : -2000 ≤ x.1 ∧ x.1 ≤ x.2 ∧ x.2 ≤ 2000))
  have HQQ := Lib.hid (fun x (hx : x ∈ qs) => (S.spanOk_iff.1 (hQ x hx) : 0 ≤ x.1 ∧ x.1 ≤ x.2 ∧ x.2 ≤ 5000))
  have HV := Lib.hid hv
  have HBR := Lib.hid (And.intro hB hR)
  obtain ⟨zT, hzT, hmkT⟩ : ∃ zT : Array Value, zT.size = D ∧ ∀ w : World, (Instr.makeSlice 101 (.int .i64 (D : Int)) (.int .i64 (D : Int))).run Try.prog w = .ok (.slice (some ⟨w.heap.size, 0, none⟩) D D) (w.alloc (.cells zT 28)) := ⟨madeCells (Value.cells (.slice none 0 0)) (D * 1), T.zsize _ _, fun w => by
    obtain ⟨i0, hi, hz0, hz1, hz2⟩ := info_parts infoInts
    have := run_make (P := Try.prog) w 101 28 i0 (.slice none 0 0) Try.underlying101 hi hz0 .i64 .i64 (D : Int) (D : Int) (by omega) (Int.le_refl _) (by rw [hz2]; omega) (by omega)
    rw [hz1, Int.toNat_natCast] at this
    exact this⟩
  obtain ⟨zI, hzI, hzC, hmkI⟩ : ∃ zI : Array Value, zI.size = D ∧ (∀ b, b < D → zI[b]? = some (.int .i64 0)) ∧ ∀ w : World, (Instr.makeSlice 28 (.int .i64 (D : Int)) (.int .i64 (D : Int))).run Try.prog w = .ok (.slice (some ⟨w.heap.size, 0, none⟩) D D) (w.alloc (.cells zI 3)) := ⟨madeCells (Value.cells (.int .i64 0)) (D * 1), T.zsize _ _, T.zcell D, fun w => by
    obtain ⟨i0, hi, hz0, hz1, hz2⟩ := info_parts Try.infoInt
    have := run_make (P := Try.prog) w 28 3 i0 (.int .i64 0) Try.underlying28 hi hz0 .i64 .i64 (D : Int) (D : Int) (by omega) (Int.le_refl _) (by rw [hz2]; omega) (by omega)
    rw [hz1, Int.toNat_natCast] at this
    exact this⟩
  have HZ := Lib.hid (And.intro hzI hzC)
  obtain ⟨q0, e0⟩ : ∃ x, w.heap.size = x := ⟨_, rfl⟩
  have U0 := (Up.refl w).alloc (.cells (BoC (N : Int) bl bh rl rh (.slice aP ps.length cP) (.slice aQ qs.length cQ) (.slice aL ls.length cL)) 27)
  have kC0 := blk_new w (.cells (BoC (N : Int) bl bh rl rh (.slice aP ps.length cP) (.slice aQ qs.length cQ) (.slice aL ls.length cL)) 27) q0 e0.symm
  have HI0 := I.up U0
  have HJ0 := J.up U0
  have HK0 := K.up U0
  have D2 : 2 ≤ D := by omega
  have l4 : ps.length ≤ 4 := h4
  have l5 : qs.length ≤ 4 := h5
  have l10 : ls.length ≤ 10 := h10
  clear I J K hv hN hB hR h4 h5 h10 hP hQ hL hzI hzC hD
  go_enter Try.func77, Try.ntmps77
  go_wp2_with fail
  refine (HPa.out _).mono ?_
  rintro e W1 ⟨rfl, u1⟩
  have UW := U0.trans u1
  have kC1 := u1.blk kC0
  have HI := Lib.hid (HI0.up u1)
  have HJ := Lib.hid (HJ0.up u1)
  have HK := Lib.hid (HK0.up u1)
  clear u1 HPa HI0 HJ0 HK0 U0 kC0
  obtain ⟨g, hg⟩ : ∃ x, W1.heap.size = x := ⟨_, rfl⟩
  obtain ⟨W2, hW2⟩ : ∃ x, W1.alloc (.cells zT 28) = x := ⟨_, rfl⟩
  have V := (Up.refl W1).alloc (.cells zT 28)
  have kG := blk_new W1 (.cells zT 28) g hg.symm
  have HM := Lib.hid (show T.Mx (W1.alloc (.cells zT 28)) g D (fun _ => 0) T.mt0 0 from ⟨⟨zT, kG, hzT, fun a ha => absurd ha (Nat.not_lt_zero a)⟩, fun a ha => absurd ha (Nat.not_lt_zero a), fun a b ha => absurd ha (Nat.not_lt_zero a)⟩)
  have hgW : W1.heap.size ≤ g := by omega
  rw [hW2] at V HM
  clear kG hzT
  go_wp2_with fail
  try rw [hg]
  try rw [hW2]
  clear hW2 hg hmkT
  go_loopw [7] (fun i wr => ∃ (k : Nat) (rw : Nat → Nat), k ≤ D ∧ i = .int .i64 k ∧ Up W1 wr ∧ Hid (T.Mx wr g D rw T.mt0 k) ∧ Hid (∀ a, a < k → W1.heap.size ≤ rw a)) (fun i _ => D - (intOf i).toNat)
  case atStart => exact ⟨0, _, Nat.zero_le _, rfl, V, HM, Lib.hid (fun a ha => absurd ha (Nat.not_lt_zero a))⟩
  case round =>
    clear V HM
    obtain ⟨k, rw, hk, rfl, V, HM, HRW⟩ := hrel
    by_cases hlt : k < D
    · skip
      have d1 : decide ((k : Int) < (D : Int)) = true := decide_eq_true (by omega)
      have ilt : (k : Int) < (D : Int) := by omega
      have ek : IntKind.i64.wrap ((k : Int) + 1) = (k : Int) + 1 := IntWalk.i64_in _ (by omega)
      obtain ⟨v0, cg⟩ := HM.out.cellG hlt
      have lg : g < wr.heap.size := by obtain ⟨cs, h1, _⟩ := HM.out.top; exact blk_lt h1
      have cg2 := (Up.refl wr).alloc (.cells zI 3) |>.cell2 cg
      have zg := (HM.out.up ((Up.refl wr).alloc (.cells zI 3))).frozG k
      have zg' := HM.out.frozG k
      obtain ⟨rw2, hrw2⟩ : ∃ f, (fun a => if a = k then wr.heap.size else rw a) = f := ⟨_, rfl⟩
      have HMa := Lib.hid (show T.Mx ((wr.alloc (.cells zI 3)).setCell ⟨g, k, none⟩ (.slice (some ⟨wr.heap.size, 0, none⟩) D D)) g D rw2 (T.mtk k 0) (k + 1) by
        rw [← hrw2]
        exact (HM.out.up ((Up.refl wr).alloc (.cells zI 3))).add hlt (blk_new wr _ _ rfl) HZ.out.1 (fun b hb => by rw [T.mtk_self k b]; exact HZ.out.2 b hb) (fun a ha => by have := HM.out.lt ha; omega) (fun a b ha _ => T.mtk_0 k a b ha))
      have HRW2 := Lib.hid (show ∀ a, a < k + 1 → W1.heap.size ≤ rw2 a from fun a ha => by
        rw [← hrw2]
        by_cases e : a = k
        · simp only [e, if_true]
          exact V.size
        · simp only [e, if_false]
          exact HRW.out a (by omega))
      have Va := (V.alloc (.cells zI 3)).set (p := ⟨g, k, none⟩) (show W1.heap.size ≤ g from hgW) (.slice (some ⟨wr.heap.size, 0, none⟩) D D)
      clear hrw2 HM HRW
      go_wp2_with fail
      have hcom := World.setCell_alloc_past (w := wr) (.cells zI 3) g k (.slice (some ⟨wr.heap.size, 0, none⟩) D D) lg
      rw [hcom] at HMa Va
      try rw [hcom]
      obtain ⟨Wa, hWa⟩ : ∃ z, (wr.setCell ⟨g, k, none⟩ (.slice (some ⟨wr.heap.size, 0, none⟩) D D)).alloc (.cells zI 3) = z := ⟨_, rfl⟩
      rw [hWa] at HMa Va
      try rw [hWa]
      clear hWa hcom zg zg' cg cg2 V
      go_loopw [8] (fun i wr => ∃ (b : Nat), b ≤ D ∧ i = .int .i64 b ∧ Up W1 wr ∧ Hid (T.Mx wr g D rw2 (T.mtk k b) (k + 1))) (fun i _ => D - (intOf i).toNat)
      case atStart => exact ⟨0, Nat.zero_le _, rfl, Va, HMa⟩
      case round =>
        clear Va HMa
        obtain ⟨b, hb, rfl, V, HM⟩ := hrel
        have c1 := HM.out.cell1 (show k < k + 1 by omega)
        by_cases hlt2 : b < D
        · have d2 : decide ((b : Int) < (D : Int)) = true := decide_eq_true (by omega)
          have ilt2 : (b : Int) < (D : Int) := by omega
          have eb : IntKind.i64.wrap ((b : Int) + 1) = (b : Int) + 1 := IntWalk.i64_in _ (by omega)
          have c2 := HM.out.cell2 (show k < k + 1 by omega) hlt2
          have zf := HM.out.froz (show k < k + 1 by omega) b
          have hr := HRW2.out k (by omega)
          have HM2 := Lib.hid ((HM.out.put (b := b) (show k < k + 1 by omega) 1073741824).congr (M' := T.mtk k (b + 1)) (fun x y _ _ => T.mtk_put x y))
          have V2 := V.set (p := ⟨rw2 k, b, none⟩) (show W1.heap.size ≤ rw2 k by omega) (.int .i64 1073741824)
          clear HM V
          go_wp2_with fail
          go_roundw
          case rel => exact ⟨b + 1, by omega, by go_num, V2, HM2⟩
          case measure => (simp only [intOf]; omega)
        · have hbD : D = b := by omega
          subst hbD
          have d2 : decide ((D : Int) < (D : Int)) = false := decide_eq_false (by omega)
          have c2 := HM.out.cell2 (show k < k + 1 by omega) hlt
          have zf := HM.out.froz (show k < k + 1 by omega) k
          have hr := HRW2.out k (by omega)
          have HM2 := Lib.hid ((HM.out.put (b := k) (show k < k + 1 by omega) 0).congr (M' := T.mt0) (fun x y _ hy => T.mtk_end hy))
          have V2 := V.set (p := ⟨rw2 k, k, none⟩) (show W1.heap.size ≤ rw2 k by omega) (.int .i64 0)
          clear HM V
          go_wp2_with fail
          go_roundw
          case rel => exact ⟨k + 1, rw2, by omega, by go_num, V2, HM2, HRW2⟩
          case measure => (simp only [intOf]; omega)
    · skip
      have hkD : D = k := by omega
      subst hkD
      have d1 : decide ((D : Int) < (D : Int)) = false := decide_eq_false (by omega)
      clear hmkI HZ
      have HSy := Lib.hid (fun (wr : World) (V : Up W1 wr) (M : T.Mt) (HM : T.Mx wr g D rw M D) (a b : Nat) (ha : a < D) (hb : b < D) (hab : a ≠ b) (l h : Int) (hl : -1000000 ≤ l ∧ l ≤ 1000000) => r_say_any V HM HRW.out ha hb hab (h := h) hl)
      have kC := V.blk kC1
      go_wp2_with fail
      refine (HSy.out _ V _ HM.out 0 1 (by omega) (by omega) (by omega) _ _ (by have := HBR.out; omega)).mono ?_
      rintro e x1 ⟨rfl, HM1, V1⟩
      have HIn := Lib.hid (T.ini_beg (N := N) (D := D) (bl := bl) (bh := bh) (rl := rl) (rh := rh) (ps := ps) (qs := qs) (ls := ls) (z := z) (by omega) HBR.out.1)
      clear V HM kC hk hlt
      have kC := V1.blk kC1
      go_wp2_with fail
      clear kC
      go_loopw [9] (fun i wr => ∃ (j : Nat) (M : T.Mt), 1 ≤ j ∧ j ≤ N ∧ i = .int .i64 j ∧ Up W1 wr ∧ T.Mx wr g D rw M D ∧ Hid (T.Ini D (T.rE N j 0) M (T.rC N ps.length bl bh rl rh ps qs ls z j 0 0 0))) (fun i _ => N - (intOf i).toNat)
      case atStart => exact ⟨1, _, Nat.le_refl _, N1, rfl, V1, HM1, HIn⟩
      case round =>
        clear V1 HM1 HIn
        obtain ⟨j, M, hj1, hj, rfl, V, HM, HIn⟩ := hrel
        have kC := V.blk kC1
        by_cases hlt : j < N
        · skip
          have d3 : decide ((j : Int) < (N : Int)) = true := decide_eq_true (by omega)
          have ilt3 : (j : Int) < (N : Int) := by omega
          obtain ⟨j1, hj1'⟩ : ∃ q, j + 1 = q := ⟨_, rfl⟩
          have ec : IntKind.i64.wrap ((j : Int) + 1) = (j1 : Int) := by rw [show (j : Int) + 1 = (j1 : Int) by omega]; exact IntWalk.i64_in _ (by omega)
          have HI2 := Lib.hid (T.ini_night HIn.out hj1 (by have := HDD.out; omega) HBR.out.2)
          rw [hj1'] at HI2
          have lj : j < D := by have := HDD.out; omega
          have lj1 : j1 < D := by have := HDD.out; omega
          have nj : j ≠ j1 := by omega
          clear HIn
          go_wp2_with fail
          refine (HSy.out _ V _ HM j j1 lj lj1 nj _ _ (by have := HBR.out; omega)).mono ?_
          rintro e x2 ⟨rfl, HM2, V2⟩
          clear V HM kC lj lj1 nj
          go_wp2_with fail
          go_roundw
          case rel => exact ⟨j1, _, by omega, by omega, by go_num, V2, HM2, HI2⟩
          case measure => (simp only [intOf]; omega)
        · skip
          have hjN : N = j := by omega
          subst hjN
          have d3 : decide ((N : Int) < (N : Int)) = false := decide_eq_false (by omega)
          go_wp2_with fail
          clear kC
          go_loopw [10] (fun i wr => ∃ (j : Nat) (M : T.Mt), j ≤ ps.length ∧ i = .int .i64 j ∧ Up W1 wr ∧ T.Mx wr g D rw M D ∧ Hid (T.Ini D (T.rE N N j) M (T.rC N ps.length bl bh rl rh ps qs ls z N j 0 0))) (fun i _ => ps.length - (intOf i).toNat)
          case atStart => exact ⟨0, _, Nat.zero_le _, rfl, V, HM, HIn⟩
          case round =>
            clear V HM HIn
            obtain ⟨j, M, hj, rfl, V, HM, HIn⟩ := hrel
            have kC := V.blk kC1
            by_cases hlt : j < ps.length
            · skip
              have d4 : decide ((j : Int) < (ps.length : Int)) = true := decide_eq_true (by omega)
              have ilt4 : (j : Int) < (ps.length : Int) := by omega
              have ej : IntKind.i64.wrap ((j : Int) + 1) = (j : Int) + 1 := IntWalk.i64_in _ (by omega)
              obtain ⟨a', c', e', _, _, hm⟩ := HI.out.is
              injection e' with ea eb ec'
              clear eb ec'
              obtain ⟨gE, oE, ga, gl, hx⟩ := hm (by omega)
              subst ea ga
              clear hm
              obtain ⟨⟨r0, r1⟩, hss⟩ : ∃ s, ps.getD j (0, 0) = s := ⟨_, rfl⟩
              have cc0 : wr.cell? ⟨gE, oE + j * 2, none⟩ = some (.int .i64 r0) := by have := Up.cell2 V (hx j hlt 0 (by omega)); rw [hss] at this; exact this
              have cc1 : wr.cell? ⟨gE, oE + j * 2 + 1, none⟩ = some (.int .i64 r1) := by have := Up.cell2 V (hx j hlt 1 (by omega)); rw [hss] at this; exact this
              clear hx gl
              have hb := HPP.out (ps.getD j (0, 0)) (T.getD_mem hlt)
              rw [hss] at hb
              dsimp only at hb
              obtain ⟨A, hA⟩ : ∃ A, 1 + N + j = A := ⟨_, rfl⟩
              have lA : A < D := by have := HDD.out; omega
              have nA : A ≠ 0 := by omega
              have HI2 := Lib.hid (T.ini_per HIn.out (by omega) hss hb)
              rw [hA] at HI2
              have HPe := Lib.hid (fun w => show Calls Try.prog 68 #[BoV (N : Int) bl bh rl rh (.slice (some ⟨gE, oE, none⟩) ps.length cP) (.slice aQ qs.length cQ) (.slice aL ls.length cL), .int .i64 (j : Int)] w fun e w' => e = .returned (.int .i64 (A : Int)) ∧ Up w w' by rw [← hA]; exact r_person_any w N8 (by omega))
              clear HIn hss hA
              go_wp2_with fail
              have F102 := Lib.hid (fun w (u : Up wr w) => cellB (u.blk kC))
              refine (wpIn_wide (n := 5)).1 ?_
              refine wpIn_nrm ?_
              refine T.regionQ (fun w' => Up wr w') 9 1 hmx (by kernel_rfl) (by kernel_rfl) ((Up.refl wr).drew) (fun hCl => ?_)
              refine T.qT 0 (some 73) ?v50 rfl rfl hCl ?hy50 (fun hCl => ?_)
              case hy50 => (intro w hSw; refine T.qVal ?_ hSw; (try dsimp only [List.getElem_toArray, List.getElem_cons_succ, List.getElem_cons_zero]); go_simp; try with_reducible rfl)
              simp only [Act.put, T.pa, T.pb, T.pc]
              refine T.qT 1 (some 74) ?v51 rfl rfl hCl ?hy51 (fun hCl => ?_)
              case hy51 => (intro w hSw; refine T.qVal ?_ hSw; (have fF102 := F102.out w hSw; have fc0 := hSw.cell2 cc0; have fc1 := hSw.cell2 cc1); (try dsimp only [List.getElem_toArray, List.getElem_cons_succ, List.getElem_cons_zero]); go_simp; try with_reducible rfl)
              simp only [Act.put, T.pa, T.pb, T.pc]
              refine T.qT 2 (some 75) ?v52 rfl rfl hCl ?hy52 (fun hCl => ?_)
              case hy52 => (intro w hSw; refine T.qVal ?_ hSw; (try dsimp only [List.getElem_toArray, List.getElem_cons_succ, List.getElem_cons_zero]); go_simp; try with_reducible rfl)
              simp only [Act.put, T.pa, T.pb, T.pc]
              refine T.qT 4 (some 77) ?v53 rfl rfl hCl ?hy53 (fun hCl => ?_)
              case hy53 => (intro w hSw; refine T.qVal ?_ hSw; (try dsimp only [List.getElem_toArray, List.getElem_cons_succ, List.getElem_cons_zero]); go_simp; try with_reducible rfl)
              simp only [Act.put, T.pa, T.pb, T.pc]
              refine T.qT 6 (some 79) ?v54 rfl rfl hCl ?hy54 (fun hCl => ?_)
              case hy54 => (intro w hSw; refine T.qVal ?_ hSw; (try dsimp only [List.getElem_toArray, List.getElem_cons_succ, List.getElem_cons_zero]); go_simp; try with_reducible rfl)
              simp only [Act.put, T.pa, T.pb, T.pc]
              refine T.qT 5 (some 78) ?v55 rfl rfl hCl ?hy55 (fun hCl => ?_)
              case hy55 => (intro w hSw; refine T.qVal ?_ hSw; (have fF102 := F102.out w hSw; have fc0 := hSw.cell2 cc0; have fc1 := hSw.cell2 cc1); (try dsimp only [List.getElem_toArray, List.getElem_cons_succ, List.getElem_cons_zero]); go_simp; try with_reducible rfl)
              simp only [Act.put, T.pa, T.pb, T.pc]
              refine T.qT 7 (some 80) ?v56 rfl rfl hCl ?hy56 (fun hCl => ?_)
              case hy56 => (intro w hSw; refine T.qVal ?_ hSw; (try dsimp only [List.getElem_toArray, List.getElem_cons_succ, List.getElem_cons_zero]); go_simp; try with_reducible rfl)
              simp only [Act.put, T.pa, T.pb, T.pc]
              refine T.qT 8 (some 81) ?v57 rfl rfl hCl ?hy57 (fun hCl => ?_)
              case hy57 => (intro w hSw; refine T.qVal ?_ hSw; (have fF102 := F102.out w hSw; have fc0 := hSw.cell2 cc0; have fc1 := hSw.cell2 cc1); (try dsimp only [List.getElem_toArray, List.getElem_cons_succ, List.getElem_cons_zero]); go_simp; try with_reducible rfl)
              simp only [Act.put, T.pa, T.pb, T.pc]
              refine T.qT 3 (some 76) ((.int .i64 (A : Int))) rfl rfl hCl ?hy58 (fun hCl => ?_)
              case hy58 => (intro w hSw; (have fF102 := F102.out w hSw; have fc0 := hSw.cell2 cc0; have fc1 := hSw.cell2 cc1); (try dsimp only [List.getElem_toArray, List.getElem_cons_succ, List.getElem_cons_zero]); go_simp; (refine (callsIn_wide.2 (HPe.out w)).mono ?_; rintro e w3 ⟨rfl, u3⟩; exact ⟨rfl, hSw.trans u3⟩))
              simp only [Act.put, T.pa, T.pb, T.pc]
              refine T.tail_intro (by kernel_rfl) (fun Y101 hY101 => ?_)
              have cc0' := hY101.cell2 cc0
              have cc1' := hY101.cell2 cc1
              clear cc0 cc1 HPe
              replace V := V.trans hY101
              replace kC := hY101.blk kC
              replace HM := HM.up hY101
              clear F102 hY101
              refine lastG (i := 9) (by kernel_rfl) rfl (by rfl) (by decide) (fun K hK => ?_)
              go_simp
              refine ⟨trivial, (callsIn_wide.2 (HSy.out _ V _ HM A 0 (by omega) (by omega) (by omega) _ _ (by omega))).mono ?_⟩
              rintro e x9 ⟨rfl, HM2, V2⟩
              refine hK.out _ _ ?_
              clear hK K
              refine doneG (by kernel_rfl) ?_ _
              refine S.nrm_intro ?_
              clear V HM kC cc0' cc1'
              go_wp2_with fail
              go_roundw
              case rel => exact ⟨j + 1, _, by omega, by go_num, V2, HM2, HI2⟩
              case measure => (simp only [intOf]; omega)
            · skip
              have hjP : ps.length = j := by omega
              subst hjP
              have d4 : decide ((ps.length : Int) < (ps.length : Int)) = false := decide_eq_false (by omega)
              go_wp2_with fail
              clear kC
              go_loopw [11] (fun i wr => ∃ (j : Nat) (M : T.Mt), j ≤ qs.length ∧ i = .int .i64 j ∧ Up W1 wr ∧ T.Mx wr g D rw M D ∧ Hid (T.Ini D (T.rE N N (ps.length + j)) M (T.rC N ps.length bl bh rl rh ps qs ls z N ps.length j 0))) (fun i _ => qs.length - (intOf i).toNat)
              case atStart => exact ⟨0, _, Nat.zero_le _, rfl, V, HM, HIn⟩
              case round =>
                clear V HM HIn
                obtain ⟨j, M, hj, rfl, V, HM, HIn⟩ := hrel
                have kC := V.blk kC1
                by_cases hlt : j < qs.length
                · skip
                  have d4 : decide ((j : Int) < (qs.length : Int)) = true := decide_eq_true (by omega)
                  have ilt4 : (j : Int) < (qs.length : Int) := by omega
                  have ej : IntKind.i64.wrap ((j : Int) + 1) = (j : Int) + 1 := IntWalk.i64_in _ (by omega)
                  obtain ⟨a', c', e', _, _, hm⟩ := HJ.out.is
                  injection e' with ea eb ec'
                  clear eb ec'
                  obtain ⟨gE, oE, ga, gl, hx⟩ := hm (by omega)
                  subst ea ga
                  clear hm
                  obtain ⟨⟨r0, r1⟩, hss⟩ : ∃ s, qs.getD j (0, 0) = s := ⟨_, rfl⟩
                  have cc0 : wr.cell? ⟨gE, oE + j * 2, none⟩ = some (.int .i64 r0) := by have := Up.cell2 V (hx j hlt 0 (by omega)); rw [hss] at this; exact this
                  have cc1 : wr.cell? ⟨gE, oE + j * 2 + 1, none⟩ = some (.int .i64 r1) := by have := Up.cell2 V (hx j hlt 1 (by omega)); rw [hss] at this; exact this
                  clear hx gl
                  have hb := HQQ.out (qs.getD j (0, 0)) (T.getD_mem hlt)
                  rw [hss] at hb
                  dsimp only at hb
                  obtain ⟨A, hA⟩ : ∃ A, 1 + N + ps.length + j = A := ⟨_, rfl⟩
                  have lA : A < D := by have := HDD.out; omega
                  have nA : A ≠ 0 := by omega
                  have HI2 := Lib.hid (T.ini_pth HIn.out (by omega) hss hb)
                  rw [hA] at HI2
                  have HPe := Lib.hid (fun w => show Calls Try.prog 69 #[BoV (N : Int) bl bh rl rh (.slice aP ps.length cP) (.slice (some ⟨gE, oE, none⟩) qs.length cQ) (.slice aL ls.length cL), .int .i64 (j : Int)] w fun e w' => e = .returned (.int .i64 (A : Int)) ∧ Up w w' by rw [← hA]; exact r_path_any w N8 l4 (by omega))
                  clear HIn hss hA
                  go_wp2_with fail
                  have F112 := Lib.hid (fun w (u : Up wr w) => cellB (u.blk kC))
                  refine (wpIn_wide (n := 5)).1 ?_
                  refine wpIn_nrm ?_
                  refine T.regionQ (fun w' => Up wr w') 9 1 hmx (by kernel_rfl) (by kernel_rfl) ((Up.refl wr).drew) (fun hCl => ?_)
                  refine T.qT 0 (some 90) ?v59 rfl rfl hCl ?hy59 (fun hCl => ?_)
                  case hy59 => (intro w hSw; refine T.qVal ?_ hSw; (try dsimp only [List.getElem_toArray, List.getElem_cons_succ, List.getElem_cons_zero]); go_simp; try with_reducible rfl)
                  simp only [Act.put, T.pa, T.pb, T.pc]
                  refine T.qT 1 (some 91) ?v60 rfl rfl hCl ?hy60 (fun hCl => ?_)
                  case hy60 => (intro w hSw; refine T.qVal ?_ hSw; (have fF112 := F112.out w hSw; have fc0 := hSw.cell2 cc0; have fc1 := hSw.cell2 cc1); (try dsimp only [List.getElem_toArray, List.getElem_cons_succ, List.getElem_cons_zero]); go_simp; try with_reducible rfl)
                  simp only [Act.put, T.pa, T.pb, T.pc]
                  refine T.qT 2 (some 92) ?v61 rfl rfl hCl ?hy61 (fun hCl => ?_)
                  case hy61 => (intro w hSw; refine T.qVal ?_ hSw; (try dsimp only [List.getElem_toArray, List.getElem_cons_succ, List.getElem_cons_zero]); go_simp; try with_reducible rfl)
                  simp only [Act.put, T.pa, T.pb, T.pc]
                  refine T.qT 4 (some 94) ?v62 rfl rfl hCl ?hy62 (fun hCl => ?_)
                  case hy62 => (intro w hSw; refine T.qVal ?_ hSw; (try dsimp only [List.getElem_toArray, List.getElem_cons_succ, List.getElem_cons_zero]); go_simp; try with_reducible rfl)
                  simp only [Act.put, T.pa, T.pb, T.pc]
                  refine T.qT 6 (some 96) ?v63 rfl rfl hCl ?hy63 (fun hCl => ?_)
                  case hy63 => (intro w hSw; refine T.qVal ?_ hSw; (try dsimp only [List.getElem_toArray, List.getElem_cons_succ, List.getElem_cons_zero]); go_simp; try with_reducible rfl)
                  simp only [Act.put, T.pa, T.pb, T.pc]
                  refine T.qT 5 (some 95) ?v64 rfl rfl hCl ?hy64 (fun hCl => ?_)
                  case hy64 => (intro w hSw; refine T.qVal ?_ hSw; (have fF112 := F112.out w hSw; have fc0 := hSw.cell2 cc0; have fc1 := hSw.cell2 cc1); (try dsimp only [List.getElem_toArray, List.getElem_cons_succ, List.getElem_cons_zero]); go_simp; try with_reducible rfl)
                  simp only [Act.put, T.pa, T.pb, T.pc]
                  refine T.qT 7 (some 97) ?v65 rfl rfl hCl ?hy65 (fun hCl => ?_)
                  case hy65 => (intro w hSw; refine T.qVal ?_ hSw; (try dsimp only [List.getElem_toArray, List.getElem_cons_succ, List.getElem_cons_zero]); go_simp; try with_reducible rfl)
                  simp only [Act.put, T.pa, T.pb, T.pc]
                  refine T.qT 8 (some 98) ?v66 rfl rfl hCl ?hy66 (fun hCl => ?_)
                  case hy66 => (intro w hSw; refine T.qVal ?_ hSw; (have fF112 := F112.out w hSw; have fc0 := hSw.cell2 cc0; have fc1 := hSw.cell2 cc1); (try dsimp only [List.getElem_toArray, List.getElem_cons_succ, List.getElem_cons_zero]); go_simp; try with_reducible rfl)
                  simp only [Act.put, T.pa, T.pb, T.pc]
                  refine T.qT 3 (some 93) ((.int .i64 (A : Int))) rfl rfl hCl ?hy67 (fun hCl => ?_)
                  case hy67 => (intro w hSw; (have fF112 := F112.out w hSw; have fc0 := hSw.cell2 cc0; have fc1 := hSw.cell2 cc1); (try dsimp only [List.getElem_toArray, List.getElem_cons_succ, List.getElem_cons_zero]); go_simp; (refine (callsIn_wide.2 (HPe.out w)).mono ?_; rintro e w3 ⟨rfl, u3⟩; exact ⟨rfl, hSw.trans u3⟩))
                  simp only [Act.put, T.pa, T.pb, T.pc]
                  refine T.tail_intro (by kernel_rfl) (fun Y111 hY111 => ?_)
                  have cc0' := hY111.cell2 cc0
                  have cc1' := hY111.cell2 cc1
                  clear cc0 cc1 HPe
                  replace V := V.trans hY111
                  replace kC := hY111.blk kC
                  replace HM := HM.up hY111
                  clear F112 hY111
                  refine lastG (i := 9) (by kernel_rfl) rfl (by rfl) (by decide) (fun K hK => ?_)
                  go_simp
                  refine ⟨trivial, (callsIn_wide.2 (HSy.out _ V _ HM 0 A (by omega) (by omega) (by omega) _ _ (by omega))).mono ?_⟩
                  rintro e x9 ⟨rfl, HM2, V2⟩
                  refine hK.out _ _ ?_
                  clear hK K
                  refine doneG (by kernel_rfl) ?_ _
                  refine S.nrm_intro ?_
                  clear V HM kC cc0' cc1'
                  go_wp2_with fail
                  go_roundw
                  case rel => exact ⟨j + 1, _, by omega, by go_num, V2, HM2, HI2⟩
                  case measure => (simp only [intOf]; omega)
                · skip
                  have hjQ : qs.length = j := by omega
                  subst hjQ
                  have d5 : decide ((qs.length : Int) < (qs.length : Int)) = false := decide_eq_false (by omega)
                  go_wp2_with fail
                  clear kC
                  go_loopw [12] (fun i wr => ∃ (j : Nat) (M : T.Mt), j ≤ ls.length ∧ i = .int .i64 j ∧ Up W1 wr ∧ T.Mx wr g D rw M D ∧ Hid (T.Ini D (T.rE N N (ps.length + qs.length)) M (T.rC N ps.length bl bh rl rh ps qs ls z N ps.length qs.length j))) (fun i _ => ls.length - (intOf i).toNat)
                  case atStart => exact ⟨0, _, Nat.zero_le _, rfl, V, HM, HIn⟩
                  case round =>
                    clear V HM HIn
                    obtain ⟨j, M, hj, rfl, V, HM, HIn⟩ := hrel
                    have kC := V.blk kC1
                    by_cases hlt : j < ls.length
                    · skip
                      have d6 : decide ((j : Int) < (ls.length : Int)) = true := decide_eq_true (by omega)
                      have ilt6 : (j : Int) < (ls.length : Int) := by omega
                      have ej : IntKind.i64.wrap ((j : Int) + 1) = (j : Int) + 1 := IntWalk.i64_in _ (by omega)
                      obtain ⟨n, wh, kd, r3, r4, hpl, hn, hkd, hr, he⟩ := T.look_pl HV.out hlt
                      obtain ⟨a', c', e', _, _, hm⟩ := HK.out.is
                      injection e' with ea eb ec'
                      clear eb ec'
                      obtain ⟨gE, oE, ga, gl, hx⟩ := hm (by omega)
                      subst ea ga
                      clear hm
                      obtain ⟨⟨r0, r1, r2, r3', r4'⟩, hss⟩ : ∃ s, ls.getD j (0, 0, 0, 0, 0) = s := ⟨_, rfl⟩
                      have cc0 : wr.cell? ⟨gE, oE + j * 5, none⟩ = some (.int .i64 r0) := by have := Up.cell2 V (hx j hlt 0 (by omega)); rw [hss] at this; exact this
                      have cc1 : wr.cell? ⟨gE, oE + j * 5 + 1, none⟩ = some (.int .i64 r1) := by have := Up.cell2 V (hx j hlt 1 (by omega)); rw [hss] at this; exact this
                      have cc2 : wr.cell? ⟨gE, oE + j * 5 + 2, none⟩ = some (.int .i64 r2) := by have := Up.cell2 V (hx j hlt 2 (by omega)); rw [hss] at this; exact this
                      have cc3 : wr.cell? ⟨gE, oE + j * 5 + 3, none⟩ = some (.int .i64 r3') := by have := Up.cell2 V (hx j hlt 3 (by omega)); rw [hss] at this; exact this
                      have cc4 : wr.cell? ⟨gE, oE + j * 5 + 4, none⟩ = some (.int .i64 r4') := by have := Up.cell2 V (hx j hlt 4 (by omega)); rw [hss] at this; exact this
                      clear hx gl
                      rw [hpl] at hss
                      injection hss with x0 hss
                      injection hss with x1 hss
                      injection hss with x2 hss
                      injection hss with x3 x4
                      subst x0 x1 x2 x3 x4
                      obtain ⟨A, hA⟩ : ∃ A, 1 + N + wh = A := ⟨_, rfl⟩
                      obtain ⟨n1, hn1⟩ : ∃ q, 1 + n = q := ⟨_, rfl⟩
                      have en1 : IntKind.i64.wrap (1 + (n : Int)) = (n1 : Int) := by rw [show 1 + (n : Int) = (n1 : Int) by omega]; exact IntWalk.i64_in _ (by omega)
                      have es : IntKind.i64.wrap (r3 - r4) = r3 - r4 := IntWalk.i64_in _ (by omega)
                      have ea : IntKind.i64.wrap (r3 + r4) = r3 + r4 := IntWalk.i64_in _ (by omega)
                      have HTo := Lib.hid (fun l h w => B_To_any l h w)
                      have HIb := Lib.hid (fun w => B_In_any z j (by omega) (by omega) w)
                      have HPL := Lib.hid hpl
                      have HPe := Lib.hid (fun w => show Calls Try.prog 68 #[BoV (N : Int) bl bh rl rh (.slice aP ps.length cP) (.slice aQ qs.length cQ) (.slice (some ⟨gE, oE, none⟩) ls.length cL), .int .i64 (wh : Int)] w fun e w' => e = .returned (.int .i64 (A : Int)) ∧ Up w w' by rw [← hA]; exact r_person_any w N8 (by omega))
                      rcases hkd with ⟨rfl, hw⟩ | ⟨rfl, hw⟩
                      · skip
                        have ik := kC
                        have dkCkX := blk_lt kC
                        have gkX := V.size
                        have kX := blk_new wr (.cells #[.int .i64 (n : Int), .int .i64 0, .int .i64 (wh : Int), .int .i64 r3, .int .i64 r4] 63) _ rfl
                        replace kC := blk_keep (.cells #[.int .i64 (n : Int), .int .i64 0, .int .i64 (wh : Int), .int .i64 r3, .int .i64 r4] 63) kC
                        replace V := V.alloc (.cells #[.int .i64 (n : Int), .int .i64 0, .int .i64 (wh : Int), .int .i64 r3, .int .i64 r4] 63)
                        replace HM := HM.up ((Up.refl wr).alloc (.cells #[.int .i64 (n : Int), .int .i64 0, .int .i64 (wh : Int), .int .i64 r3, .int .i64 r4] 63))
                        obtain ⟨pkX, hpkX⟩ : ∃ z, wr.heap.size = z := ⟨_, rfl⟩
                        obtain ⟨W321, hW321⟩ : ∃ z, wr.alloc (.cells #[.int .i64 (n : Int), .int .i64 0, .int .i64 (wh : Int), .int .i64 r3, .int .i64 r4] 63) = z := ⟨_, rfl⟩
                        rw [hpkX] at kX dkCkX gkX
                        rw [hW321] at kX V kC HM
                        skip
                        go_wp2_with fail
                        try rw [hW321]
                        try rw [hpkX]
                        clear hW321 hpkX ik cc0 cc1 cc2 cc3 cc4
                        refine (HPe.out _).mono ?_
                        rintro e x322 ⟨rfl, u323⟩
                        replace V := V.trans u323
                        replace kC := u323.blk kC
                        replace kX := u323.blk kX
                        replace HM := HM.up u323
                        clear u323 HPe
                        have lA : A < D := by have := HDD.out; omega
                        have ln : n1 < D := by have := HDD.out; omega
                        have nA : A ≠ n1 := by omega
                        have hrf : T.rfr N ps.length ((n : Int), 0, (wh : Int), r3, r4) = A := by rw [← hA]; exact if_neg (show ¬ (0 : Int) = 1 by decide)
                        have HRF := Lib.hid hrf
                        clear hrf
                        go_wp2_with fail
                        refine (HIb.out _).mono ?_
                        rintro e x324 ⟨rfl, rfl⟩
                        clear HIb
                        cases hzb : z.testBit j with
                        | true =>
                          have HI2 := Lib.hid (T.ini_skip HIn.out hzb)
                          clear HIn hzb
                          go_wp2_with fail
                          go_roundw
                          case rel => exact ⟨j + 1, _, by omega, by go_num, V, HM, HI2⟩
                          case measure => (simp only [intOf]; omega)
                        | false =>
                          have HI2 := Lib.hid (T.ini_look HIn.out HPL.out HRF.out hzb lA (by omega) (by omega) hr he)
                          rw [hn1] at HI2
                          clear HIn hzb
                          go_wp2_with fail
                          have F336 := Lib.hid (fun w (u : Up x322 w) => cellB (u.blk kC))
                          have F337 := Lib.hid (fun w (u : Up x322 w) => cellB (u.blk kX))
                          refine (wpIn_wide (n := 5)).1 ?_
                          refine wpIn_nrm ?_
                          refine T.regionQ (fun w' => Up x322 w') 16 1 hmx (by kernel_rfl) (by kernel_rfl) ((Up.refl x322).drew) (fun hCl => ?_)
                          refine T.qT 0 (some 127) ?v68 rfl rfl hCl ?hy68 (fun hCl => ?_)
                          case hy68 => (intro w hSw; refine T.qVal ?_ hSw; (try dsimp only [List.getElem_toArray, List.getElem_cons_succ, List.getElem_cons_zero]); go_simp; try with_reducible rfl)
                          simp only [Act.put, T.pa, T.pb, T.pc]
                          refine T.qT 1 (some 128) ?v69 rfl rfl hCl ?hy69 (fun hCl => ?_)
                          case hy69 => (intro w hSw; refine T.qVal ?_ hSw; (try dsimp only [List.getElem_toArray, List.getElem_cons_succ, List.getElem_cons_zero]); go_simp; try with_reducible rfl)
                          simp only [Act.put, T.pa, T.pb, T.pc]
                          refine T.qT 2 (some 129) ?v70 rfl rfl hCl ?hy70 (fun hCl => ?_)
                          case hy70 => (intro w hSw; refine T.qVal ?_ hSw; (try dsimp only [List.getElem_toArray, List.getElem_cons_succ, List.getElem_cons_zero]); go_simp; try with_reducible rfl)
                          simp only [Act.put, T.pa, T.pb, T.pc]
                          refine T.qT 5 (some 132) ?v71 rfl rfl hCl ?hy71 (fun hCl => ?_)
                          case hy71 => (intro w hSw; refine T.qVal ?_ hSw; (try dsimp only [List.getElem_toArray, List.getElem_cons_succ, List.getElem_cons_zero]); go_simp; try with_reducible rfl)
                          simp only [Act.put, T.pa, T.pb, T.pc]
                          refine T.qT 7 (some 134) ?v72 rfl rfl hCl ?hy72 (fun hCl => ?_)
                          case hy72 => (intro w hSw; refine T.qVal ?_ hSw; (try dsimp only [List.getElem_toArray, List.getElem_cons_succ, List.getElem_cons_zero]); go_simp; try with_reducible rfl)
                          simp only [Act.put, T.pa, T.pb, T.pc]
                          refine T.qT 10 (some 137) ?v73 rfl rfl hCl ?hy73 (fun hCl => ?_)
                          case hy73 => (intro w hSw; refine T.qVal ?_ hSw; (try dsimp only [List.getElem_toArray, List.getElem_cons_succ, List.getElem_cons_zero]); go_simp; try with_reducible rfl)
                          simp only [Act.put, T.pa, T.pb, T.pc]
                          refine T.qT 12 (some 139) ?v74 rfl rfl hCl ?hy74 (fun hCl => ?_)
                          case hy74 => (intro w hSw; refine T.qVal ?_ hSw; (try dsimp only [List.getElem_toArray, List.getElem_cons_succ, List.getElem_cons_zero]); go_simp; try with_reducible rfl)
                          simp only [Act.put, T.pa, T.pb, T.pc]
                          refine T.qT 3 (some 130) ?v75 rfl rfl hCl ?hy75 (fun hCl => ?_)
                          case hy75 => (intro w hSw; refine T.qVal ?_ hSw; (have fF336 := F336.out w hSw; have fF337 := F337.out w hSw); (try dsimp only [List.getElem_toArray, List.getElem_cons_succ, List.getElem_cons_zero]); go_simp; try with_reducible rfl)
                          simp only [Act.put, T.pa, T.pb, T.pc]
                          refine T.qT 6 (some 133) ?v76 rfl rfl hCl ?hy76 (fun hCl => ?_)
                          case hy76 => (intro w hSw; refine T.qVal ?_ hSw; (have fF336 := F336.out w hSw; have fF337 := F337.out w hSw); (try dsimp only [List.getElem_toArray, List.getElem_cons_succ, List.getElem_cons_zero]); go_simp; try with_reducible rfl)
                          simp only [Act.put, T.pa, T.pb, T.pc]
                          refine T.qT 8 (some 135) ?v77 rfl rfl hCl ?hy77 (fun hCl => ?_)
                          case hy77 => (intro w hSw; refine T.qVal ?_ hSw; (have fF336 := F336.out w hSw; have fF337 := F337.out w hSw); (try dsimp only [List.getElem_toArray, List.getElem_cons_succ, List.getElem_cons_zero]); go_simp; try with_reducible rfl)
                          simp only [Act.put, T.pa, T.pb, T.pc]
                          refine T.qT 11 (some 138) ?v78 rfl rfl hCl ?hy78 (fun hCl => ?_)
                          case hy78 => (intro w hSw; refine T.qVal ?_ hSw; (have fF336 := F336.out w hSw; have fF337 := F337.out w hSw); (try dsimp only [List.getElem_toArray, List.getElem_cons_succ, List.getElem_cons_zero]); go_simp; try with_reducible rfl)
                          simp only [Act.put, T.pa, T.pb, T.pc]
                          refine T.qT 13 (some 140) ?v79 rfl rfl hCl ?hy79 (fun hCl => ?_)
                          case hy79 => (intro w hSw; refine T.qVal ?_ hSw; (have fF336 := F336.out w hSw; have fF337 := F337.out w hSw); (try dsimp only [List.getElem_toArray, List.getElem_cons_succ, List.getElem_cons_zero]); go_simp; try with_reducible rfl)
                          simp only [Act.put, T.pa, T.pb, T.pc]
                          refine T.qT 4 (some 131) ?v80 rfl rfl hCl ?hy80 (fun hCl => ?_)
                          case hy80 => (intro w hSw; refine T.qVal ?_ hSw; (try dsimp only [List.getElem_toArray, List.getElem_cons_succ, List.getElem_cons_zero]); go_simp; try with_reducible rfl)
                          simp only [Act.put, T.pa, T.pb, T.pc]
                          refine T.qT 9 (some 136) ?v81 rfl rfl hCl ?hy81 (fun hCl => ?_)
                          case hy81 => (intro w hSw; refine T.qVal ?_ hSw; (try dsimp only [List.getElem_toArray, List.getElem_cons_succ, List.getElem_cons_zero]); go_simp; try with_reducible rfl)
                          simp only [Act.put, T.pa, T.pb, T.pc]
                          refine T.qT 14 (some 141) ?v82 rfl rfl hCl ?hy82 (fun hCl => ?_)
                          case hy82 => (intro w hSw; refine T.qVal ?_ hSw; (try dsimp only [List.getElem_toArray, List.getElem_cons_succ, List.getElem_cons_zero]); go_simp; try with_reducible rfl)
                          simp only [Act.put, T.pa, T.pb, T.pc]
                          refine T.qT 15 (some 142) ((SpV (r3 - r4) (r3 + r4))) rfl rfl hCl ?hy83 (fun hCl => ?_)
                          case hy83 => (intro w hSw; (have fF336 := F336.out w hSw; have fF337 := F337.out w hSw); (try dsimp only [List.getElem_toArray, List.getElem_cons_succ, List.getElem_cons_zero]); go_simp; (refine (callsIn_wide.2 (HTo.out _ _ w)).mono ?_; rintro e w3 ⟨rfl, u3⟩; exact ⟨rfl, hSw.trans u3⟩))
                          simp only [Act.put, T.pa, T.pb, T.pc]
                          refine T.tail_intro (by kernel_rfl) (fun Y335 hY335 => ?_)
                          replace V := V.trans hY335
                          replace kC := hY335.blk kC
                          replace kX := hY335.blk kX
                          replace HM := HM.up hY335
                          clear F336 F337 hY335
                          refine lastG (i := 16) (by kernel_rfl) rfl (by rfl) (by decide) (fun K hK => ?_)
                          go_simp
                          refine ⟨trivial, (callsIn_wide.2 (HSy.out _ V _ HM A n1 lA ln nA _ _ (by omega))).mono ?_⟩
                          rintro e x9 ⟨rfl, HM2, V2⟩
                          refine hK.out _ _ ?_
                          clear hK K
                          refine doneG (by kernel_rfl) ?_ _
                          refine S.nrm_intro ?_
                          clear V HM kC kX
                          go_wp2_with fail
                          go_roundw
                          case rel => exact ⟨j + 1, _, by omega, by go_num, V2, HM2, HI2⟩
                          case measure => (simp only [intOf]; omega)
                      · skip
                        have ik := kC
                        have dkCkX := blk_lt kC
                        have gkX := V.size
                        have kX := blk_new wr (.cells #[.int .i64 (n : Int), .int .i64 1, .int .i64 (wh : Int), .int .i64 r3, .int .i64 r4] 63) _ rfl
                        replace kC := blk_keep (.cells #[.int .i64 (n : Int), .int .i64 1, .int .i64 (wh : Int), .int .i64 r3, .int .i64 r4] 63) kC
                        replace V := V.alloc (.cells #[.int .i64 (n : Int), .int .i64 1, .int .i64 (wh : Int), .int .i64 r3, .int .i64 r4] 63)
                        replace HM := HM.up ((Up.refl wr).alloc (.cells #[.int .i64 (n : Int), .int .i64 1, .int .i64 (wh : Int), .int .i64 r3, .int .i64 r4] 63))
                        obtain ⟨pkX, hpkX⟩ : ∃ z, wr.heap.size = z := ⟨_, rfl⟩
                        obtain ⟨W361, hW361⟩ : ∃ z, wr.alloc (.cells #[.int .i64 (n : Int), .int .i64 1, .int .i64 (wh : Int), .int .i64 r3, .int .i64 r4] 63) = z := ⟨_, rfl⟩
                        rw [hpkX] at kX dkCkX gkX
                        rw [hW361] at kX V kC HM
                        skip
                        go_wp2_with fail
                        try rw [hW361]
                        try rw [hpkX]
                        clear hW361 hpkX ik cc0 cc1 cc2 cc3 cc4
                        refine (HPe.out _).mono ?_
                        rintro e x362 ⟨rfl, u363⟩
                        replace V := V.trans u363
                        replace kC := u363.blk kC
                        replace kX := u363.blk kX
                        replace HM := HM.up u363
                        clear u363 HPe
                        obtain ⟨A2, hA2⟩ : ∃ A, 1 + N + ps.length + wh = A := ⟨_, rfl⟩
                        have HPq := Lib.hid (fun w => show Calls Try.prog 69 #[BoV (N : Int) bl bh rl rh (.slice aP ps.length cP) (.slice aQ qs.length cQ) (.slice (some ⟨gE, oE, none⟩) ls.length cL), .int .i64 (wh : Int)] w fun e w' => e = .returned (.int .i64 (A2 : Int)) ∧ Up w w' by rw [← hA2]; exact r_path_any w N8 l4 (by omega))
                        go_wp2_with fail
                        refine (HPq.out _).mono ?_
                        rintro e x364 ⟨rfl, u365⟩
                        replace V := V.trans u365
                        replace kC := u365.blk kC
                        replace kX := u365.blk kX
                        replace HM := HM.up u365
                        clear u365 HPq
                        clear hA
                        have hA := hA2
                        clear hA2
                        have lA : A2 < D := by have := HDD.out; omega
                        have ln : n1 < D := by have := HDD.out; omega
                        have nA : A2 ≠ n1 := by omega
                        have hrf : T.rfr N ps.length ((n : Int), 1, (wh : Int), r3, r4) = A2 := by rw [← hA]; exact if_pos rfl
                        have HRF := Lib.hid hrf
                        clear hrf
                        go_wp2_with fail
                        refine (HIb.out _).mono ?_
                        rintro e x366 ⟨rfl, rfl⟩
                        clear HIb
                        cases hzb : z.testBit j with
                        | true =>
                          have HI2 := Lib.hid (T.ini_skip HIn.out hzb)
                          clear HIn hzb
                          go_wp2_with fail
                          go_roundw
                          case rel => exact ⟨j + 1, _, by omega, by go_num, V, HM, HI2⟩
                          case measure => (simp only [intOf]; omega)
                        | false =>
                          have HI2 := Lib.hid (T.ini_look HIn.out HPL.out HRF.out hzb lA (by omega) (by omega) hr he)
                          rw [hn1] at HI2
                          clear HIn hzb
                          go_wp2_with fail
                          have F378 := Lib.hid (fun w (u : Up x364 w) => cellB (u.blk kC))
                          have F379 := Lib.hid (fun w (u : Up x364 w) => cellB (u.blk kX))
                          refine (wpIn_wide (n := 5)).1 ?_
                          refine wpIn_nrm ?_
                          refine T.regionQ (fun w' => Up x364 w') 16 1 hmx (by kernel_rfl) (by kernel_rfl) ((Up.refl x364).drew) (fun hCl => ?_)
                          refine T.qT 0 (some 127) ?v84 rfl rfl hCl ?hy84 (fun hCl => ?_)
                          case hy84 => (intro w hSw; refine T.qVal ?_ hSw; (try dsimp only [List.getElem_toArray, List.getElem_cons_succ, List.getElem_cons_zero]); go_simp; try with_reducible rfl)
                          simp only [Act.put, T.pa, T.pb, T.pc]
                          refine T.qT 1 (some 128) ?v85 rfl rfl hCl ?hy85 (fun hCl => ?_)
                          case hy85 => (intro w hSw; refine T.qVal ?_ hSw; (try dsimp only [List.getElem_toArray, List.getElem_cons_succ, List.getElem_cons_zero]); go_simp; try with_reducible rfl)
                          simp only [Act.put, T.pa, T.pb, T.pc]
                          refine T.qT 2 (some 129) ?v86 rfl rfl hCl ?hy86 (fun hCl => ?_)
                          case hy86 => (intro w hSw; refine T.qVal ?_ hSw; (try dsimp only [List.getElem_toArray, List.getElem_cons_succ, List.getElem_cons_zero]); go_simp; try with_reducible rfl)
                          simp only [Act.put, T.pa, T.pb, T.pc]
                          refine T.qT 5 (some 132) ?v87 rfl rfl hCl ?hy87 (fun hCl => ?_)
                          case hy87 => (intro w hSw; refine T.qVal ?_ hSw; (try dsimp only [List.getElem_toArray, List.getElem_cons_succ, List.getElem_cons_zero]); go_simp; try with_reducible rfl)
                          simp only [Act.put, T.pa, T.pb, T.pc]
                          refine T.qT 7 (some 134) ?v88 rfl rfl hCl ?hy88 (fun hCl => ?_)
                          case hy88 => (intro w hSw; refine T.qVal ?_ hSw; (try dsimp only [List.getElem_toArray, List.getElem_cons_succ, List.getElem_cons_zero]); go_simp; try with_reducible rfl)
                          simp only [Act.put, T.pa, T.pb, T.pc]
                          refine T.qT 10 (some 137) ?v89 rfl rfl hCl ?hy89 (fun hCl => ?_)
                          case hy89 => (intro w hSw; refine T.qVal ?_ hSw; (try dsimp only [List.getElem_toArray, List.getElem_cons_succ, List.getElem_cons_zero]); go_simp; try with_reducible rfl)
                          simp only [Act.put, T.pa, T.pb, T.pc]
                          refine T.qT 12 (some 139) ?v90 rfl rfl hCl ?hy90 (fun hCl => ?_)
                          case hy90 => (intro w hSw; refine T.qVal ?_ hSw; (try dsimp only [List.getElem_toArray, List.getElem_cons_succ, List.getElem_cons_zero]); go_simp; try with_reducible rfl)
                          simp only [Act.put, T.pa, T.pb, T.pc]
                          refine T.qT 3 (some 130) ?v91 rfl rfl hCl ?hy91 (fun hCl => ?_)
                          case hy91 => (intro w hSw; refine T.qVal ?_ hSw; (have fF378 := F378.out w hSw; have fF379 := F379.out w hSw); (try dsimp only [List.getElem_toArray, List.getElem_cons_succ, List.getElem_cons_zero]); go_simp; try with_reducible rfl)
                          simp only [Act.put, T.pa, T.pb, T.pc]
                          refine T.qT 6 (some 133) ?v92 rfl rfl hCl ?hy92 (fun hCl => ?_)
                          case hy92 => (intro w hSw; refine T.qVal ?_ hSw; (have fF378 := F378.out w hSw; have fF379 := F379.out w hSw); (try dsimp only [List.getElem_toArray, List.getElem_cons_succ, List.getElem_cons_zero]); go_simp; try with_reducible rfl)
                          simp only [Act.put, T.pa, T.pb, T.pc]
                          refine T.qT 8 (some 135) ?v93 rfl rfl hCl ?hy93 (fun hCl => ?_)
                          case hy93 => (intro w hSw; refine T.qVal ?_ hSw; (have fF378 := F378.out w hSw; have fF379 := F379.out w hSw); (try dsimp only [List.getElem_toArray, List.getElem_cons_succ, List.getElem_cons_zero]); go_simp; try with_reducible rfl)
                          simp only [Act.put, T.pa, T.pb, T.pc]
                          refine T.qT 11 (some 138) ?v94 rfl rfl hCl ?hy94 (fun hCl => ?_)
                          case hy94 => (intro w hSw; refine T.qVal ?_ hSw; (have fF378 := F378.out w hSw; have fF379 := F379.out w hSw); (try dsimp only [List.getElem_toArray, List.getElem_cons_succ, List.getElem_cons_zero]); go_simp; try with_reducible rfl)
                          simp only [Act.put, T.pa, T.pb, T.pc]
                          refine T.qT 13 (some 140) ?v95 rfl rfl hCl ?hy95 (fun hCl => ?_)
                          case hy95 => (intro w hSw; refine T.qVal ?_ hSw; (have fF378 := F378.out w hSw; have fF379 := F379.out w hSw); (try dsimp only [List.getElem_toArray, List.getElem_cons_succ, List.getElem_cons_zero]); go_simp; try with_reducible rfl)
                          simp only [Act.put, T.pa, T.pb, T.pc]
                          refine T.qT 4 (some 131) ?v96 rfl rfl hCl ?hy96 (fun hCl => ?_)
                          case hy96 => (intro w hSw; refine T.qVal ?_ hSw; (try dsimp only [List.getElem_toArray, List.getElem_cons_succ, List.getElem_cons_zero]); go_simp; try with_reducible rfl)
                          simp only [Act.put, T.pa, T.pb, T.pc]
                          refine T.qT 9 (some 136) ?v97 rfl rfl hCl ?hy97 (fun hCl => ?_)
                          case hy97 => (intro w hSw; refine T.qVal ?_ hSw; (try dsimp only [List.getElem_toArray, List.getElem_cons_succ, List.getElem_cons_zero]); go_simp; try with_reducible rfl)
                          simp only [Act.put, T.pa, T.pb, T.pc]
                          refine T.qT 14 (some 141) ?v98 rfl rfl hCl ?hy98 (fun hCl => ?_)
                          case hy98 => (intro w hSw; refine T.qVal ?_ hSw; (try dsimp only [List.getElem_toArray, List.getElem_cons_succ, List.getElem_cons_zero]); go_simp; try with_reducible rfl)
                          simp only [Act.put, T.pa, T.pb, T.pc]
                          refine T.qT 15 (some 142) ((SpV (r3 - r4) (r3 + r4))) rfl rfl hCl ?hy99 (fun hCl => ?_)
                          case hy99 => (intro w hSw; (have fF378 := F378.out w hSw; have fF379 := F379.out w hSw); (try dsimp only [List.getElem_toArray, List.getElem_cons_succ, List.getElem_cons_zero]); go_simp; (refine (callsIn_wide.2 (HTo.out _ _ w)).mono ?_; rintro e w3 ⟨rfl, u3⟩; exact ⟨rfl, hSw.trans u3⟩))
                          simp only [Act.put, T.pa, T.pb, T.pc]
                          refine T.tail_intro (by kernel_rfl) (fun Y377 hY377 => ?_)
                          replace V := V.trans hY377
                          replace kC := hY377.blk kC
                          replace kX := hY377.blk kX
                          replace HM := HM.up hY377
                          clear F378 F379 hY377
                          refine lastG (i := 16) (by kernel_rfl) rfl (by rfl) (by decide) (fun K hK => ?_)
                          go_simp
                          refine ⟨trivial, (callsIn_wide.2 (HSy.out _ V _ HM A2 n1 lA ln nA _ _ (by omega))).mono ?_⟩
                          rintro e x9 ⟨rfl, HM2, V2⟩
                          refine hK.out _ _ ?_
                          clear hK K
                          refine doneG (by kernel_rfl) ?_ _
                          refine S.nrm_intro ?_
                          clear V HM kC kX
                          go_wp2_with fail
                          go_roundw
                          case rel => exact ⟨j + 1, _, by omega, by go_num, V2, HM2, HI2⟩
                          case measure => (simp only [intOf]; omega)
                    · skip
                      have hjL : ls.length = j := by omega
                      subst hjL
                      have d6 : decide ((ls.length : Int) < (ls.length : Int)) = false := decide_eq_false (by omega)
                      have HU := Lib.hid (UW.trans V)
                      have HFin := Lib.hid (And.intro HM (And.intro (fun c (hc : c < D) => Nat.le_trans UW.size (HRW.out c hc)) HIn.out))
                      clear V HM HIn
                      go_wp2
                      go_ret
                      exact ⟨⟨g, D, rw, M, HDD.out.symm, rfl, HFin.out.1, HFin.out.2.1, HFin.out.2.2⟩, HU.out⟩
end

end Go.Proofs.Ytlpkheoljbdajaa

/- The contract of the reference's closed. -/
namespace Go.Proofs.Ytlpkheoljbdajaa
open Go.RowKit Go.Shelf
attribute [local go_sem] Oper.semAt_some
section
variable {bl bh rl rh : Int} {aP aQ aL : Option Addr} {nP cP nQ cQ nL cL : Nat} {ps qs : List (Int × Int)} {ls : List T.T5}
set_option maxRecDepth 100000 in
set_option maxHeartbeats 8000000 in
set_option linter.unusedSimpArgs false in
theorem r_closed_any {w0 w : World} {g n N : Nat} {rw : Nat → Nat} {M : T.Mt} {E : Nat → Nat → Prop} {F : (Nat → Int) → Prop} (U : Up w0 w) (HM : T.Mx w g n rw M n) (hr : ∀ c, c < n → w0.heap.size ≤ rw c) (C : T.Con n N E) (HS : T.St n E F 0 M) :
    Calls Try.prog 76 #[.slice (some ⟨g, 0, none⟩) n n] w fun e w' => ((∃ M', e = .returned (.bool true) ∧ T.Mx w' g n rw M' n ∧ T.St n E F n M' ∧ ∀ x, x < n → 0 ≤ M' x x) ∨ (e = .returned (.bool false) ∧ ∀ y, ¬ F y)) ∧ Up w0 w' := by
  have hmx : Try.prog.follows .mixedOrders = true := by kernel_rfl
  have n17 : n ≤ 17 := C.n17
  have HC := Lib.hid C
  have HR := Lib.hid hr
  have HST := Lib.hid HS
  clear C hr HS
  go_enter Try.func76, Try.ntmps76
  go_wp2_with fail
  go_loopw [4] (fun i wr => ∃ (p : Nat) (M : T.Mt), p ≤ n ∧ i = .int .i64 p ∧ Up w0 wr ∧ T.Mx wr g n rw M n ∧ Hid (T.St n E F p M)) (fun i _ => n - (intOf i).toNat)
  case atStart => exact ⟨0, M, Nat.zero_le _, rfl, U, HM, HST⟩
  case round =>
    clear U HM HST
    obtain ⟨p, M, hp, rfl, U, HM, HST⟩ := hrel
    by_cases hp6 : p < n
    · have d6 : decide ((p : Int) < (n : Int)) = true := decide_eq_true (by omega)
      have i6 : (p : Int) < (n : Int) := by omega
      have e6 : IntKind.i64.wrap ((p : Int) + 1) = (p : Int) + 1 := IntWalk.i64_in _ (by omega)
      have HS0 := Lib.hid HST.out.start
      clear HST
      go_wp2_with fail
      go_loopw [5] (fun i wr => ∃ (a : Nat) (M : T.Mt), a ≤ n ∧ i = .int .i64 a ∧ Up w0 wr ∧ T.Mx wr g n rw M n ∧ Hid (T.SM n E F p a 0 M)) (fun i _ => n - (intOf i).toNat)
      case atStart => exact ⟨0, M, Nat.zero_le _, rfl, U, HM, HS0⟩
      case round =>
        clear U HM HS0
        obtain ⟨a, M, ha, rfl, U, HM, HS0⟩ := hrel
        by_cases hp7 : a < n
        · have d7 : decide ((a : Int) < (n : Int)) = true := decide_eq_true (by omega)
          have i7 : (a : Int) < (n : Int) := by omega
          have e7 : IntKind.i64.wrap ((a : Int) + 1) = (a : Int) + 1 := IntWalk.i64_in _ (by omega)
          have c1 := HM.cell1 hp7
          go_wp2_with fail
          clear c1
          go_loopw [7] (fun i wr => ∃ (b : Nat) (M : T.Mt), b ≤ n ∧ i = .int .i64 b ∧ Up w0 wr ∧ T.Mx wr g n rw M n ∧ Hid (T.SM n E F p a b M)) (fun i _ => n - (intOf i).toNat)
          case atStart => exact ⟨0, M, Nat.zero_le _, rfl, U, HM, HS0⟩
          case round =>
            clear U HM HS0
            obtain ⟨b, M, hb, rfl, U, HM, HS0⟩ := hrel
            by_cases hp8 : b < n
            · have d8 : decide ((b : Int) < (n : Int)) = true := decide_eq_true (by omega)
              have i8 : (b : Int) < (n : Int) := by omega
              have e8 : IntKind.i64.wrap ((b : Int) + 1) = (b : Int) + 1 := IntWalk.i64_in _ (by omega)
              obtain ⟨m2, hm2⟩ : ∃ q, M a p = q := ⟨_, rfl⟩
              have z4 := HM.cell2 hp7 hp6
              rw [hm2] at z4
              by_cases hs : m2 < 1073741824
              · have ds : decide (m2 < 1073741824) = true := decide_eq_true hs
                obtain ⟨m3, hm3⟩ : ∃ q, M p b = q := ⟨_, rfl⟩
                have z2 := HM.cell1 hp6
                have z5 := HM.cell2 hp6 hp8
                rw [hm3] at z5
                by_cases ht : m3 < 1073741824
                · have dt : decide (m3 < 1073741824) = true := decide_eq_true ht
                  obtain ⟨m1, hm1⟩ : ∃ q, M a b = q := ⟨_, rfl⟩
                  obtain ⟨sm, hsm⟩ : ∃ q, IntKind.i64.wrap (m2 + m3) = q := ⟨_, rfl⟩
                  obtain ⟨vv, hvv⟩ : ∃ q, Min.min m1 sm = q := ⟨_, rfl⟩
                  have Mr := min_run hvv
                  have HZc := Lib.hid (fun w' (u : Up wr w') => show w'.cell? ⟨g, p, none⟩ = some (.slice (some ⟨rw p, 0, none⟩) n n) ∧ w'.cell? ⟨rw a, b, none⟩ = some (.int .i64 m1) ∧ w'.cell? ⟨rw a, p, none⟩ = some (.int .i64 m2) ∧ w'.cell? ⟨rw p, b, none⟩ = some (.int .i64 m3) ∧ w'.frozen? ⟨rw a, b, none⟩ = false from ⟨(HM.up u).cell1 hp6, by rw [← hm1]; exact (HM.up u).cell2 hp7 hp8, by rw [← hm2]; exact (HM.up u).cell2 hp7 hp6, by rw [← hm3]; exact (HM.up u).cell2 hp6 hp8, (HM.up u).froz hp7 b⟩)
                  have HS1 := Lib.hid (show T.SM n E F p a (b + 1) (T.mup M a b vv) by
                    have := HS0.out.step hp6 (by omega) hp7 hp8 (by rw [hm2]; exact hs) (by rw [hm3]; exact ht) (s := sm) (fun h => by rw [← hsm, ← hm2, ← hm3]; exact IntWalk.i64_in _ (by unfold D.in64 at h; omega))
                    rw [hm1, hvv] at this
                    exact this)
                  have UW := Up.refl wr
                  clear HS0 hm1 hm2 hm3 hvv
                  go_wp2_with fail
                  refine (wpIn_wide (n := 5)).1 ?_
                  refine wpIn_nrm ?_
                  refine T.regionQ (fun w' => Up wr w') 19 2 hmx (by kernel_rfl) (by kernel_rfl) ((Up.refl wr).drew) (fun hCl => ?_)
                  refine T.qT 0 (some 45) ?v100 rfl rfl hCl ?hy100 (fun hCl => ?_)
                  case hy100 => (intro w hSw; refine T.qVal ?_ hSw; (try dsimp only [List.getElem_toArray, List.getElem_cons_succ, List.getElem_cons_zero]); go_simp; try with_reducible rfl)
                  simp only [Act.put, T.pa, T.pb, T.pc]
                  refine T.qT 1 (some 46) ?v101 rfl rfl hCl ?hy101 (fun hCl => ?_)
                  case hy101 => (intro w hSw; refine T.qVal ?_ hSw; (try dsimp only [List.getElem_toArray, List.getElem_cons_succ, List.getElem_cons_zero]); go_simp; try with_reducible rfl)
                  simp only [Act.put, T.pa, T.pb, T.pc]
                  refine T.qT 2 (some 47) ?v102 rfl rfl hCl ?hy102 (fun hCl => ?_)
                  case hy102 => (intro w hSw; refine T.qVal ?_ hSw; (try dsimp only [List.getElem_toArray, List.getElem_cons_succ, List.getElem_cons_zero]); go_simp; try with_reducible rfl)
                  simp only [Act.put, T.pa, T.pb, T.pc]
                  refine T.qT 3 (some 48) ?v103 rfl rfl hCl ?hy103 (fun hCl => ?_)
                  case hy103 => (intro w hSw; refine T.qVal ?_ hSw; (try dsimp only [List.getElem_toArray, List.getElem_cons_succ, List.getElem_cons_zero]); go_simp; try with_reducible rfl)
                  simp only [Act.put, T.pa, T.pb, T.pc]
                  refine T.qT 6 (some 51) ?v104 rfl rfl hCl ?hy104 (fun hCl => ?_)
                  case hy104 => (intro w hSw; refine T.qVal ?_ hSw; (try dsimp only [List.getElem_toArray, List.getElem_cons_succ, List.getElem_cons_zero]); go_simp; try with_reducible rfl)
                  simp only [Act.put, T.pa, T.pb, T.pc]
                  refine T.qT 7 (some 52) ?v105 rfl rfl hCl ?hy105 (fun hCl => ?_)
                  case hy105 => (intro w hSw; refine T.qVal ?_ hSw; (try dsimp only [List.getElem_toArray, List.getElem_cons_succ, List.getElem_cons_zero]); go_simp; try with_reducible rfl)
                  simp only [Act.put, T.pa, T.pb, T.pc]
                  refine T.qT 10 (some 55) ?v106 rfl rfl hCl ?hy106 (fun hCl => ?_)
                  case hy106 => (intro w hSw; refine T.qVal ?_ hSw; (try dsimp only [List.getElem_toArray, List.getElem_cons_succ, List.getElem_cons_zero]); go_simp; try with_reducible rfl)
                  simp only [Act.put, T.pa, T.pb, T.pc]
                  refine T.qT 11 (some 56) ?v107 rfl rfl hCl ?hy107 (fun hCl => ?_)
                  case hy107 => (intro w hSw; refine T.qVal ?_ hSw; (try dsimp only [List.getElem_toArray, List.getElem_cons_succ, List.getElem_cons_zero]); go_simp; try with_reducible rfl)
                  simp only [Act.put, T.pa, T.pb, T.pc]
                  refine T.qT 14 (some 59) ?v108 rfl rfl hCl ?hy108 (fun hCl => ?_)
                  case hy108 => (intro w hSw; refine T.qVal ?_ hSw; (try dsimp only [List.getElem_toArray, List.getElem_cons_succ, List.getElem_cons_zero]); go_simp; try with_reducible rfl)
                  simp only [Act.put, T.pa, T.pb, T.pc]
                  refine T.qT 4 (some 49) ?v109 rfl rfl hCl ?hy109 (fun hCl => ?_)
                  case hy109 => (intro w hSw; refine T.qVal ?_ hSw; (try dsimp only [List.getElem_toArray, List.getElem_cons_succ, List.getElem_cons_zero]); go_simp; try with_reducible rfl)
                  simp only [Act.put, T.pa, T.pb, T.pc]
                  refine T.qT 8 (some 53) ?v110 rfl rfl hCl ?hy110 (fun hCl => ?_)
                  case hy110 => (intro w hSw; refine T.qVal ?_ hSw; (try dsimp only [List.getElem_toArray, List.getElem_cons_succ, List.getElem_cons_zero]); go_simp; try with_reducible rfl)
                  simp only [Act.put, T.pa, T.pb, T.pc]
                  refine T.qT 12 (some 57) ?v111 rfl rfl hCl ?hy111 (fun hCl => ?_)
                  case hy111 => (intro w hSw; refine T.qVal ?_ hSw; (try dsimp only [List.getElem_toArray, List.getElem_cons_succ, List.getElem_cons_zero]); go_simp; try with_reducible rfl)
                  simp only [Act.put, T.pa, T.pb, T.pc]
                  refine T.qT 5 (some 50) ?v112 rfl rfl hCl ?hy112 (fun hCl => ?_)
                  case hy112 => (intro w hSw; refine T.qVal ?_ hSw; (obtain ⟨y2, y3, y4, y5, _⟩ := HZc.out w (UW.trans hSw)); (try dsimp only [List.getElem_toArray, List.getElem_cons_succ, List.getElem_cons_zero]); go_simp; try with_reducible rfl)
                  simp only [Act.put, T.pa, T.pb, T.pc]
                  refine T.qT 9 (some 54) ?v113 rfl rfl hCl ?hy113 (fun hCl => ?_)
                  case hy113 => (intro w hSw; refine T.qVal ?_ hSw; (obtain ⟨y2, y3, y4, y5, _⟩ := HZc.out w (UW.trans hSw)); (try dsimp only [List.getElem_toArray, List.getElem_cons_succ, List.getElem_cons_zero]); go_simp; try with_reducible rfl)
                  simp only [Act.put, T.pa, T.pb, T.pc]
                  refine T.qT 13 (some 58) ?v114 rfl rfl hCl ?hy114 (fun hCl => ?_)
                  case hy114 => (intro w hSw; refine T.qVal ?_ hSw; (obtain ⟨y2, y3, y4, y5, _⟩ := HZc.out w (UW.trans hSw)); (try dsimp only [List.getElem_toArray, List.getElem_cons_succ, List.getElem_cons_zero]); go_simp; try with_reducible rfl)
                  simp only [Act.put, T.pa, T.pb, T.pc]
                  refine T.qT 15 (some 60) ?v115 rfl rfl hCl ?hy115 (fun hCl => ?_)
                  case hy115 => (intro w hSw; refine T.qVal ?_ hSw; (try dsimp only [List.getElem_toArray, List.getElem_cons_succ, List.getElem_cons_zero]); go_simp; try with_reducible rfl)
                  simp only [Act.put, T.pa, T.pb, T.pc]
                  refine T.qT 16 (some 61) ?v116 rfl rfl hCl ?hy116 (fun hCl => ?_)
                  case hy116 => (intro w hSw; refine T.qVal ?_ hSw; (obtain ⟨y2, y3, y4, y5, _⟩ := HZc.out w (UW.trans hSw)); (try dsimp only [List.getElem_toArray, List.getElem_cons_succ, List.getElem_cons_zero]); go_simp; try with_reducible rfl)
                  simp only [Act.put, T.pa, T.pb, T.pc]
                  refine T.qT 17 (some 62) ?v117 rfl rfl hCl ?hy117 (fun hCl => ?_)
                  case hy117 => (intro w hSw; refine T.qVal ?_ hSw; (try dsimp only [List.getElem_toArray, List.getElem_cons_succ, List.getElem_cons_zero]); go_simp; try with_reducible rfl)
                  simp only [Act.put, T.pa, T.pb, T.pc]
                  refine T.qT 18 (some 63) ?v118 rfl rfl hCl ?hy118 (fun hCl => ?_)
                  case hy118 => (intro w hSw; refine T.qVal ?_ hSw; (obtain ⟨y2, y3, y4, y5, _⟩ := HZc.out w (UW.trans hSw)); (try dsimp only [List.getElem_toArray, List.getElem_cons_succ, List.getElem_cons_zero]); go_simp; try with_reducible rfl)
                  simp only [Act.put, T.pa, T.pb, T.pc]
                  refine T.tail_intro (by kernel_rfl) (fun Y201 hY201 => ?_)
                  obtain ⟨y2, y3, y4, y5, y6⟩ := HZc.out _ (UW.trans hY201)
                  clear z2 z4 z5
                  replace U := U.trans hY201
                  replace HM := HM.up hY201
                  replace UW := UW.trans hY201
                  clear hY201
                  refine lastG (i := 19) (by kernel_rfl) rfl (by rfl) (by decide) (fun K hK => ?_)
                  go_simp
                  refine hK.out _ _ ?_
                  clear hK K
                  refine lastG (i := 20) (by kernel_rfl) rfl (by rfl) (by decide) (fun K hK => ?_)
                  go_simp
                  refine hK.out _ _ ?_
                  clear hK K
                  refine doneG (by kernel_rfl) ?_ _
                  refine S.nrm_intro ?_
                  have hrP := HR.out a hp7
                  have MZ := HM.put (b := b) hp7 vv
                  have UZ := U.set (p := ⟨rw a, b, none⟩) (show w0.heap.size ≤ rw a by omega) (.int .i64 vv)
                  obtain ⟨WZ, hWZ⟩ : ∃ q, Y201.setCell ⟨rw a, b, none⟩ (.int .i64 vv) = q := ⟨_, rfl⟩
                  rw [hWZ] at MZ UZ
                  try rw [hWZ]
                  clear hWZ U HM UW y2 y3 y4 y5 y6 Mr HZc hsm
                  go_wp2_with fail
                  go_roundw
                  case rel => exact ⟨b + 1, _, by omega, by go_num, UZ, MZ, HS1⟩
                  case measure => (simp only [intOf]; omega)
                · have dt : decide (m3 < 1073741824) = false := decide_eq_false ht
                  have HS1 := Lib.hid (HS0.out.skip hp6 hp8 (by rw [hm3]; exact ht))
                  clear HS0 hm2 hm3
                  go_wp2_with fail
                  go_roundw
                  case rel => exact ⟨b + 1, M, by omega, by go_num, U, HM, HS1⟩
                  case measure => (simp only [intOf]; omega)
              · have ds : decide (m2 < 1073741824) = false := decide_eq_false hs
                have HS1 := Lib.hid (HS0.out.stop hp6 hp7 (by rw [hm2]; exact hs))
                clear HS0 hm2
                go_wp2_with fail
                go_roundw
                case rel => exact ⟨a + 1, M, by omega, by go_num, U, HM, HS1⟩
                case measure => (simp only [intOf]; omega)
            · have hbN : n = b := by omega
              subst hbN
              have d8 : decide ((n : Int) < (n : Int)) = false := decide_eq_false (by omega)
              have HS1 := Lib.hid HS0.out.row
              clear HS0
              go_wp2_with fail
              go_roundw
              case rel => exact ⟨a + 1, M, by omega, by go_num, U, HM, HS1⟩
              case measure => (simp only [intOf]; omega)
        · have haN : n = a := by omega
          subst haN
          have d7 : decide ((n : Int) < (n : Int)) = false := decide_eq_false (by omega)
          have HS1 := Lib.hid (HS0.out.done HC.out hp6)
          clear HS0
          go_wp2_with fail
          go_roundw
          case rel => exact ⟨p + 1, M, by omega, by go_num, U, HM, HS1⟩
          case measure => (simp only [intOf]; omega)
    · have hpN : n = p := by omega
      subst hpN
      have d6 : decide ((n : Int) < (n : Int)) = false := decide_eq_false (by omega)
      go_wp2_with fail
      go_loopw [8] (fun i wr => ∃ (x : Nat), x ≤ n ∧ i = .int .i64 x ∧ Up w0 wr ∧ T.Mx wr g n rw M n ∧ Hid (∀ y, y < x → 0 ≤ M y y)) (fun i _ => n - (intOf i).toNat)
      case atStart => exact ⟨0, Nat.zero_le _, rfl, U, HM, Lib.hid (fun y hy => absurd hy (Nat.not_lt_zero y))⟩
      case round =>
        clear U HM
        obtain ⟨x, hx, rfl, U, HM, HD⟩ := hrel
        by_cases hp9 : x < n
        · have d9 : decide ((x : Int) < (n : Int)) = true := decide_eq_true (by omega)
          have i9 : (x : Int) < (n : Int) := by omega
          have e9 : IntKind.i64.wrap ((x : Int) + 1) = (x : Int) + 1 := IntWalk.i64_in _ (by omega)
          have c1 := HM.cell1 hp9
          have c2 := HM.cell2 hp9 hp9
          obtain ⟨m, hm⟩ : ∃ q, M x x = q := ⟨_, rfl⟩
          rw [hm] at c2
          by_cases hm0 : m < 0
          · have d10 : decide (m < 0) = true := decide_eq_true hm0
            have HNo := Lib.hid (HST.out.none hp9 (by rw [hm]; exact hm0))
            have HU := Lib.hid U
            clear HST HD hm HM U
            go_wp2
            go_ret
            exact ⟨.inr ⟨rfl, HNo.out⟩, HU.out⟩
          · have d10 : decide (m < 0) = false := decide_eq_false hm0
            have HD2 := Lib.hid (show ∀ y, y < x + 1 → 0 ≤ M y y from fun y hy => by
              by_cases e : y = x
              · subst e
                omega
              · exact HD.out y (by omega))
            clear HD hm
            go_wp2_with fail
            go_roundw
            case rel => exact ⟨x + 1, by omega, by go_num, U, HM, HD2⟩
            case measure => (simp only [intOf]; omega)
        · have hxN : n = x := by omega
          subst hxN
          have d9 : decide ((n : Int) < (n : Int)) = false := decide_eq_false (by omega)
          have HFin := Lib.hid (And.intro HM (And.intro HST.out HD.out))
          have HU := Lib.hid U
          clear HST HD HM U
          go_wp2
          go_ret
          exact ⟨.inl ⟨M, rfl, HFin.out.1, HFin.out.2.1, HFin.out.2.2⟩, HU.out⟩
end

end Go.Proofs.Ytlpkheoljbdajaa

/- The contract of the reference's asked. -/
namespace Go.Proofs.Ytlpkheoljbdajaa
open Go.RowKit Go.Shelf
attribute [local go_sem] Oper.semAt_some
section
variable {bl bh rl rh : Int} {aP aQ aL : Option Addr} {nP cP nQ cQ nL cL : Nat} {ps qs : List (Int × Int)} {ls : List T.T5}
/-- a matrix at its end -/
def T.RefM (N : Nat) (bl bh rl rh : Int) (ps qs : List (Int × Int)) (ls : List T.T5) (z : Nat) (M : T.Mt) : Prop :=
  ∀ a b, a < 1 + N + ps.length + qs.length → b < 1 + N + ps.length + qs.length → (-600000 ≤ M a b ∧ M a b ≤ 600000) ∧ (∀ y, T.rF N bl bh rl rh ps qs ls z y → y b - y a ≤ M a b) ∧ ∃ y, T.rF N bl bh rl rh ps qs ls z y ∧ y b - y a = M a b
theorem T.qErr_zero {M k : Int} {cl : List Int} (h : T.qErr M bl bh rl rh ps qs ls k cl = 0) : T.valid M bl bh rl rh ps qs ls = true ∧ T.askd ps.length qs.length M k cl = true := by
  unfold T.qErr at h
  cases hv : T.valid M bl bh rl rh ps qs ls with
  | false => rw [hv] at h; cases h
  | true =>
    cases ha : T.askd ps.length qs.length M k cl with
    | false => rw [hv, ha] at h; cases h
    | true => exact ⟨rfl, rfl⟩
theorem r_closed_book {N : Nat} {w0 w : World} {g D z : Nat} {rw : Nat → Nat} {M : T.Mt} (hv : T.valid (N : Int) bl bh rl rh ps qs ls = true) (hD : D = 1 + N + ps.length + qs.length) (U : Up w0 w) (HM : T.Mx w g D rw M D) (hr : ∀ c, c < D → w0.heap.size ≤ rw c) (HI : T.Ini D (T.rE N N (ps.length + qs.length)) M (T.rC N ps.length bl bh rl rh ps qs ls z N ps.length qs.length ls.length)) :
    Calls Try.prog 76 #[.slice (some ⟨g, 0, none⟩) D D] w fun e w' => ((∃ M', e = .returned (.bool true) ∧ T.Mx w' g D rw M' D ∧ T.RefM N bl bh rl rh ps qs ls z M') ∨ (e = .returned (.bool false) ∧ ∀ y, ¬ T.rF N bl bh rl rh ps qs ls z y)) ∧ Up w0 w' := by
  subst hD
  have B := T.valid_bok hv
  have C := T.con_all (np := ps.length) (nq := qs.length) B.n1 B.n8 B.p4 B.q4 rfl
  refine (r_closed_any U HM hr C HI.st).mono ?_
  rintro e w' ⟨⟨M', rfl, h1, h2, h3⟩ | ⟨rfl, h1⟩, u⟩
  · exact ⟨.inl ⟨M', rfl, h1, h2.done C h3⟩, u⟩
  · exact ⟨.inr ⟨rfl, h1⟩, u⟩
theorem T.RefM.tells {N : Nat} {z : Nat} {M : T.Mt} {o : Nat → Bool} (h : T.RefM N bl bh rl rh ps qs ls z M) (hv : T.valid (N : Int) bl bh rl rh ps qs ls = true) (ho : ∀ k, k < ls.length → o k = z.testBit k) {m i : Int} (hm : T.Alive N ps.length qs.length m) (hi : T.Alive N ps.length qs.length i) :
    T.Tells (T.Tru N bl bh rl rh ps qs ls o) m i (-(M (T.rx N ps.length i) (T.rx N ps.length m))) (M (T.rx N ps.length m) (T.rx N ps.length i)) 0 := T.ref_tells hv ho (fun a b ha hb => (h a b ha hb).2) hm hi
set_option maxRecDepth 100000 in
set_option maxHeartbeats 1000000 in
theorem r_asked_err {w : World} {M eq : Int} {r : Bool} (I : Sps w (.slice aP nP cP) ps) (J : Sps w (.slice aQ nQ cQ) qs) (K : Lks w (.slice aL nL cL) ls) (hq : (T.valid M bl bh rl rh ps qs ls = false ∧ eq = 30) ∨ (T.valid M bl bh rl rh ps qs ls = true ∧ r = false ∧ eq = 31)) :
    Calls Try.prog 66 #[BoV M bl bh rl rh (.slice aP nP cP) (.slice aQ nQ cQ) (.slice aL nL cL), .bool r] w fun e w' => e = .returned (.tuple #[.slice none 0 0, .int .i64 eq]) ∧ Up w w' := by
  have HC := Lib.hid (fun w' (u : Up w w') => r_Check_any (M := M) (bl := bl) (bh := bh) (rl := rl) (rh := rh) (I.up u) (J.up u) (K.up u))
  have U := (Up.refl w).alloc (.cells (BoC M bl bh rl rh (.slice aP nP cP) (.slice aQ nQ cQ) (.slice aL nL cL)) 27)
  clear I J K
  go_enter Try.func66, Try.ntmps66
  go_wp2_with fail
  refine (HC.out _ U).mono ?_
  rintro e x1 ⟨rfl, u⟩
  replace U := U.trans u
  clear u HC
  rcases hq with ⟨hv, rfl⟩ | ⟨hv, rfl, rfl⟩
  · rw [if_neg (by rw [hv]; decide)]
    clear hv
    go_wp2
    go_ret2
    exact ⟨rfl, U⟩
  · rw [if_pos hv]
    clear hv
    go_wp2
    go_ret2
    exact ⟨rfl, U⟩
set_option maxRecDepth 100000 in
set_option maxHeartbeats 1000000 in
theorem r_asked_ok {w : World} {N : Nat} (I : Sps w (.slice aP nP cP) ps) (J : Sps w (.slice aQ nQ cQ) qs) (K : Lks w (.slice aL nL cL) ls) (hv : T.valid (N : Int) bl bh rl rh ps qs ls = true) :
    Calls Try.prog 66 #[BoV (N : Int) bl bh rl rh (.slice aP nP cP) (.slice aQ nQ cQ) (.slice aL nL cL), .bool true] w fun e w' => ((∃ (g D : Nat) (rw : Nat → Nat) (M : T.Mt), D = 1 + N + ps.length + qs.length ∧ e = .returned (.tuple #[.slice (some ⟨g, 0, none⟩) D D, .int .i64 0]) ∧ T.Mx w' g D rw M D ∧ T.RefM N bl bh rl rh ps qs ls 0 M) ∨ (e = .returned (.tuple #[.slice none 0 0, .int .i64 32]) ∧ ∀ y, ¬ T.Tr N bl bh rl rh ps qs ls y)) ∧ Up w w' := by
  have HC := Lib.hid (fun w' (u : Up w w') => r_Check_any (M := (N : Int)) (bl := bl) (bh := bh) (rl := rl) (rh := rh) (I.up u) (J.up u) (K.up u))
  have HSa := Lib.hid (fun w' (u : Up w w') => show Calls Try.prog 77 #[BoV (N : Int) bl bh rl rh (.slice aP nP cP) (.slice aQ nQ cQ) (.slice aL nL cL), .int .i64 0] w' _ from r_said_any (I.up u) (J.up u) (K.up u) hv (z := 0) (by omega))
  have HV := Lib.hid hv
  have U := (Up.refl w).alloc (.cells (BoC (N : Int) bl bh rl rh (.slice aP nP cP) (.slice aQ nQ cQ) (.slice aL nL cL)) 27)
  have kB := blk_new w (.cells (BoC (N : Int) bl bh rl rh (.slice aP nP cP) (.slice aQ nQ cQ) (.slice aL nL cL)) 27) _ rfl
  clear I J K hv
  go_enter Try.func66, Try.ntmps66
  go_wp2_with fail
  refine (HC.out _ U).mono ?_
  rintro e x1 ⟨rfl, u⟩
  replace U := U.trans u
  replace kB := u.blk kB
  clear u HC
  rw [if_pos HV.out]
  go_wp2_with fail
  refine (HSa.out _ U).mono ?_
  rintro e x2 ⟨⟨g, D, rw, M, hD, rfl, HM, hr, HI⟩, u⟩
  have HCl := Lib.hid (r_closed_book HV.out hD u HM hr HI)
  clear HSa HM hr HI u kB
  have HD := Lib.hid hD
  clear hD
  go_wp2_with fail
  refine HCl.out.mono ?_
  rintro e x3 ⟨⟨M', rfl, h1, h2⟩ | ⟨rfl, h1⟩, u⟩
  · have HF := Lib.hid (And.intro h1 h2)
    replace U := U.trans u
    clear u HCl h1 h2
    go_wp2
    go_ret2
    exact ⟨.inl ⟨g, D, rw, M', HD.out, rfl, HF.out.1, HF.out.2⟩, U⟩
  · have HF := Lib.hid (T.ref_none (o := T.o0) HV.out (fun k _ => (Nat.zero_testBit k).symm) h1)
    replace U := U.trans u
    clear u HCl h1
    go_wp2
    go_ret2
    exact ⟨.inr ⟨rfl, HF.out⟩, U⟩
end

end Go.Proofs.Ytlpkheoljbdajaa
