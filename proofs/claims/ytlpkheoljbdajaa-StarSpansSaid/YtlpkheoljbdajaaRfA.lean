import Derived.Test.YtlpkheoljbdajaaBsc
import Derived.Test.YtlpkheoljbdajaaQue
import Derived.Test.YtlpkheoljbdajaaTel
import Derived.Test.YtlpkheoljbdajaaHeQ
import Derived.Test.YtlpkheoljbdajaaRfM
import Derived.Test.YtlpkheoljbdajaaRfS
/- The contracts of the reference's spans and Check. -/
namespace Go.Proofs.Ytlpkheoljbdajaa
open Go.RowKit Go.Shelf
attribute [local go_sem] Oper.semAt_some

section
variable {bl bh rl rh : Int} {aP aQ aL : Option Addr} {nP cP nQ cQ nL cL : Nat} {ps qs : List (Int × Int)} {ls : List T.T5}
theorem T.all_take {α : Type} {p : α → Bool} {xs : List α} {d : α} {j : Nat} (hj : j < xs.length) : (xs.take (j + 1)).all p = ((xs.take j).all p && p (xs.getD j d)) := by
  rw [List.take_add_one, List.getElem?_eq_getElem hj, List.all_append, List.getD_eq_getElem?_getD, List.getElem?_eq_getElem hj]
  simp
theorem T.all_not {α : Type} {p : α → Bool} {xs : List α} {j : Nat} (h : (xs.take j).all p = false) : xs.all p = false := by
  rw [Bool.eq_false_iff] at h ⊢
  intro q
  rw [List.all_eq_true] at q
  exact h (List.all_eq_true.2 fun x hx => q x (List.mem_of_mem_take hx))
set_option maxRecDepth 100000 in
set_option maxHeartbeats 4000000 in
theorem r_spans_any {w : World} {v : Value} {xs : List (Int × Int)} (I : Sps w v xs) (lo hi : Int) :
    Calls Try.prog 62 #[v, .int .i64 lo, .int .i64 hi] w fun e w' => e = .returned (.bool (xs.all fun s => S.spanOk s.1 s.2 lo hi)) ∧ Up w w' := by
  obtain ⟨a, c, rfl, _, hl, hm⟩ := I.is
  have HM := Lib.hid hm
  clear hm I
  have U := Up.refl w
  go_enter Try.func62, Try.ntmps62
  go_wp2_with fail
  go_loopw [7] (fun i wr => ∃ j : Nat, j ≤ xs.length ∧ i = .int .i64 j ∧ Up w wr ∧ Hid ((xs.take j).all (fun s => S.spanOk s.1 s.2 lo hi) = true)) (fun i _ => xs.length - (intOf i).toNat)
  case atStart => exact ⟨0, Nat.zero_le _, rfl, U, Lib.hid rfl⟩
  case round =>
    clear U
    obtain ⟨j, hj, rfl, U, HA⟩ := hrel
    by_cases hlt : j < xs.length
    · have ew : IntKind.i64.wrap ((j : Int) + 1) = (j : Int) + 1 := IntWalk.i64_in _ (by omega)
      have dk : decide ((j : Int) < (xs.length : Int)) = true := decide_eq_true (by omega)
      have ilt : (j : Int) < (xs.length : Int) := by omega
      obtain ⟨g, off, rfl, gl, hx⟩ := HM.out (by omega)
      obtain ⟨⟨r0, r1⟩, hss⟩ : ∃ s, xs.getD j (0, 0) = s := ⟨_, rfl⟩
      have c0 : wr.cell? ⟨g, off + j * 2, none⟩ = some (.int .i64 r0) := by have := (U.facts.1 g _ gl).trans (hx j hlt 0 (by omega)); rw [hss] at this; exact this
      have c1 : wr.cell? ⟨g, off + j * 2 + 1, none⟩ = some (.int .i64 r1) := by have := (U.facts.1 g _ gl).trans (hx j hlt 1 (by omega)); rw [hss] at this; exact this
      have HS := Lib.hid (T.all_take (p := fun s => S.spanOk s.1 s.2 lo hi) (d := (0, 0)) hlt)
      rw [HA.out, hss] at HS
      clear hx gl hss
      go_wp2_with fail
      refine (B_Valid_any r0 r1 lo hi _).mono ?_
      rintro e w3 ⟨rfl, u3⟩
      replace U := U.trans u3
      clear u3 c0 c1
      by_cases hv : r0 ≤ r1 ∧ lo ≤ r0 ∧ r1 ≤ hi
      · rw [decide_eq_true hv]
        have HA2 := Lib.hid (show (xs.take (j + 1)).all (fun s => S.spanOk s.1 s.2 lo hi) = true by
          rw [HS.out]
          exact S.spanOk_iff.2 ⟨hv.2.1, hv.1, hv.2.2⟩)
        clear hv HA HS
        go_wp2_with fail
        go_roundw
        case rel => exact ⟨j + 1, by omega, by go_num, U, HA2⟩
        case measure => (simp only [intOf]; omega)
      · rw [decide_eq_false hv]
        have HA2 := Lib.hid (show xs.all (fun s => S.spanOk s.1 s.2 lo hi) = false from T.all_not (j := j + 1) (by
          rw [HS.out, Bool.true_and, Bool.eq_false_iff]
          intro q
          have := S.spanOk_iff.1 q
          omega))
        clear hv HA HS
        go_wp2
        go_ret
        exact ⟨by rw [HA2.out]; rfl, U⟩
    · have hjn : xs.length = j := by omega
      subst hjn
      have dk : decide ((xs.length : Int) < (xs.length : Int)) = false := decide_eq_false (by omega)
      have HA2 := HA.out
      rw [List.take_length] at HA2
      replace HA := Lib.hid HA2
      clear HA2
      go_wp2
      go_ret
      exact ⟨by rw [HA.out]; rfl, U⟩
set_option maxRecDepth 100000 in
set_option maxHeartbeats 8000000 in
set_option linter.unusedSimpArgs false in
theorem r_Check_any {w : World} {M : Int} (I : Sps w (.slice aP nP cP) ps) (J : Sps w (.slice aQ nQ cQ) qs) (K : Lks w (.slice aL nL cL) ls) :
    Calls Try.prog 20 #[BoV M bl bh rl rh (.slice aP nP cP) (.slice aQ nQ cQ) (.slice aL nL cL)] w fun e w' => e = .returned (.int .i64 (if T.valid M bl bh rl rh ps qs ls = true then 0 else 30)) ∧ Up w w' := by
  have hn := I.len
  have hno := J.len
  have hnp := K.len
  have mP := I.max
  have mQ := J.max
  have mL := K.max
  subst hn hno hnp
  obtain ⟨va, hva⟩ : ∃ b, T.valid M bl bh rl rh ps qs ls = b := ⟨_, rfl⟩
  have HVA := Lib.hid hva
  rw [hva]
  have HI := Lib.hid (fun w' (u : Up w w') => I.up u)
  have HJ := Lib.hid (fun w' (u : Up w w') => J.up u)
  have HK := Lib.hid (fun w' (u : Up w w') => K.up u)
  have hvd := hva
  unfold T.valid T.nightsOk T.othersOk at hvd
  have HVD := Lib.hid hvd
  clear I J K hva hvd
  go_enter Try.func20, Try.ntmps20
  obtain ⟨q0, e0⟩ : ∃ x, w.heap.size = x := ⟨_, rfl⟩
  have V := (Up.refl w).alloc (.cells (BoC M bl bh rl rh (.slice aP ps.length cP) (.slice aQ qs.length cQ) (.slice aL ls.length cL)) 27)
  have k0 := blk_new w (.cells (BoC M bl bh rl rh (.slice aP ps.length cP) (.slice aQ qs.length cQ) (.slice aL ls.length cL)) 27) q0 e0.symm
  go_wp2_with fail
  have dsp : ∀ l h lo hi : Int, decide (l ≤ h ∧ lo ≤ l ∧ h ≤ hi) = S.spanOk l h lo hi := fun l h lo hi => by
    rw [Bool.eq_iff_iff, decide_eq_true_iff, S.spanOk_iff]
    exact ⟨fun q => ⟨q.2.1, q.1, q.2.2⟩, fun q => ⟨q.2.1, q.1, q.2.2⟩⟩
  have DSP := Lib.hid dsp
  clear dsp
  refine (B_Lies_any _ _ _ _).mono ?_
  rintro e w2 ⟨rfl, rfl⟩
  cases h0 : inB M 1 8 with
  | false =>
    have hf : va = false := by have q := HVD.out; rw [h0] at q; simpa using q.symm
    clear h0 HVD
    subst hf
    go_wp2_with fail
    go_loopw [3] (fun b wr => b = .bool false ∧ Up w wr) (fun _ _ => 0)
    case atStart => exact ⟨rfl, V⟩
    case round =>
      obtain ⟨rfl, V⟩ := hrel
      clear k0
      go_wp2
      go_ret
      exact ⟨rfl, V⟩
  | true =>
    go_wp2_with fail
    refine (B_Valid_any _ _ _ _ _).mono ?_
    rintro e w2 ⟨rfl, u⟩
    replace V := V.trans u
    replace k0 := u.blk k0
    clear u
    rw [DSP.out]
    cases h1 : S.spanOk bl bh (-20000) 20000 with
    | false =>
      have hf : va = false := by have q := HVD.out; rw [h0, h1] at q; simpa using q.symm
      clear h0 h1 HVD
      subst hf
      go_wp2_with fail
      go_loopw [3] (fun b wr => b = .bool false ∧ Up w wr) (fun _ _ => 0)
      case atStart => exact ⟨rfl, V⟩
      case round =>
        obtain ⟨rfl, V⟩ := hrel
        clear k0
        go_wp2
        go_ret
        exact ⟨rfl, V⟩
    | true =>
      go_wp2_with fail
      refine (B_Valid_any _ _ _ _ _).mono ?_
      rintro e w2 ⟨rfl, u⟩
      replace V := V.trans u
      replace k0 := u.blk k0
      clear u
      rw [DSP.out]
      cases h2 : S.spanOk rl rh (-1000) 1000 with
      | false =>
        have hf : va = false := by have q := HVD.out; rw [h0, h1, h2] at q; simpa using q.symm
        clear h0 h1 h2 HVD
        subst hf
        go_wp2_with fail
        go_loopw [3] (fun b wr => b = .bool false ∧ Up w wr) (fun _ _ => 0)
        case atStart => exact ⟨rfl, V⟩
        case round =>
          obtain ⟨rfl, V⟩ := hrel
          clear k0
          go_wp2
          go_ret
          exact ⟨rfl, V⟩
      | true =>
        by_cases gp : ps.length ≤ 4
        · skip
          have dp : decide ((ps.length : Int) ≤ 4) = true := decide_eq_true (by omega)
          have ip : (ps.length : Int) ≤ 4 := by omega
          by_cases gq : qs.length ≤ 4
          · skip
            have dq : decide ((qs.length : Int) ≤ 4) = true := decide_eq_true (by omega)
            have iq : (qs.length : Int) ≤ 4 := by omega
            by_cases gl : ls.length ≤ 10
            · skip
              have dl : decide ((ls.length : Int) ≤ 10) = true := decide_eq_true (by omega)
              have il : (ls.length : Int) ≤ 10 := by omega
              go_wp2_with fail
              refine (r_spans_any (HI.out _ V) (-2000) 2000).mono ?_
              rintro e w2 ⟨rfl, u⟩
              replace V := V.trans u
              replace k0 := u.blk k0
              clear u
              cases hs : ps.all (fun s => S.spanOk s.1 s.2 (-2000) 2000) with
              | false =>
                have hf : va = false := by have q := HVD.out; rw [h0, h1, h2, decide_eq_true gp, decide_eq_true gq, decide_eq_true gl, show ps.all T.perOk = false from hs] at q; simpa using q.symm
                clear h0 h1 h2 gp gq gl hs HVD
                subst hf
                go_wp2_with fail
                go_loopw [3] (fun b wr => b = .bool false ∧ Up w wr) (fun _ _ => 0)
                case atStart => exact ⟨rfl, V⟩
                case round =>
                  obtain ⟨rfl, V⟩ := hrel
                  clear k0
                  go_wp2
                  go_ret
                  exact ⟨rfl, V⟩
              | true =>
                go_wp2_with fail
                refine (r_spans_any (HJ.out _ V) (0) 5000).mono ?_
                rintro e w2 ⟨rfl, u⟩
                replace V := V.trans u
                replace k0 := u.blk k0
                clear u
                cases ht : qs.all (fun s => S.spanOk s.1 s.2 (0) 5000) with
                | false =>
                  have hf : va = false := by have q := HVD.out; rw [h0, h1, h2, decide_eq_true gp, decide_eq_true gq, decide_eq_true gl, show ps.all T.perOk = true from hs, show qs.all T.pathOk = false from ht] at q; simpa using q.symm
                  clear h0 h1 h2 gp gq gl ht hs HVD
                  subst hf
                  go_wp2_with fail
                  go_loopw [3] (fun b wr => b = .bool false ∧ Up w wr) (fun _ _ => 0)
                  case atStart => exact ⟨rfl, V⟩
                  case round =>
                    obtain ⟨rfl, V⟩ := hrel
                    clear k0
                    go_wp2
                    go_ret
                    exact ⟨rfl, V⟩
                | true =>
                  go_wp2_with fail
                  have HF := Lib.hid (show va = ls.all (T.lookOk ps.length qs.length M) by
                    have q := HVD.out
                    rw [h0, h1, h2, decide_eq_true gp, decide_eq_true gq, decide_eq_true gl, show ps.all T.perOk = true from hs, show qs.all T.pathOk = true from ht] at q
                    simpa using q.symm)
                  have HMB := Lib.hid (inB_iff.1 h0)
                  clear HVD h0 h1 h2 hs ht
                  have ewN : IntKind.i64.wrap (M - 1) = M - 1 := IntWalk.i64_in _ (by have := HMB.out; omega)
                  have ewP : IntKind.i64.wrap ((ps.length : Int) - 1) = (ps.length : Int) - 1 := IntWalk.i64_in _ (by omega)
                  have ewQ : IntKind.i64.wrap ((qs.length : Int) - 1) = (qs.length : Int) - 1 := IntWalk.i64_in _ (by omega)
                  go_loopw [3, 4] (fun b i wr => ∃ (k : Nat) (t : Bool), k ≤ ls.length ∧ b = .bool t ∧ i = .int .i64 k ∧ Up w wr ∧ mblk wr q0 = some (.cells (BoC M bl bh rl rh (.slice aP ps.length cP) (.slice aQ qs.length cQ) (.slice aL ls.length cL)) 27 (0, 0)) ∧ Hid (t = (ls.take k).all (T.lookOk ps.length qs.length M))) (fun _ i _ => ls.length - (intOf i).toNat)
                  case atStart => exact ⟨0, true, Nat.zero_le _, rfl, rfl, V, k0, Lib.hid rfl⟩
                  case round =>
                    clear k0 V
                    obtain ⟨k, t, hk, rfl, rfl, V, k0, HT⟩ := hrel
                    cases t with
                    | false =>
                      have hf : va = false := by rw [HF.out]; exact T.all_not HT.out.symm
                      clear HT HF k0
                      subst hf
                      go_wp2
                      go_ret
                      exact ⟨rfl, V⟩
                    | true =>
                      by_cases hlt : k < ls.length
                      · skip
                        have ew : IntKind.i64.wrap ((k : Int) + 1) = (k : Int) + 1 := IntWalk.i64_in _ (by omega)
                        have dk : decide ((k : Int) < (ls.length : Int)) = true := decide_eq_true (by omega)
                        have ilt : (k : Int) < (ls.length : Int) := by omega
                        obtain ⟨a', c', e', _, _, hm⟩ := (HK.out _ (Up.refl w)).is
                        injection e' with ea eb ec
                        clear eb ec
                        obtain ⟨g, off, ga, glE, hx⟩ := hm (by omega)
                        subst ea ga
                        clear hm
                        obtain ⟨⟨s0, s1, s2, s3, s4⟩, hss⟩ : ∃ s, ls.getD k (0, 0, 0, 0, 0) = s := ⟨_, rfl⟩
                        have cc0 : wr.cell? ⟨g, off + k * 5, none⟩ = some (.int .i64 s0) := by have := (V.facts.1 g _ glE).trans (hx k hlt 0 (by omega)); rw [hss] at this; exact this
                        have cc1 : wr.cell? ⟨g, off + k * 5 + 1, none⟩ = some (.int .i64 s1) := by have := (V.facts.1 g _ glE).trans (hx k hlt 1 (by omega)); rw [hss] at this; exact this
                        have cc2 : wr.cell? ⟨g, off + k * 5 + 2, none⟩ = some (.int .i64 s2) := by have := (V.facts.1 g _ glE).trans (hx k hlt 2 (by omega)); rw [hss] at this; exact this
                        have cc3 : wr.cell? ⟨g, off + k * 5 + 3, none⟩ = some (.int .i64 s3) := by have := (V.facts.1 g _ glE).trans (hx k hlt 3 (by omega)); rw [hss] at this; exact this
                        have cc4 : wr.cell? ⟨g, off + k * 5 + 4, none⟩ = some (.int .i64 s4) := by have := (V.facts.1 g _ glE).trans (hx k hlt 4 (by omega)); rw [hss] at this; exact this
                        have HS := Lib.hid (T.all_take (p := T.lookOk ps.length qs.length M) (d := (0, 0, 0, 0, 0)) hlt)
                        rw [← HT.out, hss, Bool.true_and] at HS
                        clear hx glE hss HT
                        have lk0 := blk_lt k0
                        have i0 := k0
                        by_cases h1 : s1 = 1
                        · skip
                          subst h1
                          have HL2 := Lib.hid (show (ls.take (k + 1)).all (T.lookOk ps.length qs.length M) = (inB s0 0 (M - 1) && (inB 1 0 1 && (inB s2 0 ((qs.length : Int) - 1) && (inB s3 (-30000) 30000 && inB s4 0 2000)))) by
                            rw [HS.out]
                            rfl)
                          clear HS
                          have kn := blk_new wr (.cells #[.int .i64 s0, .int .i64 1, .int .i64 s2, .int .i64 s3, .int .i64 s4] 63) _ rfl
                          replace k0 := blk_keep (.cells #[.int .i64 s0, .int .i64 1, .int .i64 s2, .int .i64 s3, .int .i64 s4] 63) k0
                          replace V := V.alloc (.cells #[.int .i64 s0, .int .i64 1, .int .i64 s2, .int .i64 s3, .int .i64 s4] 63)
                          obtain ⟨pn, hpn⟩ : ∃ z, wr.heap.size = z := ⟨_, rfl⟩
                          obtain ⟨W1, hW1⟩ : ∃ z, wr.alloc (.cells #[.int .i64 s0, .int .i64 1, .int .i64 s2, .int .i64 s3, .int .i64 s4] 63) = z := ⟨_, rfl⟩
                          rw [hpn] at kn
                          rw [hW1] at kn k0 V
                          go_wp2_with fail
                          try rw [hW1]
                          try rw [hpn]
                          clear hpn hW1 lk0 i0 cc0 cc1 cc2 cc3 cc4
                          refine (B_Lies_any _ _ _ _).mono ?_
                          rintro e w2 ⟨rfl, rfl⟩
                          cases b0 : inB s0 0 (M - 1) with
                          | false =>
                            have HT2 := Lib.hid (show false = (ls.take (k + 1)).all (T.lookOk ps.length qs.length M) by rw [HL2.out, b0]; simp)
                            clear HL2 b0
                            go_wp2_with fail
                            go_roundw
                            case rel => exact ⟨k + 1, false, by omega, rfl, by go_num, V, k0, HT2⟩
                            case measure => (simp only [intOf]; omega)
                          | true =>
                            go_wp2_with fail
                            refine (B_Lies_any _ _ _ _).mono ?_
                            rintro e w2 ⟨rfl, rfl⟩
                            cases b1 : inB 1 0 1 with
                            | false =>
                              have HT2 := Lib.hid (show false = (ls.take (k + 1)).all (T.lookOk ps.length qs.length M) by rw [HL2.out, b0, b1]; simp)
                              clear HL2 b0 b1
                              go_wp2_with fail
                              go_roundw
                              case rel => exact ⟨k + 1, false, by omega, rfl, by go_num, V, k0, HT2⟩
                              case measure => (simp only [intOf]; omega)
                            | true =>
                              go_wp2_with fail
                              refine (B_Lies_any _ _ _ _).mono ?_
                              rintro e w2 ⟨rfl, rfl⟩
                              cases b2 : inB s2 0 ((qs.length : Int) - 1) with
                              | false =>
                                have HT2 := Lib.hid (show false = (ls.take (k + 1)).all (T.lookOk ps.length qs.length M) by rw [HL2.out, b0, b1, b2]; simp)
                                clear HL2 b0 b1 b2
                                go_wp2_with fail
                                go_roundw
                                case rel => exact ⟨k + 1, false, by omega, rfl, by go_num, V, k0, HT2⟩
                                case measure => (simp only [intOf]; omega)
                              | true =>
                                go_wp2_with fail
                                refine (B_Lies_any _ _ _ _).mono ?_
                                rintro e w2 ⟨rfl, rfl⟩
                                cases b3 : inB s3 (-30000) 30000 with
                                | false =>
                                  have HT2 := Lib.hid (show false = (ls.take (k + 1)).all (T.lookOk ps.length qs.length M) by rw [HL2.out, b0, b1, b2, b3]; simp)
                                  clear HL2 b0 b1 b2 b3
                                  go_wp2_with fail
                                  go_roundw
                                  case rel => exact ⟨k + 1, false, by omega, rfl, by go_num, V, k0, HT2⟩
                                  case measure => (simp only [intOf]; omega)
                                | true =>
                                  go_wp2_with fail
                                  refine (B_Lies_any _ _ _ _).mono ?_
                                  rintro e w2 ⟨rfl, rfl⟩
                                  cases b4 : inB s4 0 2000 with
                                  | false =>
                                    have HT2 := Lib.hid (show false = (ls.take (k + 1)).all (T.lookOk ps.length qs.length M) by rw [HL2.out, b0, b1, b2, b3, b4]; simp)
                                    clear HL2 b0 b1 b2 b3 b4
                                    go_wp2_with fail
                                    go_roundw
                                    case rel => exact ⟨k + 1, false, by omega, rfl, by go_num, V, k0, HT2⟩
                                    case measure => (simp only [intOf]; omega)
                                  | true =>
                                    have HT2 := Lib.hid (show true = (ls.take (k + 1)).all (T.lookOk ps.length qs.length M) by rw [HL2.out, b0, b1, b2, b3, b4]; rfl)
                                    clear HL2 b0 b1 b2 b3 b4
                                    go_wp2_with fail
                                    go_roundw
                                    case rel => exact ⟨k + 1, true, by omega, rfl, by go_num, V, k0, HT2⟩
                                    case measure => (simp only [intOf]; omega)
                        · skip
                          have f1 : (s1 == 1) = false := by rw [beq_eq_false_iff_ne]; exact h1
                          have HL2 := Lib.hid (show (ls.take (k + 1)).all (T.lookOk ps.length qs.length M) = (inB s0 0 (M - 1) && (inB s1 0 1 && (inB s2 0 ((ps.length : Int) - 1) && (inB s3 (-30000) 30000 && inB s4 0 2000)))) by
                            rw [HS.out]
                            unfold T.lookOk
                            dsimp only
                            by_cases hz : s1 = 0
                            · subst hz
                              rfl
                            · have hb : inB s1 0 1 = false := by
                                rw [Bool.eq_false_iff]
                                intro q
                                have := inB_iff.1 q
                                omega
                              rw [hb]
                              simp)
                          clear HS
                          have kn := blk_new wr (.cells #[.int .i64 s0, .int .i64 s1, .int .i64 s2, .int .i64 s3, .int .i64 s4] 63) _ rfl
                          replace k0 := blk_keep (.cells #[.int .i64 s0, .int .i64 s1, .int .i64 s2, .int .i64 s3, .int .i64 s4] 63) k0
                          replace V := V.alloc (.cells #[.int .i64 s0, .int .i64 s1, .int .i64 s2, .int .i64 s3, .int .i64 s4] 63)
                          obtain ⟨pn, hpn⟩ : ∃ z, wr.heap.size = z := ⟨_, rfl⟩
                          obtain ⟨W1, hW1⟩ : ∃ z, wr.alloc (.cells #[.int .i64 s0, .int .i64 s1, .int .i64 s2, .int .i64 s3, .int .i64 s4] 63) = z := ⟨_, rfl⟩
                          rw [hpn] at kn
                          rw [hW1] at kn k0 V
                          go_wp2_with fail
                          try rw [hW1]
                          try rw [hpn]
                          clear hpn hW1 lk0 i0 cc0 cc1 cc2 cc3 cc4
                          refine (B_Lies_any _ _ _ _).mono ?_
                          rintro e w2 ⟨rfl, rfl⟩
                          cases b0 : inB s0 0 (M - 1) with
                          | false =>
                            have HT2 := Lib.hid (show false = (ls.take (k + 1)).all (T.lookOk ps.length qs.length M) by rw [HL2.out, b0]; simp)
                            clear HL2 b0
                            go_wp2_with fail
                            go_roundw
                            case rel => exact ⟨k + 1, false, by omega, rfl, by go_num, V, k0, HT2⟩
                            case measure => (simp only [intOf]; omega)
                          | true =>
                            go_wp2_with fail
                            refine (B_Lies_any _ _ _ _).mono ?_
                            rintro e w2 ⟨rfl, rfl⟩
                            cases b1 : inB s1 0 1 with
                            | false =>
                              have HT2 := Lib.hid (show false = (ls.take (k + 1)).all (T.lookOk ps.length qs.length M) by rw [HL2.out, b0, b1]; simp)
                              clear HL2 b0 b1
                              go_wp2_with fail
                              go_roundw
                              case rel => exact ⟨k + 1, false, by omega, rfl, by go_num, V, k0, HT2⟩
                              case measure => (simp only [intOf]; omega)
                            | true =>
                              go_wp2_with fail
                              refine (B_Lies_any _ _ _ _).mono ?_
                              rintro e w2 ⟨rfl, rfl⟩
                              cases b2 : inB s2 0 ((ps.length : Int) - 1) with
                              | false =>
                                have HT2 := Lib.hid (show false = (ls.take (k + 1)).all (T.lookOk ps.length qs.length M) by rw [HL2.out, b0, b1, b2]; simp)
                                clear HL2 b0 b1 b2
                                go_wp2_with fail
                                go_roundw
                                case rel => exact ⟨k + 1, false, by omega, rfl, by go_num, V, k0, HT2⟩
                                case measure => (simp only [intOf]; omega)
                              | true =>
                                go_wp2_with fail
                                refine (B_Lies_any _ _ _ _).mono ?_
                                rintro e w2 ⟨rfl, rfl⟩
                                cases b3 : inB s3 (-30000) 30000 with
                                | false =>
                                  have HT2 := Lib.hid (show false = (ls.take (k + 1)).all (T.lookOk ps.length qs.length M) by rw [HL2.out, b0, b1, b2, b3]; simp)
                                  clear HL2 b0 b1 b2 b3
                                  go_wp2_with fail
                                  go_roundw
                                  case rel => exact ⟨k + 1, false, by omega, rfl, by go_num, V, k0, HT2⟩
                                  case measure => (simp only [intOf]; omega)
                                | true =>
                                  go_wp2_with fail
                                  refine (B_Lies_any _ _ _ _).mono ?_
                                  rintro e w2 ⟨rfl, rfl⟩
                                  cases b4 : inB s4 0 2000 with
                                  | false =>
                                    have HT2 := Lib.hid (show false = (ls.take (k + 1)).all (T.lookOk ps.length qs.length M) by rw [HL2.out, b0, b1, b2, b3, b4]; simp)
                                    clear HL2 b0 b1 b2 b3 b4
                                    go_wp2_with fail
                                    go_roundw
                                    case rel => exact ⟨k + 1, false, by omega, rfl, by go_num, V, k0, HT2⟩
                                    case measure => (simp only [intOf]; omega)
                                  | true =>
                                    have HT2 := Lib.hid (show true = (ls.take (k + 1)).all (T.lookOk ps.length qs.length M) by rw [HL2.out, b0, b1, b2, b3, b4]; rfl)
                                    clear HL2 b0 b1 b2 b3 b4
                                    go_wp2_with fail
                                    go_roundw
                                    case rel => exact ⟨k + 1, true, by omega, rfl, by go_num, V, k0, HT2⟩
                                    case measure => (simp only [intOf]; omega)
                      · skip
                        have hkn : ls.length = k := by omega
                        subst hkn
                        have dk : decide ((ls.length : Int) < (ls.length : Int)) = false := decide_eq_false (by omega)
                        have hf : va = true := by rw [HF.out, HT.out, List.take_length]
                        clear HT HF
                        subst hf
                        go_wp2
                        go_ret
                        exact ⟨rfl, V⟩
            · skip
              have dl : decide ((ls.length : Int) ≤ 10) = false := decide_eq_false (by omega)
              have il : ¬ (ls.length : Int) ≤ 10 := by omega
              have hf : va = false := by have q := HVD.out; rw [h0, h1, h2, decide_eq_true gp, decide_eq_true gq, decide_eq_false gl] at q; simpa using q.symm
              clear h0 h1 h2 gl gp gq HVD
              subst hf
              go_wp2_with fail
              go_loopw [3] (fun b wr => b = .bool false ∧ Up w wr) (fun _ _ => 0)
              case atStart => exact ⟨rfl, V⟩
              case round =>
                obtain ⟨rfl, V⟩ := hrel
                clear k0
                go_wp2
                go_ret
                exact ⟨rfl, V⟩
          · skip
            have dq : decide ((qs.length : Int) ≤ 4) = false := decide_eq_false (by omega)
            have iq : ¬ (qs.length : Int) ≤ 4 := by omega
            have hf : va = false := by have q := HVD.out; rw [h0, h1, h2, decide_eq_true gp, decide_eq_false gq] at q; simpa using q.symm
            clear h0 h1 h2 gq gp HVD
            subst hf
            go_wp2_with fail
            go_loopw [3] (fun b wr => b = .bool false ∧ Up w wr) (fun _ _ => 0)
            case atStart => exact ⟨rfl, V⟩
            case round =>
              obtain ⟨rfl, V⟩ := hrel
              clear k0
              go_wp2
              go_ret
              exact ⟨rfl, V⟩
        · skip
          have dp : decide ((ps.length : Int) ≤ 4) = false := decide_eq_false (by omega)
          have ip : ¬ (ps.length : Int) ≤ 4 := by omega
          have hf : va = false := by have q := HVD.out; rw [h0, h1, h2, decide_eq_false gp] at q; simpa using q.symm
          clear h0 h1 h2 gp HVD
          subst hf
          go_wp2_with fail
          go_loopw [3] (fun b wr => b = .bool false ∧ Up w wr) (fun _ _ => 0)
          case atStart => exact ⟨rfl, V⟩
          case round =>
            obtain ⟨rfl, V⟩ := hrel
            clear k0
            go_wp2
            go_ret
            exact ⟨rfl, V⟩
end

end Go.Proofs.Ytlpkheoljbdajaa

/- The contract of the reference's asked. -/
namespace Go.Proofs.Ytlpkheoljbdajaa
open Go.RowKit Go.Shelf
attribute [local go_sem] Oper.semAt_some

section
variable {bl bh rl rh : Int} {aP aQ aL : Option Addr} {nP cP nQ cQ nL cL : Nat} {ps qs : List (Int × Int)} {ls : List T.T5}
/-- a matrix at its end -/
def T.RefM (N : Nat) (bl bh rl rh : Int) (ps qs : List (Int × Int)) (ls : List T.T5) (z : Nat) (M : T.Mt) : Prop :=
  ∀ a b, a < 1 + N + ps.length + qs.length → b < 1 + N + ps.length + qs.length → (-600000 ≤ M a b ∧ M a b ≤ 600000) ∧ (∀ y, T.rF N bl bh rl rh ps qs ls z y → y b - y a ≤ M a b) ∧ ∃ y, T.rF N bl bh rl rh ps qs ls z y ∧ y b - y a = M a b
theorem r_closed_book {N : Nat} {w0 w : World} {g D z : Nat} {rw : Nat → Nat} {M : T.Mt} (hv : T.valid (N : Int) bl bh rl rh ps qs ls = true) (hD : D = 1 + N + ps.length + qs.length) (U : Up w0 w) (HM : T.Mx w g D rw M D) (hr : ∀ c, c < D → w0.heap.size ≤ rw c) (HI : T.Ini D (T.rE N N (ps.length + qs.length)) M (T.rC N ps.length bl bh rl rh ps qs ls z N ps.length qs.length ls.length)) :
    Calls Try.prog 76 #[.slice (some ⟨g, 0, none⟩) D D] w fun e w' => ((∃ M', e = .returned (.bool true) ∧ T.Mx w' g D rw M' D ∧ T.RefM N bl bh rl rh ps qs ls z M') ∨ (e = .returned (.bool false) ∧ ∀ y, ¬ T.rF N bl bh rl rh ps qs ls z y)) ∧ Up w0 w' := by
  subst hD
  have B := T.valid_bok hv
  have C := T.con_all (np := ps.length) (nq := qs.length) B.n1 B.n8 B.p4 B.q4 rfl
  refine (r_closed_any U HM hr C HI.st).mono ?_
  rintro e w' ⟨⟨M', rfl, h1, h2, h3⟩ | ⟨rfl, h1⟩, u⟩
  · exact ⟨.inl ⟨M', rfl, h1, h2.done C h3⟩, u⟩
  · exact ⟨.inr ⟨rfl, h1⟩, u⟩
theorem T.RefM.tells {N : Nat} {z : Nat} {M : T.Mt} {o : Nat → Bool} (h : T.RefM N bl bh rl rh ps qs ls z M) (hv : T.valid (N : Int) bl bh rl rh ps qs ls = true) (ho : ∀ k, k < ls.length → o k = z.testBit k) {m i : Int} (hm : T.Alive N ps.length qs.length m) (hi : T.Alive N ps.length qs.length i) :
    T.Tells (T.Tru N bl bh rl rh ps qs ls o) m i (-(M (T.rx N ps.length i) (T.rx N ps.length m))) (M (T.rx N ps.length m) (T.rx N ps.length i)) 0 := T.ref_tells hv ho (fun a b ha hb => (h a b ha hb).2) hm hi
set_option maxRecDepth 100000 in
set_option maxHeartbeats 1000000 in
theorem r_asked_err {w : World} {M eq : Int} {r : Bool} (I : Sps w (.slice aP nP cP) ps) (J : Sps w (.slice aQ nQ cQ) qs) (K : Lks w (.slice aL nL cL) ls) (hq : (T.valid M bl bh rl rh ps qs ls = false ∧ eq = 30) ∨ (T.valid M bl bh rl rh ps qs ls = true ∧ r = false ∧ eq = 31)) :
    Calls Try.prog 66 #[BoV M bl bh rl rh (.slice aP nP cP) (.slice aQ nQ cQ) (.slice aL nL cL), .bool r] w fun e w' => e = .returned (.tuple #[.slice none 0 0, .int .i64 eq]) ∧ Up w w' := by
  have HC := Lib.hid (fun w' (u : Up w w') => r_Check_any (M := M) (bl := bl) (bh := bh) (rl := rl) (rh := rh) (I.up u) (J.up u) (K.up u))
  have U := (Up.refl w).alloc (.cells (BoC M bl bh rl rh (.slice aP nP cP) (.slice aQ nQ cQ) (.slice aL nL cL)) 27)
  clear I J K
  go_enter Try.func66, Try.ntmps66
  go_wp2_with fail
  refine (HC.out _ U).mono ?_
  rintro e x1 ⟨rfl, u⟩
  replace U := U.trans u
  clear u HC
  rcases hq with ⟨hv, rfl⟩ | ⟨hv, rfl, rfl⟩
  · rw [if_neg (by rw [hv]; decide)]
    clear hv
    go_wp2
    go_ret2
    exact ⟨rfl, U⟩
  · rw [if_pos hv]
    clear hv
    go_wp2
    go_ret2
    exact ⟨rfl, U⟩
set_option maxRecDepth 100000 in
set_option maxHeartbeats 1000000 in
theorem r_asked_ok {w : World} {N : Nat} (I : Sps w (.slice aP nP cP) ps) (J : Sps w (.slice aQ nQ cQ) qs) (K : Lks w (.slice aL nL cL) ls) (hv : T.valid (N : Int) bl bh rl rh ps qs ls = true) :
    Calls Try.prog 66 #[BoV (N : Int) bl bh rl rh (.slice aP nP cP) (.slice aQ nQ cQ) (.slice aL nL cL), .bool true] w fun e w' => ((∃ (g D : Nat) (rw : Nat → Nat) (M : T.Mt), D = 1 + N + ps.length + qs.length ∧ e = .returned (.tuple #[.slice (some ⟨g, 0, none⟩) D D, .int .i64 0]) ∧ T.Mx w' g D rw M D ∧ T.RefM N bl bh rl rh ps qs ls 0 M) ∨ (e = .returned (.tuple #[.slice none 0 0, .int .i64 32]) ∧ ∀ y, ¬ T.Tr N bl bh rl rh ps qs ls y)) ∧ Up w w' := by
  have HC := Lib.hid (fun w' (u : Up w w') => r_Check_any (M := (N : Int)) (bl := bl) (bh := bh) (rl := rl) (rh := rh) (I.up u) (J.up u) (K.up u))
  have HSa := Lib.hid (fun w' (u : Up w w') => show Calls Try.prog 77 #[BoV (N : Int) bl bh rl rh (.slice aP nP cP) (.slice aQ nQ cQ) (.slice aL nL cL), .int .i64 0] w' _ from r_said_any (I.up u) (J.up u) (K.up u) hv (z := 0) (by omega))
  have HV := Lib.hid hv
  have U := (Up.refl w).alloc (.cells (BoC (N : Int) bl bh rl rh (.slice aP nP cP) (.slice aQ nQ cQ) (.slice aL nL cL)) 27)
  have kB := blk_new w (.cells (BoC (N : Int) bl bh rl rh (.slice aP nP cP) (.slice aQ nQ cQ) (.slice aL nL cL)) 27) _ rfl
  clear I J K hv
  go_enter Try.func66, Try.ntmps66
  go_wp2_with fail
  refine (HC.out _ U).mono ?_
  rintro e x1 ⟨rfl, u⟩
  replace U := U.trans u
  replace kB := u.blk kB
  clear u HC
  rw [if_pos HV.out]
  go_wp2_with fail
  refine (HSa.out _ U).mono ?_
  rintro e x2 ⟨⟨g, D, rw, M, hD, rfl, HM, hr, HI⟩, u⟩
  have HCl := Lib.hid (r_closed_book HV.out hD u HM hr HI)
  clear HSa HM hr HI u kB
  have HD := Lib.hid hD
  clear hD
  go_wp2_with fail
  refine HCl.out.mono ?_
  rintro e x3 ⟨⟨M', rfl, h1, h2⟩ | ⟨rfl, h1⟩, u⟩
  · have HF := Lib.hid (And.intro h1 h2)
    replace U := U.trans u
    clear u HCl h1 h2
    go_wp2
    go_ret2
    exact ⟨.inl ⟨g, D, rw, M', HD.out, rfl, HF.out.1, HF.out.2⟩, U⟩
  · have HF := Lib.hid (T.ref_none (o := T.o0) HV.out (fun k _ => (Nat.zero_testBit k).symm) h1)
    replace U := U.trans u
    clear u HCl h1
    go_wp2
    go_ret2
    exact ⟨.inr ⟨rfl, HF.out⟩, U⟩
end

end Go.Proofs.Ytlpkheoljbdajaa

/- The contracts of the reference's Offset, Between, Person and Path. -/
namespace Go.Proofs.Ytlpkheoljbdajaa
open Go.RowKit Go.Shelf
attribute [local go_sem] Oper.semAt_some

section
variable {bl bh rl rh : Int} {aP aQ aL : Option Addr} {nP cP nQ cQ nL cL : Nat} {ps qs : List (Int × Int)} {ls : List T.T5}
set_option maxRecDepth 100000 in
set_option maxHeartbeats 2000000 in
set_option linter.unusedSimpArgs false in
theorem r_Offset_any {w : World} {M n l h e : Int} (I : Sps w (.slice aP nP cP) ps) (J : Sps w (.slice aQ nQ cQ) qs) (K : Lks w (.slice aL nL cL) ls) (hq : (T.qErr M bl bh rl rh ps qs ls 2 [n] ≠ 0 ∧ e = T.qErr M bl bh rl rh ps qs ls 2 [n] ∧ l = 0 ∧ h = 0) ∨ (T.qErr M bl bh rl rh ps qs ls 2 [n] = 0 ∧ ∀ N : Nat, M = N → T.Tells (T.Tr N bl bh rl rh ps qs ls) 0 (1 + n) l h e)) :
    Calls Try.prog 25 #[BoV M bl bh rl rh (.slice aP nP cP) (.slice aQ nQ cQ) (.slice aL nL cL), .int .i64 n] w fun e' w' => e' = .returned (.tuple #[SpV l h, .int .i64 e]) ∧ Up w w' := by
  have hmx : Try.prog.follows .mixedOrders = true := by kernel_rfl
  have hn := I.len
  have hno := J.len
  have hnp := K.len
  have mP := I.max
  have mQ := J.max
  subst hn hno hnp
  obtain ⟨q0, e0⟩ : ∃ x, w.heap.size = x := ⟨_, rfl⟩
  have U := ((Up.refl w).alloc (.cells (BoC M bl bh rl rh (.slice aP ps.length cP) (.slice aQ qs.length cQ) (.slice aL ls.length cL)) 27)).alloc (.cells #[.int .i64 0, .int .i64 0] 23)
  have kB := blk_keep (.cells #[.int .i64 0, .int .i64 0] 23) (blk_new w (.cells (BoC M bl bh rl rh (.slice aP ps.length cP) (.slice aQ qs.length cQ) (.slice aL ls.length cL)) 27) q0 e0.symm)
  have kZ := blk_new (w.alloc (.cells (BoC M bl bh rl rh (.slice aP ps.length cP) (.slice aQ qs.length cQ) (.slice aL ls.length cL)) 27)) (.cells #[.int .i64 0, .int .i64 0] 23) (q0 + 1) (by simp [e0])
  have HI := Lib.hid (fun w' (u : Up w w') => I.up u)
  have HJ := Lib.hid (fun w' (u : Up w w') => J.up u)
  have HK := Lib.hid (fun w' (u : Up w w') => K.up u)
  unfold T.qErr at hq
  clear I J K
  obtain ⟨lm, hlm⟩ : ∃ x, IntKind.i64.wrap (M - 1) = x := ⟨_, rfl⟩
  have hcase : (((T.valid M bl bh rl rh ps qs ls = false ∧ e = 30) ∨ (T.valid M bl bh rl rh ps qs ls = true ∧ inB n 0 lm = false ∧ e = 31)) ∧ l = 0 ∧ h = 0 ∧ e ≠ 0) ∨ (T.valid M bl bh rl rh ps qs ls = true ∧ inB n 0 lm = true ∧ ∀ N : Nat, M = N → T.Tells (T.Tr N bl bh rl rh ps qs ls) 0 (1 + n) l h e) := by
    cases hv : T.valid M bl bh rl rh ps qs ls with
    | false =>
      rw [hv] at hq
      rcases hq with ⟨h1, h2, h3, h4⟩ | ⟨h1, _⟩
      · exact .inl ⟨.inl ⟨rfl, h2⟩, h3, h4, by rw [h2]; exact h1⟩
      · cases h1
    | true =>
      rw [hv] at hq
      obtain ⟨⟨hN, _⟩, _⟩ := T.valid_parts hv
      have ha : T.askd ps.length qs.length M 2 [n] = inB n 0 lm := by
        rw [← hlm, show IntKind.i64.wrap (M - 1) = M - 1 from IntWalk.i64_in _ (by omega)]
        unfold T.askd T.many
        simp
      rw [ha] at hq
      cases hb : inB n 0 lm with
      | false =>
        rw [hb] at hq
        rcases hq with ⟨h1, h2, h3, h4⟩ | ⟨h1, _⟩
        · exact .inl ⟨.inr ⟨rfl, rfl, h2⟩, h3, h4, by rw [h2]; exact h1⟩
        · cases h1
      | true =>
        rw [hb] at hq
        rcases hq with ⟨h1, _⟩ | ⟨_, h2⟩
        · exact absurd rfl h1
        · exact .inr ⟨rfl, rfl, h2⟩
  clear hq
  go_enter Try.func25, Try.ntmps25
  go_wp2_with fail
  obtain ⟨X0, hX0⟩ : ∃ z, (w.alloc (.cells (BoC M bl bh rl rh (.slice aP ps.length cP) (.slice aQ qs.length cQ) (.slice aL ls.length cL)) 27)).alloc (.cells #[.int .i64 0, .int .i64 0] 23) = z := ⟨_, rfl⟩
  rw [hX0] at U kB kZ
  try rw [hX0]
  clear hX0
  rcases hcase with hcase | hcase
  · skip
    obtain ⟨hq, rfl, rfl, he0⟩ := hcase
    have hb : (e != 0) = true := by rw [bne_iff_ne]; exact he0
    clear he0
    refine (wpIn_wide (n := 5)).1 ?_
    refine wpIn_nrm ?_
    refine regionG (fun w' => Up w w' ∧ mblk w' q0 = some (.cells (BoC M bl bh rl rh (.slice aP ps.length cP) (.slice aQ qs.length cQ) (.slice aL ls.length cL)) 27 (0, 0)) ∧ mblk w' (q0 + 1) = some (.cells #[.int .i64 0, .int .i64 0] 23 (0, 0))) 11 hmx ⟨U.drew, (by rw [blk_drew]; exact kB), (by rw [blk_drew]; exact kZ)⟩ (fun hHeld hCl => ?_)
    refine takeG (i := 0) (d := (some 9)) (v := ?v1) rfl rfl (by kernel_rfl) (by kernel_rfl) (by decide) hCl (by kernel_rfl) (by kernel_rfl) (by kernel_rfl) (fun _ _ _ h => h) (by rfl) ?hy1 (fun _ _ _ => trivial) (by assumption) (fun hCl' => ?_)
    case hy1 => ((intro w hSw; (try dsimp only at hSw); (try go_split_ands); go_simp); try with_reducible rfl)
    simp only [Act.put, List.setIfInBounds_toArray, List.set_cons_zero, List.set_cons_succ]
    replace hCl := hCl'; clear hCl'
    refine takeG (i := 1) (d := (some 10)) (v := ?v2) rfl rfl (by kernel_rfl) (by kernel_rfl) (by decide) hCl (by kernel_rfl) (by kernel_rfl) (by kernel_rfl) (fun _ _ _ h => h) (by rfl) ?hy2 (fun _ _ _ => trivial) (by assumption) (fun hCl' => ?_)
    case hy2 => ((intro w hSw; (try dsimp only at hSw); (try go_split_ands); go_simp); try with_reducible rfl)
    simp only [Act.put, List.setIfInBounds_toArray, List.set_cons_zero, List.set_cons_succ]
    replace hCl := hCl'; clear hCl'
    refine takeG (i := 2) (d := (some 11)) (v := ?v3) rfl rfl (by kernel_rfl) (by kernel_rfl) (by decide) hCl (by kernel_rfl) (by kernel_rfl) (by kernel_rfl) (fun _ _ _ h => h) (by rfl) ?hy3 (fun _ _ _ => trivial) (by assumption) (fun hCl' => ?_)
    case hy3 => ((intro w hSw; (try dsimp only at hSw); (try go_split_ands); go_simp); try with_reducible rfl)
    simp only [Act.put, List.setIfInBounds_toArray, List.set_cons_zero, List.set_cons_succ]
    replace hCl := hCl'; clear hCl'
    refine takeG (i := 3) (d := (some 12)) (v := ?v4) rfl rfl (by kernel_rfl) (by kernel_rfl) (by decide) hCl (by kernel_rfl) (by kernel_rfl) (by kernel_rfl) (fun _ _ _ h => h) (by rfl) ?hy4 (fun _ _ _ => trivial) (by assumption) (fun hCl' => ?_)
    case hy4 => ((intro w hSw; (try dsimp only at hSw); (try go_split_ands); go_simp); try with_reducible rfl)
    simp only [Act.put, List.setIfInBounds_toArray, List.set_cons_zero, List.set_cons_succ]
    replace hCl := hCl'; clear hCl'
    refine takeG (i := 4) (d := (some 13)) (v := ?v5) rfl rfl (by kernel_rfl) (by kernel_rfl) (by decide) hCl (by kernel_rfl) (by kernel_rfl) (by kernel_rfl) (fun _ _ _ h => h) (by rfl) ?hy5 (fun _ _ _ => trivial) (by assumption) (fun hCl' => ?_)
    case hy5 => ((intro w hSw; (try dsimp only at hSw); (try go_split_ands); go_simp); try with_reducible rfl)
    simp only [Act.put, List.setIfInBounds_toArray, List.set_cons_zero, List.set_cons_succ]
    replace hCl := hCl'; clear hCl'
    refine nextG (i := 5) (by kernel_rfl) rfl (by rfl) hCl (fun K hK => ?_)
    go_simp
    refine ⟨trivial, (callsIn_wide.2 (B_Lies_any _ _ _ _)).mono ?_⟩
    rintro e' w9 ⟨rfl, rfl⟩
    refine hK.out _ _ hHeld (fun hHeld hCl => ?_)
    clear hK K
    try dsimp only [List.getElem_toArray, List.getElem_cons_succ, List.getElem_cons_zero]
    try simp only [Act.put, List.setIfInBounds_toArray, List.set_cons_zero, List.set_cons_succ]
    refine nextG (i := 6) (by kernel_rfl) rfl (by rfl) hCl (fun K hK => ?_)
    go_simp
    refine ⟨trivial, (callsIn_wide.2 (r_asked_err (r := inB n 0 lm) (HI.out _ hHeld.1) (HJ.out _ hHeld.1) (HK.out _ hHeld.1) hq)).mono ?_⟩
    rintro e' X1 ⟨rfl, u⟩
    refine hK.out _ _ ⟨hHeld.1.trans u, u.blk hHeld.2.1, u.blk hHeld.2.2⟩ (fun hHeld hCl => ?_)
    clear hK K u
    try dsimp only [List.getElem_toArray, List.getElem_cons_succ, List.getElem_cons_zero]
    try simp only [Act.put, List.setIfInBounds_toArray, List.set_cons_zero, List.set_cons_succ]
    refine takeG (i := 7) (d := (some 8)) (v := ?v8) rfl rfl (by kernel_rfl) (by kernel_rfl) (by decide) hCl (by kernel_rfl) (by kernel_rfl) (by kernel_rfl) (fun _ _ _ h => h) (by rfl) ?hy8 (fun _ _ _ => trivial) (by assumption) (fun hCl' => ?_)
    case hy8 => ((intro w hSw; (try dsimp only at hSw); (try go_split_ands); go_simp); try with_reducible rfl)
    simp only [Act.put, List.setIfInBounds_toArray, List.set_cons_zero, List.set_cons_succ]
    replace hCl := hCl'; clear hCl'
    refine takeG (i := 8) (d := (some 16)) (v := ?v9) rfl rfl (by kernel_rfl) (by kernel_rfl) (by decide) hCl (by kernel_rfl) (by kernel_rfl) (by kernel_rfl) (fun _ _ _ h => h) (by rfl) ?hy9 (fun _ _ _ => trivial) (by assumption) (fun hCl' => ?_)
    case hy9 => ((intro w hSw; (try dsimp only at hSw); (try go_split_ands); go_simp); try with_reducible rfl)
    simp only [Act.put, List.setIfInBounds_toArray, List.set_cons_zero, List.set_cons_succ]
    replace hCl := hCl'; clear hCl'
    refine takeG (i := 9) (d := (some 17)) (v := ?v10) rfl rfl (by kernel_rfl) (by kernel_rfl) (by decide) hCl (by kernel_rfl) (by kernel_rfl) (by kernel_rfl) (fun _ _ _ h => h) (by rfl) ?hy10 (fun _ _ _ => trivial) (by assumption) (fun hCl' => ?_)
    case hy10 => ((intro w hSw; (try dsimp only at hSw); (try go_split_ands); go_simp); try with_reducible rfl)
    simp only [Act.put, List.setIfInBounds_toArray, List.set_cons_zero, List.set_cons_succ]
    replace hCl := hCl'; clear hCl'
    refine nextG (i := 10) (by kernel_rfl) rfl (by rfl) hCl (fun K hK => ?_)
    go_simp
    refine hK.out _ _ hHeld (fun hHeld hCl => ?_)
    clear hK K
    try dsimp only [List.getElem_toArray, List.getElem_cons_succ, List.getElem_cons_zero]
    try simp only [Act.put, List.setIfInBounds_toArray, List.set_cons_zero, List.set_cons_succ]
    clear hCl
    refine lastG (i := 11) (by kernel_rfl) rfl (by rfl) (by decide) (fun K hK => ?_)
    go_simp
    refine hK.out _ _ ?_
    clear hK K
    refine doneG (by kernel_rfl) ?_ _
    refine S.nrm_intro ?_
    clear U kB kZ
    obtain ⟨U, kB, kZ⟩ := hHeld
    have zz := frozB kZ
    have KZ := Lib.hid (show mblk ((X1.setCell ⟨q0 + 1, 0, none⟩ (.int .i64 0)).setCell ⟨q0 + 1, 1, none⟩ (.int .i64 0)) (q0 + 1) = some (.cells #[.int .i64 0, .int .i64 0] 23 (0, 0)) from blk_put (blk_put kZ 0 _) 1 _)
    have UZ := Lib.hid ((U.set (p := ⟨q0 + 1, 0, none⟩) (show w.heap.size ≤ q0 + 1 by omega) (.int .i64 0)).set (p := ⟨q0 + 1, 1, none⟩) (show w.heap.size ≤ q0 + 1 by omega) (.int .i64 0))
    go_wp2_with fail
    have cc := cellB KZ.out
    exact bodyPost_ret (v := .tuple #[SpV 0 0, .int .i64 e]) (by simp [results, Try.results25, go_sem, cc]) rfl ⟨rfl, UZ.out⟩
  · skip
    obtain ⟨hv, hb, hq⟩ := hcase
    obtain ⟨N, rfl⟩ := T.valid_N hv
    have tt := hq N rfl
    clear hq
    obtain ⟨⟨hN, _⟩, ⟨h4, h5, _⟩, _⟩ := T.valid_parts hv
    rw [show IntKind.i64.wrap ((N : Int) - 1) = (N : Int) - 1 from IntWalk.i64_in _ (by omega)] at hlm
    subst hlm
    have hlm : IntKind.i64.wrap ((N : Int) - 1) = (N : Int) - 1 := IntWalk.i64_in _ (by omega)
    have HV := Lib.hid hv
    have HAk := Lib.hid (fun w' (u : Up w w') => r_asked_ok (bl := bl) (bh := bh) (rl := rl) (rh := rh) (HI.out _ u) (HJ.out _ u) (HK.out _ u) hv)
    clear hv
    have hb1 := hb
    have rn := inB_iff.1 hb1
    obtain ⟨kn, rfl⟩ := Int.eq_ofNat_of_zero_le rn.1
    have ln : kn < N := by omega
    refine (wpIn_wide (n := 5)).1 ?_
    refine wpIn_nrm ?_
    refine regionG (fun w' => Up w w' ∧ mblk w' q0 = some (.cells (BoC (N : Int) bl bh rl rh (.slice aP ps.length cP) (.slice aQ qs.length cQ) (.slice aL ls.length cL)) 27 (0, 0)) ∧ mblk w' (q0 + 1) = some (.cells #[.int .i64 0, .int .i64 0] 23 (0, 0))) 11 hmx ⟨U.drew, (by rw [blk_drew]; exact kB), (by rw [blk_drew]; exact kZ)⟩ (fun hHeld hCl => ?_)
    refine takeG (i := 0) (d := (some 9)) (v := ?v13) rfl rfl (by kernel_rfl) (by kernel_rfl) (by decide) hCl (by kernel_rfl) (by kernel_rfl) (by kernel_rfl) (fun _ _ _ h => h) (by rfl) ?hy13 (fun _ _ _ => trivial) (by assumption) (fun hCl' => ?_)
    case hy13 => ((intro w hSw; (try dsimp only at hSw); (try go_split_ands); go_simp); try with_reducible rfl)
    simp only [Act.put, List.setIfInBounds_toArray, List.set_cons_zero, List.set_cons_succ]
    replace hCl := hCl'; clear hCl'
    refine takeG (i := 1) (d := (some 10)) (v := ?v14) rfl rfl (by kernel_rfl) (by kernel_rfl) (by decide) hCl (by kernel_rfl) (by kernel_rfl) (by kernel_rfl) (fun _ _ _ h => h) (by rfl) ?hy14 (fun _ _ _ => trivial) (by assumption) (fun hCl' => ?_)
    case hy14 => ((intro w hSw; (try dsimp only at hSw); (try go_split_ands); go_simp); try with_reducible rfl)
    simp only [Act.put, List.setIfInBounds_toArray, List.set_cons_zero, List.set_cons_succ]
    replace hCl := hCl'; clear hCl'
    refine takeG (i := 2) (d := (some 11)) (v := ?v15) rfl rfl (by kernel_rfl) (by kernel_rfl) (by decide) hCl (by kernel_rfl) (by kernel_rfl) (by kernel_rfl) (fun _ _ _ h => h) (by rfl) ?hy15 (fun _ _ _ => trivial) (by assumption) (fun hCl' => ?_)
    case hy15 => ((intro w hSw; (try dsimp only at hSw); (try go_split_ands); go_simp); try with_reducible rfl)
    simp only [Act.put, List.setIfInBounds_toArray, List.set_cons_zero, List.set_cons_succ]
    replace hCl := hCl'; clear hCl'
    refine takeG (i := 3) (d := (some 12)) (v := ?v16) rfl rfl (by kernel_rfl) (by kernel_rfl) (by decide) hCl (by kernel_rfl) (by kernel_rfl) (by kernel_rfl) (fun _ _ _ h => h) (by rfl) ?hy16 (fun _ _ _ => trivial) (by assumption) (fun hCl' => ?_)
    case hy16 => ((intro w hSw; (try dsimp only at hSw); (try go_split_ands); go_simp); try with_reducible rfl)
    simp only [Act.put, List.setIfInBounds_toArray, List.set_cons_zero, List.set_cons_succ]
    replace hCl := hCl'; clear hCl'
    refine takeG (i := 4) (d := (some 13)) (v := ?v17) rfl rfl (by kernel_rfl) (by kernel_rfl) (by decide) hCl (by kernel_rfl) (by kernel_rfl) (by kernel_rfl) (fun _ _ _ h => h) (by rfl) ?hy17 (fun _ _ _ => trivial) (by assumption) (fun hCl' => ?_)
    case hy17 => ((intro w hSw; (try dsimp only at hSw); (try go_split_ands); go_simp); try with_reducible rfl)
    simp only [Act.put, List.setIfInBounds_toArray, List.set_cons_zero, List.set_cons_succ]
    replace hCl := hCl'; clear hCl'
    refine nextG (i := 5) (by kernel_rfl) rfl (by rfl) hCl (fun K hK => ?_)
    go_simp
    refine ⟨trivial, (callsIn_wide.2 (B_Lies_any _ _ _ _)).mono ?_⟩
    rintro e' w9 ⟨rfl, rfl⟩
    rw [hb1]
    refine hK.out _ _ hHeld (fun hHeld hCl => ?_)
    clear hK K
    try dsimp only [List.getElem_toArray, List.getElem_cons_succ, List.getElem_cons_zero]
    try simp only [Act.put, List.setIfInBounds_toArray, List.set_cons_zero, List.set_cons_succ]
    refine nextG (i := 6) (by kernel_rfl) rfl (by rfl) hCl (fun K hK => ?_)
    go_simp
    refine ⟨trivial, (callsIn_wide.2 (HAk.out _ hHeld.1)).mono ?_⟩
    rintro e' X1 ⟨⟨g, D, rw, Mm, hD, rfl, HM, HF⟩ | ⟨rfl, hno⟩, u⟩
    · skip
      have HD := Lib.hid hD
      clear hD
      refine hK.out _ _ ⟨hHeld.1.trans u, u.blk hHeld.2.1, u.blk hHeld.2.2⟩ (fun hHeld hCl => ?_)
      clear hK K u HAk
      try dsimp only [List.getElem_toArray, List.getElem_cons_succ, List.getElem_cons_zero]
      try simp only [Act.put, List.setIfInBounds_toArray, List.set_cons_zero, List.set_cons_succ]
      refine takeG (i := 7) (d := (some 8)) (v := ?v20) rfl rfl (by kernel_rfl) (by kernel_rfl) (by decide) hCl (by kernel_rfl) (by kernel_rfl) (by kernel_rfl) (fun _ _ _ h => h) (by rfl) ?hy20 (fun _ _ _ => trivial) (by assumption) (fun hCl' => ?_)
      case hy20 => ((intro w hSw; (try dsimp only at hSw); (try go_split_ands); go_simp); try with_reducible rfl)
      simp only [Act.put, List.setIfInBounds_toArray, List.set_cons_zero, List.set_cons_succ]
      replace hCl := hCl'; clear hCl'
      refine takeG (i := 8) (d := (some 16)) (v := ?v21) rfl rfl (by kernel_rfl) (by kernel_rfl) (by decide) hCl (by kernel_rfl) (by kernel_rfl) (by kernel_rfl) (fun _ _ _ h => h) (by rfl) ?hy21 (fun _ _ _ => trivial) (by assumption) (fun hCl' => ?_)
      case hy21 => ((intro w hSw; (try dsimp only at hSw); (try go_split_ands); go_simp); try with_reducible rfl)
      simp only [Act.put, List.setIfInBounds_toArray, List.set_cons_zero, List.set_cons_succ]
      replace hCl := hCl'; clear hCl'
      refine takeG (i := 9) (d := (some 17)) (v := ?v22) rfl rfl (by kernel_rfl) (by kernel_rfl) (by decide) hCl (by kernel_rfl) (by kernel_rfl) (by kernel_rfl) (fun _ _ _ h => h) (by rfl) ?hy22 (fun _ _ _ => trivial) (by assumption) (fun hCl' => ?_)
      case hy22 => ((intro w hSw; (try dsimp only at hSw); (try go_split_ands); go_simp); try with_reducible rfl)
      simp only [Act.put, List.setIfInBounds_toArray, List.set_cons_zero, List.set_cons_succ]
      replace hCl := hCl'; clear hCl'
      refine nextG (i := 10) (by kernel_rfl) rfl (by rfl) hCl (fun K hK => ?_)
      go_simp
      refine hK.out _ _ hHeld (fun hHeld hCl => ?_)
      clear hK K
      try dsimp only [List.getElem_toArray, List.getElem_cons_succ, List.getElem_cons_zero]
      try simp only [Act.put, List.setIfInBounds_toArray, List.set_cons_zero, List.set_cons_succ]
      clear hCl
      refine lastG (i := 11) (by kernel_rfl) rfl (by rfl) (by decide) (fun K hK => ?_)
      go_simp
      refine hK.out _ _ ?_
      clear hK K
      refine doneG (by kernel_rfl) ?_ _
      refine S.nrm_intro ?_
      clear U kB kZ
      obtain ⟨U, kB, kZ⟩ := hHeld
      obtain ⟨A, hA⟩ : ∃ A, 0 = A := ⟨_, rfl⟩
      obtain ⟨B, hB⟩ : ∃ B, 1 + kn = B := ⟨_, rfl⟩
      have lA : A < D := by have := HD.out; omega
      have lB : B < D := by have := HD.out; omega
      have t2 := HF.tells HV.out (o := T.o0) (fun k _ => (Nat.zero_testBit k).symm) T.al_0 (T.al_night (n := (kn : Int)) ⟨by omega, by omega⟩)
      rw [show T.rx N ps.length 0 = A from (T.rx_n (k := 0) (by omega)).trans hA, show T.rx N ps.length (1 + (kn : Int)) = B from ((T.rx_1 (k := kn) (by omega)).trans (Nat.add_comm _ _)).trans hB] at t2
      obtain ⟨h1, h2, h3⟩ := tt.uniq t2
      subst h3
      have HBt := Lib.hid (fun w' (u : Up X1 w') => show Calls Try.prog 67 #[.slice (some ⟨g, 0, none⟩) D D, .int .i64 (A : Int), .int .i64 (B : Int)] w' fun e w'' => e = .returned (SpV l h) ∧ Up w' w'' by rw [h1, h2]; exact r_between_any (HM.up u) lA lB (by have := (HF B A (by have := HD.out; omega) (by have := HD.out; omega)).1; omega))
      clear t2 h1 h2 HF HM tt
      have wB : IntKind.i64.wrap (1 + (kn : Int)) = (B : Int) := by rw [show 1 + (kn : Int) = (B : Int) by omega]; exact IntWalk.i64_in _ (by omega)
      replace HBt := Lib.hid (fun w' (u : Up X1 w') => show Calls Try.prog 67 #[.slice (some ⟨g, 0, none⟩) D D, .int .i64 0, .int .i64 (B : Int)] w' fun e w'' => e = .returned (SpV l h) ∧ Up w' w'' by have q := HBt.out w' u; rw [← hA] at q; exact q)
      have Uz := Up.refl X1
      clear hA hB lA lB
      go_wp2_with fail
      refine (HBt.out _ Uz).mono ?_
      rintro e x51 ⟨rfl, u52⟩
      replace U := U.trans u52
      replace kB := u52.blk kB
      replace kZ := u52.blk kZ
      replace Uz := Uz.trans u52
      clear u52 HBt
      have zz := frozB kZ
      have KZ := Lib.hid (show mblk ((x51.setCell ⟨q0 + 1, 0, none⟩ (.int .i64 l)).setCell ⟨q0 + 1, 1, none⟩ (.int .i64 h)) (q0 + 1) = some (.cells #[.int .i64 l, .int .i64 h] 23 (0, 0)) from blk_put (blk_put kZ 0 _) 1 _)
      have UZ := Lib.hid ((U.set (p := ⟨q0 + 1, 0, none⟩) (show w.heap.size ≤ q0 + 1 by omega) (.int .i64 l)).set (p := ⟨q0 + 1, 1, none⟩) (show w.heap.size ≤ q0 + 1 by omega) (.int .i64 h))
      go_wp2_with fail
      have cc := cellB KZ.out
      exact bodyPost_ret (v := .tuple #[SpV l h, .int .i64 0]) (by simp [results, Try.results25, go_sem, cc]) rfl ⟨rfl, UZ.out⟩
    · skip
      obtain ⟨h3, h1, h2⟩ := tt.none hno
      subst h1 h2 h3
      refine hK.out _ _ ⟨hHeld.1.trans u, u.blk hHeld.2.1, u.blk hHeld.2.2⟩ (fun hHeld hCl => ?_)
      clear hK K u HAk hno tt
      try dsimp only [List.getElem_toArray, List.getElem_cons_succ, List.getElem_cons_zero]
      try simp only [Act.put, List.setIfInBounds_toArray, List.set_cons_zero, List.set_cons_succ]
      refine takeG (i := 7) (d := (some 8)) (v := ?v25) rfl rfl (by kernel_rfl) (by kernel_rfl) (by decide) hCl (by kernel_rfl) (by kernel_rfl) (by kernel_rfl) (fun _ _ _ h => h) (by rfl) ?hy25 (fun _ _ _ => trivial) (by assumption) (fun hCl' => ?_)
      case hy25 => ((intro w hSw; (try dsimp only at hSw); (try go_split_ands); go_simp); try with_reducible rfl)
      simp only [Act.put, List.setIfInBounds_toArray, List.set_cons_zero, List.set_cons_succ]
      replace hCl := hCl'; clear hCl'
      refine takeG (i := 8) (d := (some 16)) (v := ?v26) rfl rfl (by kernel_rfl) (by kernel_rfl) (by decide) hCl (by kernel_rfl) (by kernel_rfl) (by kernel_rfl) (fun _ _ _ h => h) (by rfl) ?hy26 (fun _ _ _ => trivial) (by assumption) (fun hCl' => ?_)
      case hy26 => ((intro w hSw; (try dsimp only at hSw); (try go_split_ands); go_simp); try with_reducible rfl)
      simp only [Act.put, List.setIfInBounds_toArray, List.set_cons_zero, List.set_cons_succ]
      replace hCl := hCl'; clear hCl'
      refine takeG (i := 9) (d := (some 17)) (v := ?v27) rfl rfl (by kernel_rfl) (by kernel_rfl) (by decide) hCl (by kernel_rfl) (by kernel_rfl) (by kernel_rfl) (fun _ _ _ h => h) (by rfl) ?hy27 (fun _ _ _ => trivial) (by assumption) (fun hCl' => ?_)
      case hy27 => ((intro w hSw; (try dsimp only at hSw); (try go_split_ands); go_simp); try with_reducible rfl)
      simp only [Act.put, List.setIfInBounds_toArray, List.set_cons_zero, List.set_cons_succ]
      replace hCl := hCl'; clear hCl'
      refine nextG (i := 10) (by kernel_rfl) rfl (by rfl) hCl (fun K hK => ?_)
      go_simp
      refine hK.out _ _ hHeld (fun hHeld hCl => ?_)
      clear hK K
      try dsimp only [List.getElem_toArray, List.getElem_cons_succ, List.getElem_cons_zero]
      try simp only [Act.put, List.setIfInBounds_toArray, List.set_cons_zero, List.set_cons_succ]
      clear hCl
      refine lastG (i := 11) (by kernel_rfl) rfl (by rfl) (by decide) (fun K hK => ?_)
      go_simp
      refine hK.out _ _ ?_
      clear hK K
      refine doneG (by kernel_rfl) ?_ _
      refine S.nrm_intro ?_
      clear U kB kZ
      obtain ⟨U, kB, kZ⟩ := hHeld
      have zz := frozB kZ
      have KZ := Lib.hid (show mblk ((X1.setCell ⟨q0 + 1, 0, none⟩ (.int .i64 0)).setCell ⟨q0 + 1, 1, none⟩ (.int .i64 0)) (q0 + 1) = some (.cells #[.int .i64 0, .int .i64 0] 23 (0, 0)) from blk_put (blk_put kZ 0 _) 1 _)
      have UZ := Lib.hid ((U.set (p := ⟨q0 + 1, 0, none⟩) (show w.heap.size ≤ q0 + 1 by omega) (.int .i64 0)).set (p := ⟨q0 + 1, 1, none⟩) (show w.heap.size ≤ q0 + 1 by omega) (.int .i64 0))
      go_wp2_with fail
      have cc := cellB KZ.out
      exact bodyPost_ret (v := .tuple #[SpV 0 0, .int .i64 32]) (by simp [results, Try.results25, go_sem, cc]) rfl ⟨rfl, UZ.out⟩
set_option maxRecDepth 100000 in
set_option maxHeartbeats 2000000 in
set_option linter.unusedSimpArgs false in
theorem r_Person_any {w : World} {M n l h e : Int} (I : Sps w (.slice aP nP cP) ps) (J : Sps w (.slice aQ nQ cQ) qs) (K : Lks w (.slice aL nL cL) ls) (hq : (T.qErr M bl bh rl rh ps qs ls 0 [n] ≠ 0 ∧ e = T.qErr M bl bh rl rh ps qs ls 0 [n] ∧ l = 0 ∧ h = 0) ∨ (T.qErr M bl bh rl rh ps qs ls 0 [n] = 0 ∧ ∀ N : Nat, M = N → T.Tells (T.Tr N bl bh rl rh ps qs ls) (9 + n) 0 l h e)) :
    Calls Try.prog 27 #[BoV M bl bh rl rh (.slice aP nP cP) (.slice aQ nQ cQ) (.slice aL nL cL), .int .i64 n] w fun e' w' => e' = .returned (.tuple #[SpV l h, .int .i64 e]) ∧ Up w w' := by
  have hmx : Try.prog.follows .mixedOrders = true := by kernel_rfl
  have hn := I.len
  have hno := J.len
  have hnp := K.len
  have mP := I.max
  have mQ := J.max
  subst hn hno hnp
  obtain ⟨q0, e0⟩ : ∃ x, w.heap.size = x := ⟨_, rfl⟩
  have U := ((Up.refl w).alloc (.cells (BoC M bl bh rl rh (.slice aP ps.length cP) (.slice aQ qs.length cQ) (.slice aL ls.length cL)) 27)).alloc (.cells #[.int .i64 0, .int .i64 0] 23)
  have kB := blk_keep (.cells #[.int .i64 0, .int .i64 0] 23) (blk_new w (.cells (BoC M bl bh rl rh (.slice aP ps.length cP) (.slice aQ qs.length cQ) (.slice aL ls.length cL)) 27) q0 e0.symm)
  have kZ := blk_new (w.alloc (.cells (BoC M bl bh rl rh (.slice aP ps.length cP) (.slice aQ qs.length cQ) (.slice aL ls.length cL)) 27)) (.cells #[.int .i64 0, .int .i64 0] 23) (q0 + 1) (by simp [e0])
  have HI := Lib.hid (fun w' (u : Up w w') => I.up u)
  have HJ := Lib.hid (fun w' (u : Up w w') => J.up u)
  have HK := Lib.hid (fun w' (u : Up w w') => K.up u)
  unfold T.qErr at hq
  clear I J K
  have hlm : IntKind.i64.wrap ((ps.length : Int) - 1) = (ps.length : Int) - 1 := IntWalk.i64_in _ (by omega)
  have hcase : (((T.valid M bl bh rl rh ps qs ls = false ∧ e = 30) ∨ (T.valid M bl bh rl rh ps qs ls = true ∧ inB n 0 ((ps.length : Int) - 1) = false ∧ e = 31)) ∧ l = 0 ∧ h = 0 ∧ e ≠ 0) ∨ (T.valid M bl bh rl rh ps qs ls = true ∧ inB n 0 ((ps.length : Int) - 1) = true ∧ ∀ N : Nat, M = N → T.Tells (T.Tr N bl bh rl rh ps qs ls) (9 + n) 0 l h e) := by
    cases hv : T.valid M bl bh rl rh ps qs ls with
    | false =>
      rw [hv] at hq
      rcases hq with ⟨h1, h2, h3, h4⟩ | ⟨h1, _⟩
      · exact .inl ⟨.inl ⟨rfl, h2⟩, h3, h4, by rw [h2]; exact h1⟩
      · cases h1
    | true =>
      rw [hv] at hq
      obtain ⟨⟨hN, _⟩, _⟩ := T.valid_parts hv
      have ha : T.askd ps.length qs.length M 0 [n] = inB n 0 ((ps.length : Int) - 1) := by
        skip
        unfold T.askd T.many
        simp
      rw [ha] at hq
      cases hb : inB n 0 ((ps.length : Int) - 1) with
      | false =>
        rw [hb] at hq
        rcases hq with ⟨h1, h2, h3, h4⟩ | ⟨h1, _⟩
        · exact .inl ⟨.inr ⟨rfl, rfl, h2⟩, h3, h4, by rw [h2]; exact h1⟩
        · cases h1
      | true =>
        rw [hb] at hq
        rcases hq with ⟨h1, _⟩ | ⟨_, h2⟩
        · exact absurd rfl h1
        · exact .inr ⟨rfl, rfl, h2⟩
  clear hq
  go_enter Try.func27, Try.ntmps27
  go_wp2_with fail
  obtain ⟨X0, hX0⟩ : ∃ z, (w.alloc (.cells (BoC M bl bh rl rh (.slice aP ps.length cP) (.slice aQ qs.length cQ) (.slice aL ls.length cL)) 27)).alloc (.cells #[.int .i64 0, .int .i64 0] 23) = z := ⟨_, rfl⟩
  rw [hX0] at U kB kZ
  try rw [hX0]
  clear hX0
  rcases hcase with hcase | hcase
  · skip
    obtain ⟨hq, rfl, rfl, he0⟩ := hcase
    have hb : (e != 0) = true := by rw [bne_iff_ne]; exact he0
    clear he0
    refine (wpIn_wide (n := 5)).1 ?_
    refine wpIn_nrm ?_
    refine regionG (fun w' => Up w w' ∧ mblk w' q0 = some (.cells (BoC M bl bh rl rh (.slice aP ps.length cP) (.slice aQ qs.length cQ) (.slice aL ls.length cL)) 27 (0, 0)) ∧ mblk w' (q0 + 1) = some (.cells #[.int .i64 0, .int .i64 0] 23 (0, 0))) 12 hmx ⟨U.drew, (by rw [blk_drew]; exact kB), (by rw [blk_drew]; exact kZ)⟩ (fun hHeld hCl => ?_)
    refine takeG (i := 0) (d := (some 9)) (v := ?v30) rfl rfl (by kernel_rfl) (by kernel_rfl) (by decide) hCl (by kernel_rfl) (by kernel_rfl) (by kernel_rfl) (fun _ _ _ h => h) (by rfl) ?hy30 (fun _ _ _ => trivial) (by assumption) (fun hCl' => ?_)
    case hy30 => ((intro w hSw; (try dsimp only at hSw); (try go_split_ands); go_simp); try with_reducible rfl)
    simp only [Act.put, List.setIfInBounds_toArray, List.set_cons_zero, List.set_cons_succ]
    replace hCl := hCl'; clear hCl'
    refine takeG (i := 1) (d := (some 10)) (v := ?v31) rfl rfl (by kernel_rfl) (by kernel_rfl) (by decide) hCl (by kernel_rfl) (by kernel_rfl) (by kernel_rfl) (fun _ _ _ h => h) (by rfl) ?hy31 (fun _ _ _ => trivial) (by assumption) (fun hCl' => ?_)
    case hy31 => ((intro w hSw; (try dsimp only at hSw); (try go_split_ands); go_simp); try with_reducible rfl)
    simp only [Act.put, List.setIfInBounds_toArray, List.set_cons_zero, List.set_cons_succ]
    replace hCl := hCl'; clear hCl'
    refine takeG (i := 2) (d := (some 11)) (v := ?v32) rfl rfl (by kernel_rfl) (by kernel_rfl) (by decide) hCl (by kernel_rfl) (by kernel_rfl) (by kernel_rfl) (fun _ _ _ h => h) (by rfl) ?hy32 (fun _ _ _ => trivial) (by assumption) (fun hCl' => ?_)
    case hy32 => ((intro w hSw; (try dsimp only at hSw); (try go_split_ands); go_simp); try with_reducible rfl)
    simp only [Act.put, List.setIfInBounds_toArray, List.set_cons_zero, List.set_cons_succ]
    replace hCl := hCl'; clear hCl'
    refine takeG (i := 3) (d := (some 12)) (v := ?v33) rfl rfl (by kernel_rfl) (by kernel_rfl) (by decide) hCl (by kernel_rfl) (by kernel_rfl) (by kernel_rfl) (fun _ _ _ h => h) (by rfl) ?hy33 (fun _ _ _ => trivial) (by assumption) (fun hCl' => ?_)
    case hy33 => ((intro w hSw; (try dsimp only at hSw); (try go_split_ands); go_simp); try with_reducible rfl)
    simp only [Act.put, List.setIfInBounds_toArray, List.set_cons_zero, List.set_cons_succ]
    replace hCl := hCl'; clear hCl'
    refine takeG (i := 4) (d := (some 13)) (v := ?v34) rfl rfl (by kernel_rfl) (by kernel_rfl) (by decide) hCl (by kernel_rfl) (by kernel_rfl) (by kernel_rfl) (fun _ _ _ h => h) (by rfl) ?hy34 (fun _ _ _ => trivial) (by assumption) (fun hCl' => ?_)
    case hy34 => ((intro w hSw; (try dsimp only at hSw); (try go_split_ands); go_simp); try with_reducible rfl)
    simp only [Act.put, List.setIfInBounds_toArray, List.set_cons_zero, List.set_cons_succ]
    replace hCl := hCl'; clear hCl'
    refine takeG (i := 5) (d := (some 14)) (v := ?v35) rfl rfl (by kernel_rfl) (by kernel_rfl) (by decide) hCl (by kernel_rfl) (by kernel_rfl) (by kernel_rfl) (fun _ _ _ h => h) (by rfl) ?hy35 (fun _ _ _ => trivial) (by assumption) (fun hCl' => ?_)
    case hy35 => ((intro w hSw; (try dsimp only at hSw); (try go_split_ands); go_simp); try with_reducible rfl)
    simp only [Act.put, List.setIfInBounds_toArray, List.set_cons_zero, List.set_cons_succ]
    replace hCl := hCl'; clear hCl'
    refine nextG (i := 6) (by kernel_rfl) rfl (by rfl) hCl (fun K hK => ?_)
    go_simp
    refine ⟨trivial, (callsIn_wide.2 (B_Lies_any _ _ _ _)).mono ?_⟩
    rintro e' w9 ⟨rfl, rfl⟩
    refine hK.out _ _ hHeld (fun hHeld hCl => ?_)
    clear hK K
    try dsimp only [List.getElem_toArray, List.getElem_cons_succ, List.getElem_cons_zero]
    try simp only [Act.put, List.setIfInBounds_toArray, List.set_cons_zero, List.set_cons_succ]
    refine nextG (i := 7) (by kernel_rfl) rfl (by rfl) hCl (fun K hK => ?_)
    go_simp
    refine ⟨trivial, (callsIn_wide.2 (r_asked_err (r := inB n 0 ((ps.length : Int) - 1)) (HI.out _ hHeld.1) (HJ.out _ hHeld.1) (HK.out _ hHeld.1) hq)).mono ?_⟩
    rintro e' X1 ⟨rfl, u⟩
    refine hK.out _ _ ⟨hHeld.1.trans u, u.blk hHeld.2.1, u.blk hHeld.2.2⟩ (fun hHeld hCl => ?_)
    clear hK K u
    try dsimp only [List.getElem_toArray, List.getElem_cons_succ, List.getElem_cons_zero]
    try simp only [Act.put, List.setIfInBounds_toArray, List.set_cons_zero, List.set_cons_succ]
    refine takeG (i := 8) (d := (some 8)) (v := ?v38) rfl rfl (by kernel_rfl) (by kernel_rfl) (by decide) hCl (by kernel_rfl) (by kernel_rfl) (by kernel_rfl) (fun _ _ _ h => h) (by rfl) ?hy38 (fun _ _ _ => trivial) (by assumption) (fun hCl' => ?_)
    case hy38 => ((intro w hSw; (try dsimp only at hSw); (try go_split_ands); go_simp); try with_reducible rfl)
    simp only [Act.put, List.setIfInBounds_toArray, List.set_cons_zero, List.set_cons_succ]
    replace hCl := hCl'; clear hCl'
    refine takeG (i := 9) (d := (some 17)) (v := ?v39) rfl rfl (by kernel_rfl) (by kernel_rfl) (by decide) hCl (by kernel_rfl) (by kernel_rfl) (by kernel_rfl) (fun _ _ _ h => h) (by rfl) ?hy39 (fun _ _ _ => trivial) (by assumption) (fun hCl' => ?_)
    case hy39 => ((intro w hSw; (try dsimp only at hSw); (try go_split_ands); go_simp); try with_reducible rfl)
    simp only [Act.put, List.setIfInBounds_toArray, List.set_cons_zero, List.set_cons_succ]
    replace hCl := hCl'; clear hCl'
    refine takeG (i := 10) (d := (some 18)) (v := ?v40) rfl rfl (by kernel_rfl) (by kernel_rfl) (by decide) hCl (by kernel_rfl) (by kernel_rfl) (by kernel_rfl) (fun _ _ _ h => h) (by rfl) ?hy40 (fun _ _ _ => trivial) (by assumption) (fun hCl' => ?_)
    case hy40 => ((intro w hSw; (try dsimp only at hSw); (try go_split_ands); go_simp); try with_reducible rfl)
    simp only [Act.put, List.setIfInBounds_toArray, List.set_cons_zero, List.set_cons_succ]
    replace hCl := hCl'; clear hCl'
    refine nextG (i := 11) (by kernel_rfl) rfl (by rfl) hCl (fun K hK => ?_)
    go_simp
    refine hK.out _ _ hHeld (fun hHeld hCl => ?_)
    clear hK K
    try dsimp only [List.getElem_toArray, List.getElem_cons_succ, List.getElem_cons_zero]
    try simp only [Act.put, List.setIfInBounds_toArray, List.set_cons_zero, List.set_cons_succ]
    clear hCl
    refine lastG (i := 12) (by kernel_rfl) rfl (by rfl) (by decide) (fun K hK => ?_)
    go_simp
    refine hK.out _ _ ?_
    clear hK K
    refine doneG (by kernel_rfl) ?_ _
    refine S.nrm_intro ?_
    clear U kB kZ
    obtain ⟨U, kB, kZ⟩ := hHeld
    have zz := frozB kZ
    have KZ := Lib.hid (show mblk ((X1.setCell ⟨q0 + 1, 0, none⟩ (.int .i64 0)).setCell ⟨q0 + 1, 1, none⟩ (.int .i64 0)) (q0 + 1) = some (.cells #[.int .i64 0, .int .i64 0] 23 (0, 0)) from blk_put (blk_put kZ 0 _) 1 _)
    have UZ := Lib.hid ((U.set (p := ⟨q0 + 1, 0, none⟩) (show w.heap.size ≤ q0 + 1 by omega) (.int .i64 0)).set (p := ⟨q0 + 1, 1, none⟩) (show w.heap.size ≤ q0 + 1 by omega) (.int .i64 0))
    go_wp2_with fail
    have cc := cellB KZ.out
    exact bodyPost_ret (v := .tuple #[SpV 0 0, .int .i64 e]) (by simp [results, Try.results27, go_sem, cc]) rfl ⟨rfl, UZ.out⟩
  · skip
    obtain ⟨hv, hb, hq⟩ := hcase
    obtain ⟨N, rfl⟩ := T.valid_N hv
    have tt := hq N rfl
    clear hq
    obtain ⟨⟨hN, _⟩, ⟨h4, h5, _⟩, _⟩ := T.valid_parts hv
    have HV := Lib.hid hv
    have HAk := Lib.hid (fun w' (u : Up w w') => r_asked_ok (bl := bl) (bh := bh) (rl := rl) (rh := rh) (HI.out _ u) (HJ.out _ u) (HK.out _ u) hv)
    clear hv
    have hb1 := hb
    have rn := inB_iff.1 hb1
    obtain ⟨kn, rfl⟩ := Int.eq_ofNat_of_zero_le rn.1
    have ln : kn < ps.length := by omega
    refine (wpIn_wide (n := 5)).1 ?_
    refine wpIn_nrm ?_
    refine regionG (fun w' => Up w w' ∧ mblk w' q0 = some (.cells (BoC (N : Int) bl bh rl rh (.slice aP ps.length cP) (.slice aQ qs.length cQ) (.slice aL ls.length cL)) 27 (0, 0)) ∧ mblk w' (q0 + 1) = some (.cells #[.int .i64 0, .int .i64 0] 23 (0, 0))) 12 hmx ⟨U.drew, (by rw [blk_drew]; exact kB), (by rw [blk_drew]; exact kZ)⟩ (fun hHeld hCl => ?_)
    refine takeG (i := 0) (d := (some 9)) (v := ?v43) rfl rfl (by kernel_rfl) (by kernel_rfl) (by decide) hCl (by kernel_rfl) (by kernel_rfl) (by kernel_rfl) (fun _ _ _ h => h) (by rfl) ?hy43 (fun _ _ _ => trivial) (by assumption) (fun hCl' => ?_)
    case hy43 => ((intro w hSw; (try dsimp only at hSw); (try go_split_ands); go_simp); try with_reducible rfl)
    simp only [Act.put, List.setIfInBounds_toArray, List.set_cons_zero, List.set_cons_succ]
    replace hCl := hCl'; clear hCl'
    refine takeG (i := 1) (d := (some 10)) (v := ?v44) rfl rfl (by kernel_rfl) (by kernel_rfl) (by decide) hCl (by kernel_rfl) (by kernel_rfl) (by kernel_rfl) (fun _ _ _ h => h) (by rfl) ?hy44 (fun _ _ _ => trivial) (by assumption) (fun hCl' => ?_)
    case hy44 => ((intro w hSw; (try dsimp only at hSw); (try go_split_ands); go_simp); try with_reducible rfl)
    simp only [Act.put, List.setIfInBounds_toArray, List.set_cons_zero, List.set_cons_succ]
    replace hCl := hCl'; clear hCl'
    refine takeG (i := 2) (d := (some 11)) (v := ?v45) rfl rfl (by kernel_rfl) (by kernel_rfl) (by decide) hCl (by kernel_rfl) (by kernel_rfl) (by kernel_rfl) (fun _ _ _ h => h) (by rfl) ?hy45 (fun _ _ _ => trivial) (by assumption) (fun hCl' => ?_)
    case hy45 => ((intro w hSw; (try dsimp only at hSw); (try go_split_ands); go_simp); try with_reducible rfl)
    simp only [Act.put, List.setIfInBounds_toArray, List.set_cons_zero, List.set_cons_succ]
    replace hCl := hCl'; clear hCl'
    refine takeG (i := 3) (d := (some 12)) (v := ?v46) rfl rfl (by kernel_rfl) (by kernel_rfl) (by decide) hCl (by kernel_rfl) (by kernel_rfl) (by kernel_rfl) (fun _ _ _ h => h) (by rfl) ?hy46 (fun _ _ _ => trivial) (by assumption) (fun hCl' => ?_)
    case hy46 => ((intro w hSw; (try dsimp only at hSw); (try go_split_ands); go_simp); try with_reducible rfl)
    simp only [Act.put, List.setIfInBounds_toArray, List.set_cons_zero, List.set_cons_succ]
    replace hCl := hCl'; clear hCl'
    refine takeG (i := 4) (d := (some 13)) (v := ?v47) rfl rfl (by kernel_rfl) (by kernel_rfl) (by decide) hCl (by kernel_rfl) (by kernel_rfl) (by kernel_rfl) (fun _ _ _ h => h) (by rfl) ?hy47 (fun _ _ _ => trivial) (by assumption) (fun hCl' => ?_)
    case hy47 => ((intro w hSw; (try dsimp only at hSw); (try go_split_ands); go_simp); try with_reducible rfl)
    simp only [Act.put, List.setIfInBounds_toArray, List.set_cons_zero, List.set_cons_succ]
    replace hCl := hCl'; clear hCl'
    refine takeG (i := 5) (d := (some 14)) (v := ?v48) rfl rfl (by kernel_rfl) (by kernel_rfl) (by decide) hCl (by kernel_rfl) (by kernel_rfl) (by kernel_rfl) (fun _ _ _ h => h) (by rfl) ?hy48 (fun _ _ _ => trivial) (by assumption) (fun hCl' => ?_)
    case hy48 => ((intro w hSw; (try dsimp only at hSw); (try go_split_ands); go_simp); try with_reducible rfl)
    simp only [Act.put, List.setIfInBounds_toArray, List.set_cons_zero, List.set_cons_succ]
    replace hCl := hCl'; clear hCl'
    refine nextG (i := 6) (by kernel_rfl) rfl (by rfl) hCl (fun K hK => ?_)
    go_simp
    refine ⟨trivial, (callsIn_wide.2 (B_Lies_any _ _ _ _)).mono ?_⟩
    rintro e' w9 ⟨rfl, rfl⟩
    rw [hb1]
    refine hK.out _ _ hHeld (fun hHeld hCl => ?_)
    clear hK K
    try dsimp only [List.getElem_toArray, List.getElem_cons_succ, List.getElem_cons_zero]
    try simp only [Act.put, List.setIfInBounds_toArray, List.set_cons_zero, List.set_cons_succ]
    refine nextG (i := 7) (by kernel_rfl) rfl (by rfl) hCl (fun K hK => ?_)
    go_simp
    refine ⟨trivial, (callsIn_wide.2 (HAk.out _ hHeld.1)).mono ?_⟩
    rintro e' X1 ⟨⟨g, D, rw, Mm, hD, rfl, HM, HF⟩ | ⟨rfl, hno⟩, u⟩
    · skip
      have HD := Lib.hid hD
      clear hD
      refine hK.out _ _ ⟨hHeld.1.trans u, u.blk hHeld.2.1, u.blk hHeld.2.2⟩ (fun hHeld hCl => ?_)
      clear hK K u HAk
      try dsimp only [List.getElem_toArray, List.getElem_cons_succ, List.getElem_cons_zero]
      try simp only [Act.put, List.setIfInBounds_toArray, List.set_cons_zero, List.set_cons_succ]
      refine takeG (i := 8) (d := (some 8)) (v := ?v51) rfl rfl (by kernel_rfl) (by kernel_rfl) (by decide) hCl (by kernel_rfl) (by kernel_rfl) (by kernel_rfl) (fun _ _ _ h => h) (by rfl) ?hy51 (fun _ _ _ => trivial) (by assumption) (fun hCl' => ?_)
      case hy51 => ((intro w hSw; (try dsimp only at hSw); (try go_split_ands); go_simp); try with_reducible rfl)
      simp only [Act.put, List.setIfInBounds_toArray, List.set_cons_zero, List.set_cons_succ]
      replace hCl := hCl'; clear hCl'
      refine takeG (i := 9) (d := (some 17)) (v := ?v52) rfl rfl (by kernel_rfl) (by kernel_rfl) (by decide) hCl (by kernel_rfl) (by kernel_rfl) (by kernel_rfl) (fun _ _ _ h => h) (by rfl) ?hy52 (fun _ _ _ => trivial) (by assumption) (fun hCl' => ?_)
      case hy52 => ((intro w hSw; (try dsimp only at hSw); (try go_split_ands); go_simp); try with_reducible rfl)
      simp only [Act.put, List.setIfInBounds_toArray, List.set_cons_zero, List.set_cons_succ]
      replace hCl := hCl'; clear hCl'
      refine takeG (i := 10) (d := (some 18)) (v := ?v53) rfl rfl (by kernel_rfl) (by kernel_rfl) (by decide) hCl (by kernel_rfl) (by kernel_rfl) (by kernel_rfl) (fun _ _ _ h => h) (by rfl) ?hy53 (fun _ _ _ => trivial) (by assumption) (fun hCl' => ?_)
      case hy53 => ((intro w hSw; (try dsimp only at hSw); (try go_split_ands); go_simp); try with_reducible rfl)
      simp only [Act.put, List.setIfInBounds_toArray, List.set_cons_zero, List.set_cons_succ]
      replace hCl := hCl'; clear hCl'
      refine nextG (i := 11) (by kernel_rfl) rfl (by rfl) hCl (fun K hK => ?_)
      go_simp
      refine hK.out _ _ hHeld (fun hHeld hCl => ?_)
      clear hK K
      try dsimp only [List.getElem_toArray, List.getElem_cons_succ, List.getElem_cons_zero]
      try simp only [Act.put, List.setIfInBounds_toArray, List.set_cons_zero, List.set_cons_succ]
      clear hCl
      refine lastG (i := 12) (by kernel_rfl) rfl (by rfl) (by decide) (fun K hK => ?_)
      go_simp
      refine hK.out _ _ ?_
      clear hK K
      refine doneG (by kernel_rfl) ?_ _
      refine S.nrm_intro ?_
      clear U kB kZ
      obtain ⟨U, kB, kZ⟩ := hHeld
      obtain ⟨A, hA⟩ : ∃ A, 1 + N + kn = A := ⟨_, rfl⟩
      obtain ⟨B, hB⟩ : ∃ B, 0 = B := ⟨_, rfl⟩
      have lA : A < D := by have := HD.out; omega
      have lB : B < D := by have := HD.out; omega
      have t2 := HF.tells HV.out (o := T.o0) (fun k _ => (Nat.zero_testBit k).symm) (T.al_per (n := (kn : Int)) ⟨by omega, by omega⟩) T.al_0
      rw [show T.rx N ps.length (9 + (kn : Int)) = A from (T.rx_p (k := kn) (by omega)).trans hA, show T.rx N ps.length 0 = B from (T.rx_n (k := 0) (by omega)).trans hB] at t2
      obtain ⟨h1, h2, h3⟩ := tt.uniq t2
      subst h3
      have HBt := Lib.hid (fun w' (u : Up X1 w') => show Calls Try.prog 67 #[.slice (some ⟨g, 0, none⟩) D D, .int .i64 (A : Int), .int .i64 (B : Int)] w' fun e w'' => e = .returned (SpV l h) ∧ Up w' w'' by rw [h1, h2]; exact r_between_any (HM.up u) lA lB (by have := (HF B A (by have := HD.out; omega) (by have := HD.out; omega)).1; omega))
      clear t2 h1 h2 HF HM tt
      have HPe := Lib.hid (fun w => show Calls Try.prog 68 #[BoV (N : Int) bl bh rl rh (.slice aP ps.length cP) (.slice aQ qs.length cQ) (.slice aL ls.length cL), .int .i64 (kn : Int)] w fun e w' => e = .returned (.int .i64 (A : Int)) ∧ Up w w' by rw [← hA]; exact r_person_any w (by omega) (by omega))
      replace HBt := Lib.hid (fun w' (u : Up X1 w') => show Calls Try.prog 67 #[.slice (some ⟨g, 0, none⟩) D D, .int .i64 (A : Int), .int .i64 0] w' fun e w'' => e = .returned (SpV l h) ∧ Up w' w'' by have q := HBt.out w' u; rw [← hB] at q; exact q)
      have Uz := Up.refl X1
      clear hA hB lA lB
      go_wp2_with fail
      refine (HPe.out _).mono ?_
      rintro e x51 ⟨rfl, u52⟩
      replace U := U.trans u52
      replace kB := u52.blk kB
      replace kZ := u52.blk kZ
      replace Uz := Uz.trans u52
      clear u52 HPe
      go_wp2_with fail
      refine (HBt.out _ Uz).mono ?_
      rintro e x53 ⟨rfl, u54⟩
      replace U := U.trans u54
      replace kB := u54.blk kB
      replace kZ := u54.blk kZ
      replace Uz := Uz.trans u54
      clear u54 HBt
      have zz := frozB kZ
      have KZ := Lib.hid (show mblk ((x53.setCell ⟨q0 + 1, 0, none⟩ (.int .i64 l)).setCell ⟨q0 + 1, 1, none⟩ (.int .i64 h)) (q0 + 1) = some (.cells #[.int .i64 l, .int .i64 h] 23 (0, 0)) from blk_put (blk_put kZ 0 _) 1 _)
      have UZ := Lib.hid ((U.set (p := ⟨q0 + 1, 0, none⟩) (show w.heap.size ≤ q0 + 1 by omega) (.int .i64 l)).set (p := ⟨q0 + 1, 1, none⟩) (show w.heap.size ≤ q0 + 1 by omega) (.int .i64 h))
      go_wp2_with fail
      have cc := cellB KZ.out
      exact bodyPost_ret (v := .tuple #[SpV l h, .int .i64 0]) (by simp [results, Try.results27, go_sem, cc]) rfl ⟨rfl, UZ.out⟩
    · skip
      obtain ⟨h3, h1, h2⟩ := tt.none hno
      subst h1 h2 h3
      refine hK.out _ _ ⟨hHeld.1.trans u, u.blk hHeld.2.1, u.blk hHeld.2.2⟩ (fun hHeld hCl => ?_)
      clear hK K u HAk hno tt
      try dsimp only [List.getElem_toArray, List.getElem_cons_succ, List.getElem_cons_zero]
      try simp only [Act.put, List.setIfInBounds_toArray, List.set_cons_zero, List.set_cons_succ]
      refine takeG (i := 8) (d := (some 8)) (v := ?v56) rfl rfl (by kernel_rfl) (by kernel_rfl) (by decide) hCl (by kernel_rfl) (by kernel_rfl) (by kernel_rfl) (fun _ _ _ h => h) (by rfl) ?hy56 (fun _ _ _ => trivial) (by assumption) (fun hCl' => ?_)
      case hy56 => ((intro w hSw; (try dsimp only at hSw); (try go_split_ands); go_simp); try with_reducible rfl)
      simp only [Act.put, List.setIfInBounds_toArray, List.set_cons_zero, List.set_cons_succ]
      replace hCl := hCl'; clear hCl'
      refine takeG (i := 9) (d := (some 17)) (v := ?v57) rfl rfl (by kernel_rfl) (by kernel_rfl) (by decide) hCl (by kernel_rfl) (by kernel_rfl) (by kernel_rfl) (fun _ _ _ h => h) (by rfl) ?hy57 (fun _ _ _ => trivial) (by assumption) (fun hCl' => ?_)
      case hy57 => ((intro w hSw; (try dsimp only at hSw); (try go_split_ands); go_simp); try with_reducible rfl)
      simp only [Act.put, List.setIfInBounds_toArray, List.set_cons_zero, List.set_cons_succ]
      replace hCl := hCl'; clear hCl'
      refine takeG (i := 10) (d := (some 18)) (v := ?v58) rfl rfl (by kernel_rfl) (by kernel_rfl) (by decide) hCl (by kernel_rfl) (by kernel_rfl) (by kernel_rfl) (fun _ _ _ h => h) (by rfl) ?hy58 (fun _ _ _ => trivial) (by assumption) (fun hCl' => ?_)
      case hy58 => ((intro w hSw; (try dsimp only at hSw); (try go_split_ands); go_simp); try with_reducible rfl)
      simp only [Act.put, List.setIfInBounds_toArray, List.set_cons_zero, List.set_cons_succ]
      replace hCl := hCl'; clear hCl'
      refine nextG (i := 11) (by kernel_rfl) rfl (by rfl) hCl (fun K hK => ?_)
      go_simp
      refine hK.out _ _ hHeld (fun hHeld hCl => ?_)
      clear hK K
      try dsimp only [List.getElem_toArray, List.getElem_cons_succ, List.getElem_cons_zero]
      try simp only [Act.put, List.setIfInBounds_toArray, List.set_cons_zero, List.set_cons_succ]
      clear hCl
      refine lastG (i := 12) (by kernel_rfl) rfl (by rfl) (by decide) (fun K hK => ?_)
      go_simp
      refine hK.out _ _ ?_
      clear hK K
      refine doneG (by kernel_rfl) ?_ _
      refine S.nrm_intro ?_
      clear U kB kZ
      obtain ⟨U, kB, kZ⟩ := hHeld
      have zz := frozB kZ
      have KZ := Lib.hid (show mblk ((X1.setCell ⟨q0 + 1, 0, none⟩ (.int .i64 0)).setCell ⟨q0 + 1, 1, none⟩ (.int .i64 0)) (q0 + 1) = some (.cells #[.int .i64 0, .int .i64 0] 23 (0, 0)) from blk_put (blk_put kZ 0 _) 1 _)
      have UZ := Lib.hid ((U.set (p := ⟨q0 + 1, 0, none⟩) (show w.heap.size ≤ q0 + 1 by omega) (.int .i64 0)).set (p := ⟨q0 + 1, 1, none⟩) (show w.heap.size ≤ q0 + 1 by omega) (.int .i64 0))
      go_wp2_with fail
      have cc := cellB KZ.out
      exact bodyPost_ret (v := .tuple #[SpV 0 0, .int .i64 32]) (by simp [results, Try.results27, go_sem, cc]) rfl ⟨rfl, UZ.out⟩
set_option maxRecDepth 100000 in
set_option maxHeartbeats 2000000 in
set_option linter.unusedSimpArgs false in
theorem r_Path_any {w : World} {M n l h e : Int} (I : Sps w (.slice aP nP cP) ps) (J : Sps w (.slice aQ nQ cQ) qs) (K : Lks w (.slice aL nL cL) ls) (hq : (T.qErr M bl bh rl rh ps qs ls 1 [n] ≠ 0 ∧ e = T.qErr M bl bh rl rh ps qs ls 1 [n] ∧ l = 0 ∧ h = 0) ∨ (T.qErr M bl bh rl rh ps qs ls 1 [n] = 0 ∧ ∀ N : Nat, M = N → T.Tells (T.Tr N bl bh rl rh ps qs ls) 0 (13 + n) l h e)) :
    Calls Try.prog 29 #[BoV M bl bh rl rh (.slice aP nP cP) (.slice aQ nQ cQ) (.slice aL nL cL), .int .i64 n] w fun e' w' => e' = .returned (.tuple #[SpV l h, .int .i64 e]) ∧ Up w w' := by
  have hmx : Try.prog.follows .mixedOrders = true := by kernel_rfl
  have hn := I.len
  have hno := J.len
  have hnp := K.len
  have mP := I.max
  have mQ := J.max
  subst hn hno hnp
  obtain ⟨q0, e0⟩ : ∃ x, w.heap.size = x := ⟨_, rfl⟩
  have U := ((Up.refl w).alloc (.cells (BoC M bl bh rl rh (.slice aP ps.length cP) (.slice aQ qs.length cQ) (.slice aL ls.length cL)) 27)).alloc (.cells #[.int .i64 0, .int .i64 0] 23)
  have kB := blk_keep (.cells #[.int .i64 0, .int .i64 0] 23) (blk_new w (.cells (BoC M bl bh rl rh (.slice aP ps.length cP) (.slice aQ qs.length cQ) (.slice aL ls.length cL)) 27) q0 e0.symm)
  have kZ := blk_new (w.alloc (.cells (BoC M bl bh rl rh (.slice aP ps.length cP) (.slice aQ qs.length cQ) (.slice aL ls.length cL)) 27)) (.cells #[.int .i64 0, .int .i64 0] 23) (q0 + 1) (by simp [e0])
  have HI := Lib.hid (fun w' (u : Up w w') => I.up u)
  have HJ := Lib.hid (fun w' (u : Up w w') => J.up u)
  have HK := Lib.hid (fun w' (u : Up w w') => K.up u)
  unfold T.qErr at hq
  clear I J K
  have hlm : IntKind.i64.wrap ((qs.length : Int) - 1) = (qs.length : Int) - 1 := IntWalk.i64_in _ (by omega)
  have hcase : (((T.valid M bl bh rl rh ps qs ls = false ∧ e = 30) ∨ (T.valid M bl bh rl rh ps qs ls = true ∧ inB n 0 ((qs.length : Int) - 1) = false ∧ e = 31)) ∧ l = 0 ∧ h = 0 ∧ e ≠ 0) ∨ (T.valid M bl bh rl rh ps qs ls = true ∧ inB n 0 ((qs.length : Int) - 1) = true ∧ ∀ N : Nat, M = N → T.Tells (T.Tr N bl bh rl rh ps qs ls) 0 (13 + n) l h e) := by
    cases hv : T.valid M bl bh rl rh ps qs ls with
    | false =>
      rw [hv] at hq
      rcases hq with ⟨h1, h2, h3, h4⟩ | ⟨h1, _⟩
      · exact .inl ⟨.inl ⟨rfl, h2⟩, h3, h4, by rw [h2]; exact h1⟩
      · cases h1
    | true =>
      rw [hv] at hq
      obtain ⟨⟨hN, _⟩, _⟩ := T.valid_parts hv
      have ha : T.askd ps.length qs.length M 1 [n] = inB n 0 ((qs.length : Int) - 1) := by
        skip
        unfold T.askd T.many
        simp
      rw [ha] at hq
      cases hb : inB n 0 ((qs.length : Int) - 1) with
      | false =>
        rw [hb] at hq
        rcases hq with ⟨h1, h2, h3, h4⟩ | ⟨h1, _⟩
        · exact .inl ⟨.inr ⟨rfl, rfl, h2⟩, h3, h4, by rw [h2]; exact h1⟩
        · cases h1
      | true =>
        rw [hb] at hq
        rcases hq with ⟨h1, _⟩ | ⟨_, h2⟩
        · exact absurd rfl h1
        · exact .inr ⟨rfl, rfl, h2⟩
  clear hq
  go_enter Try.func29, Try.ntmps29
  go_wp2_with fail
  obtain ⟨X0, hX0⟩ : ∃ z, (w.alloc (.cells (BoC M bl bh rl rh (.slice aP ps.length cP) (.slice aQ qs.length cQ) (.slice aL ls.length cL)) 27)).alloc (.cells #[.int .i64 0, .int .i64 0] 23) = z := ⟨_, rfl⟩
  rw [hX0] at U kB kZ
  try rw [hX0]
  clear hX0
  rcases hcase with hcase | hcase
  · skip
    obtain ⟨hq, rfl, rfl, he0⟩ := hcase
    have hb : (e != 0) = true := by rw [bne_iff_ne]; exact he0
    clear he0
    refine (wpIn_wide (n := 5)).1 ?_
    refine wpIn_nrm ?_
    refine regionG (fun w' => Up w w' ∧ mblk w' q0 = some (.cells (BoC M bl bh rl rh (.slice aP ps.length cP) (.slice aQ qs.length cQ) (.slice aL ls.length cL)) 27 (0, 0)) ∧ mblk w' (q0 + 1) = some (.cells #[.int .i64 0, .int .i64 0] 23 (0, 0))) 12 hmx ⟨U.drew, (by rw [blk_drew]; exact kB), (by rw [blk_drew]; exact kZ)⟩ (fun hHeld hCl => ?_)
    refine takeG (i := 0) (d := (some 9)) (v := ?v61) rfl rfl (by kernel_rfl) (by kernel_rfl) (by decide) hCl (by kernel_rfl) (by kernel_rfl) (by kernel_rfl) (fun _ _ _ h => h) (by rfl) ?hy61 (fun _ _ _ => trivial) (by assumption) (fun hCl' => ?_)
    case hy61 => ((intro w hSw; (try dsimp only at hSw); (try go_split_ands); go_simp); try with_reducible rfl)
    simp only [Act.put, List.setIfInBounds_toArray, List.set_cons_zero, List.set_cons_succ]
    replace hCl := hCl'; clear hCl'
    refine takeG (i := 1) (d := (some 10)) (v := ?v62) rfl rfl (by kernel_rfl) (by kernel_rfl) (by decide) hCl (by kernel_rfl) (by kernel_rfl) (by kernel_rfl) (fun _ _ _ h => h) (by rfl) ?hy62 (fun _ _ _ => trivial) (by assumption) (fun hCl' => ?_)
    case hy62 => ((intro w hSw; (try dsimp only at hSw); (try go_split_ands); go_simp); try with_reducible rfl)
    simp only [Act.put, List.setIfInBounds_toArray, List.set_cons_zero, List.set_cons_succ]
    replace hCl := hCl'; clear hCl'
    refine takeG (i := 2) (d := (some 11)) (v := ?v63) rfl rfl (by kernel_rfl) (by kernel_rfl) (by decide) hCl (by kernel_rfl) (by kernel_rfl) (by kernel_rfl) (fun _ _ _ h => h) (by rfl) ?hy63 (fun _ _ _ => trivial) (by assumption) (fun hCl' => ?_)
    case hy63 => ((intro w hSw; (try dsimp only at hSw); (try go_split_ands); go_simp); try with_reducible rfl)
    simp only [Act.put, List.setIfInBounds_toArray, List.set_cons_zero, List.set_cons_succ]
    replace hCl := hCl'; clear hCl'
    refine takeG (i := 3) (d := (some 12)) (v := ?v64) rfl rfl (by kernel_rfl) (by kernel_rfl) (by decide) hCl (by kernel_rfl) (by kernel_rfl) (by kernel_rfl) (fun _ _ _ h => h) (by rfl) ?hy64 (fun _ _ _ => trivial) (by assumption) (fun hCl' => ?_)
    case hy64 => ((intro w hSw; (try dsimp only at hSw); (try go_split_ands); go_simp); try with_reducible rfl)
    simp only [Act.put, List.setIfInBounds_toArray, List.set_cons_zero, List.set_cons_succ]
    replace hCl := hCl'; clear hCl'
    refine takeG (i := 4) (d := (some 13)) (v := ?v65) rfl rfl (by kernel_rfl) (by kernel_rfl) (by decide) hCl (by kernel_rfl) (by kernel_rfl) (by kernel_rfl) (fun _ _ _ h => h) (by rfl) ?hy65 (fun _ _ _ => trivial) (by assumption) (fun hCl' => ?_)
    case hy65 => ((intro w hSw; (try dsimp only at hSw); (try go_split_ands); go_simp); try with_reducible rfl)
    simp only [Act.put, List.setIfInBounds_toArray, List.set_cons_zero, List.set_cons_succ]
    replace hCl := hCl'; clear hCl'
    refine takeG (i := 5) (d := (some 14)) (v := ?v66) rfl rfl (by kernel_rfl) (by kernel_rfl) (by decide) hCl (by kernel_rfl) (by kernel_rfl) (by kernel_rfl) (fun _ _ _ h => h) (by rfl) ?hy66 (fun _ _ _ => trivial) (by assumption) (fun hCl' => ?_)
    case hy66 => ((intro w hSw; (try dsimp only at hSw); (try go_split_ands); go_simp); try with_reducible rfl)
    simp only [Act.put, List.setIfInBounds_toArray, List.set_cons_zero, List.set_cons_succ]
    replace hCl := hCl'; clear hCl'
    refine nextG (i := 6) (by kernel_rfl) rfl (by rfl) hCl (fun K hK => ?_)
    go_simp
    refine ⟨trivial, (callsIn_wide.2 (B_Lies_any _ _ _ _)).mono ?_⟩
    rintro e' w9 ⟨rfl, rfl⟩
    refine hK.out _ _ hHeld (fun hHeld hCl => ?_)
    clear hK K
    try dsimp only [List.getElem_toArray, List.getElem_cons_succ, List.getElem_cons_zero]
    try simp only [Act.put, List.setIfInBounds_toArray, List.set_cons_zero, List.set_cons_succ]
    refine nextG (i := 7) (by kernel_rfl) rfl (by rfl) hCl (fun K hK => ?_)
    go_simp
    refine ⟨trivial, (callsIn_wide.2 (r_asked_err (r := inB n 0 ((qs.length : Int) - 1)) (HI.out _ hHeld.1) (HJ.out _ hHeld.1) (HK.out _ hHeld.1) hq)).mono ?_⟩
    rintro e' X1 ⟨rfl, u⟩
    refine hK.out _ _ ⟨hHeld.1.trans u, u.blk hHeld.2.1, u.blk hHeld.2.2⟩ (fun hHeld hCl => ?_)
    clear hK K u
    try dsimp only [List.getElem_toArray, List.getElem_cons_succ, List.getElem_cons_zero]
    try simp only [Act.put, List.setIfInBounds_toArray, List.set_cons_zero, List.set_cons_succ]
    refine takeG (i := 8) (d := (some 8)) (v := ?v69) rfl rfl (by kernel_rfl) (by kernel_rfl) (by decide) hCl (by kernel_rfl) (by kernel_rfl) (by kernel_rfl) (fun _ _ _ h => h) (by rfl) ?hy69 (fun _ _ _ => trivial) (by assumption) (fun hCl' => ?_)
    case hy69 => ((intro w hSw; (try dsimp only at hSw); (try go_split_ands); go_simp); try with_reducible rfl)
    simp only [Act.put, List.setIfInBounds_toArray, List.set_cons_zero, List.set_cons_succ]
    replace hCl := hCl'; clear hCl'
    refine takeG (i := 9) (d := (some 17)) (v := ?v70) rfl rfl (by kernel_rfl) (by kernel_rfl) (by decide) hCl (by kernel_rfl) (by kernel_rfl) (by kernel_rfl) (fun _ _ _ h => h) (by rfl) ?hy70 (fun _ _ _ => trivial) (by assumption) (fun hCl' => ?_)
    case hy70 => ((intro w hSw; (try dsimp only at hSw); (try go_split_ands); go_simp); try with_reducible rfl)
    simp only [Act.put, List.setIfInBounds_toArray, List.set_cons_zero, List.set_cons_succ]
    replace hCl := hCl'; clear hCl'
    refine takeG (i := 10) (d := (some 18)) (v := ?v71) rfl rfl (by kernel_rfl) (by kernel_rfl) (by decide) hCl (by kernel_rfl) (by kernel_rfl) (by kernel_rfl) (fun _ _ _ h => h) (by rfl) ?hy71 (fun _ _ _ => trivial) (by assumption) (fun hCl' => ?_)
    case hy71 => ((intro w hSw; (try dsimp only at hSw); (try go_split_ands); go_simp); try with_reducible rfl)
    simp only [Act.put, List.setIfInBounds_toArray, List.set_cons_zero, List.set_cons_succ]
    replace hCl := hCl'; clear hCl'
    refine nextG (i := 11) (by kernel_rfl) rfl (by rfl) hCl (fun K hK => ?_)
    go_simp
    refine hK.out _ _ hHeld (fun hHeld hCl => ?_)
    clear hK K
    try dsimp only [List.getElem_toArray, List.getElem_cons_succ, List.getElem_cons_zero]
    try simp only [Act.put, List.setIfInBounds_toArray, List.set_cons_zero, List.set_cons_succ]
    clear hCl
    refine lastG (i := 12) (by kernel_rfl) rfl (by rfl) (by decide) (fun K hK => ?_)
    go_simp
    refine hK.out _ _ ?_
    clear hK K
    refine doneG (by kernel_rfl) ?_ _
    refine S.nrm_intro ?_
    clear U kB kZ
    obtain ⟨U, kB, kZ⟩ := hHeld
    have zz := frozB kZ
    have KZ := Lib.hid (show mblk ((X1.setCell ⟨q0 + 1, 0, none⟩ (.int .i64 0)).setCell ⟨q0 + 1, 1, none⟩ (.int .i64 0)) (q0 + 1) = some (.cells #[.int .i64 0, .int .i64 0] 23 (0, 0)) from blk_put (blk_put kZ 0 _) 1 _)
    have UZ := Lib.hid ((U.set (p := ⟨q0 + 1, 0, none⟩) (show w.heap.size ≤ q0 + 1 by omega) (.int .i64 0)).set (p := ⟨q0 + 1, 1, none⟩) (show w.heap.size ≤ q0 + 1 by omega) (.int .i64 0))
    go_wp2_with fail
    have cc := cellB KZ.out
    exact bodyPost_ret (v := .tuple #[SpV 0 0, .int .i64 e]) (by simp [results, Try.results29, go_sem, cc]) rfl ⟨rfl, UZ.out⟩
  · skip
    obtain ⟨hv, hb, hq⟩ := hcase
    obtain ⟨N, rfl⟩ := T.valid_N hv
    have tt := hq N rfl
    clear hq
    obtain ⟨⟨hN, _⟩, ⟨h4, h5, _⟩, _⟩ := T.valid_parts hv
    have HV := Lib.hid hv
    have HAk := Lib.hid (fun w' (u : Up w w') => r_asked_ok (bl := bl) (bh := bh) (rl := rl) (rh := rh) (HI.out _ u) (HJ.out _ u) (HK.out _ u) hv)
    clear hv
    have hb1 := hb
    have rn := inB_iff.1 hb1
    obtain ⟨kn, rfl⟩ := Int.eq_ofNat_of_zero_le rn.1
    have ln : kn < qs.length := by omega
    refine (wpIn_wide (n := 5)).1 ?_
    refine wpIn_nrm ?_
    refine regionG (fun w' => Up w w' ∧ mblk w' q0 = some (.cells (BoC (N : Int) bl bh rl rh (.slice aP ps.length cP) (.slice aQ qs.length cQ) (.slice aL ls.length cL)) 27 (0, 0)) ∧ mblk w' (q0 + 1) = some (.cells #[.int .i64 0, .int .i64 0] 23 (0, 0))) 12 hmx ⟨U.drew, (by rw [blk_drew]; exact kB), (by rw [blk_drew]; exact kZ)⟩ (fun hHeld hCl => ?_)
    refine takeG (i := 0) (d := (some 9)) (v := ?v74) rfl rfl (by kernel_rfl) (by kernel_rfl) (by decide) hCl (by kernel_rfl) (by kernel_rfl) (by kernel_rfl) (fun _ _ _ h => h) (by rfl) ?hy74 (fun _ _ _ => trivial) (by assumption) (fun hCl' => ?_)
    case hy74 => ((intro w hSw; (try dsimp only at hSw); (try go_split_ands); go_simp); try with_reducible rfl)
    simp only [Act.put, List.setIfInBounds_toArray, List.set_cons_zero, List.set_cons_succ]
    replace hCl := hCl'; clear hCl'
    refine takeG (i := 1) (d := (some 10)) (v := ?v75) rfl rfl (by kernel_rfl) (by kernel_rfl) (by decide) hCl (by kernel_rfl) (by kernel_rfl) (by kernel_rfl) (fun _ _ _ h => h) (by rfl) ?hy75 (fun _ _ _ => trivial) (by assumption) (fun hCl' => ?_)
    case hy75 => ((intro w hSw; (try dsimp only at hSw); (try go_split_ands); go_simp); try with_reducible rfl)
    simp only [Act.put, List.setIfInBounds_toArray, List.set_cons_zero, List.set_cons_succ]
    replace hCl := hCl'; clear hCl'
    refine takeG (i := 2) (d := (some 11)) (v := ?v76) rfl rfl (by kernel_rfl) (by kernel_rfl) (by decide) hCl (by kernel_rfl) (by kernel_rfl) (by kernel_rfl) (fun _ _ _ h => h) (by rfl) ?hy76 (fun _ _ _ => trivial) (by assumption) (fun hCl' => ?_)
    case hy76 => ((intro w hSw; (try dsimp only at hSw); (try go_split_ands); go_simp); try with_reducible rfl)
    simp only [Act.put, List.setIfInBounds_toArray, List.set_cons_zero, List.set_cons_succ]
    replace hCl := hCl'; clear hCl'
    refine takeG (i := 3) (d := (some 12)) (v := ?v77) rfl rfl (by kernel_rfl) (by kernel_rfl) (by decide) hCl (by kernel_rfl) (by kernel_rfl) (by kernel_rfl) (fun _ _ _ h => h) (by rfl) ?hy77 (fun _ _ _ => trivial) (by assumption) (fun hCl' => ?_)
    case hy77 => ((intro w hSw; (try dsimp only at hSw); (try go_split_ands); go_simp); try with_reducible rfl)
    simp only [Act.put, List.setIfInBounds_toArray, List.set_cons_zero, List.set_cons_succ]
    replace hCl := hCl'; clear hCl'
    refine takeG (i := 4) (d := (some 13)) (v := ?v78) rfl rfl (by kernel_rfl) (by kernel_rfl) (by decide) hCl (by kernel_rfl) (by kernel_rfl) (by kernel_rfl) (fun _ _ _ h => h) (by rfl) ?hy78 (fun _ _ _ => trivial) (by assumption) (fun hCl' => ?_)
    case hy78 => ((intro w hSw; (try dsimp only at hSw); (try go_split_ands); go_simp); try with_reducible rfl)
    simp only [Act.put, List.setIfInBounds_toArray, List.set_cons_zero, List.set_cons_succ]
    replace hCl := hCl'; clear hCl'
    refine takeG (i := 5) (d := (some 14)) (v := ?v79) rfl rfl (by kernel_rfl) (by kernel_rfl) (by decide) hCl (by kernel_rfl) (by kernel_rfl) (by kernel_rfl) (fun _ _ _ h => h) (by rfl) ?hy79 (fun _ _ _ => trivial) (by assumption) (fun hCl' => ?_)
    case hy79 => ((intro w hSw; (try dsimp only at hSw); (try go_split_ands); go_simp); try with_reducible rfl)
    simp only [Act.put, List.setIfInBounds_toArray, List.set_cons_zero, List.set_cons_succ]
    replace hCl := hCl'; clear hCl'
    refine nextG (i := 6) (by kernel_rfl) rfl (by rfl) hCl (fun K hK => ?_)
    go_simp
    refine ⟨trivial, (callsIn_wide.2 (B_Lies_any _ _ _ _)).mono ?_⟩
    rintro e' w9 ⟨rfl, rfl⟩
    rw [hb1]
    refine hK.out _ _ hHeld (fun hHeld hCl => ?_)
    clear hK K
    try dsimp only [List.getElem_toArray, List.getElem_cons_succ, List.getElem_cons_zero]
    try simp only [Act.put, List.setIfInBounds_toArray, List.set_cons_zero, List.set_cons_succ]
    refine nextG (i := 7) (by kernel_rfl) rfl (by rfl) hCl (fun K hK => ?_)
    go_simp
    refine ⟨trivial, (callsIn_wide.2 (HAk.out _ hHeld.1)).mono ?_⟩
    rintro e' X1 ⟨⟨g, D, rw, Mm, hD, rfl, HM, HF⟩ | ⟨rfl, hno⟩, u⟩
    · skip
      have HD := Lib.hid hD
      clear hD
      refine hK.out _ _ ⟨hHeld.1.trans u, u.blk hHeld.2.1, u.blk hHeld.2.2⟩ (fun hHeld hCl => ?_)
      clear hK K u HAk
      try dsimp only [List.getElem_toArray, List.getElem_cons_succ, List.getElem_cons_zero]
      try simp only [Act.put, List.setIfInBounds_toArray, List.set_cons_zero, List.set_cons_succ]
      refine takeG (i := 8) (d := (some 8)) (v := ?v82) rfl rfl (by kernel_rfl) (by kernel_rfl) (by decide) hCl (by kernel_rfl) (by kernel_rfl) (by kernel_rfl) (fun _ _ _ h => h) (by rfl) ?hy82 (fun _ _ _ => trivial) (by assumption) (fun hCl' => ?_)
      case hy82 => ((intro w hSw; (try dsimp only at hSw); (try go_split_ands); go_simp); try with_reducible rfl)
      simp only [Act.put, List.setIfInBounds_toArray, List.set_cons_zero, List.set_cons_succ]
      replace hCl := hCl'; clear hCl'
      refine takeG (i := 9) (d := (some 17)) (v := ?v83) rfl rfl (by kernel_rfl) (by kernel_rfl) (by decide) hCl (by kernel_rfl) (by kernel_rfl) (by kernel_rfl) (fun _ _ _ h => h) (by rfl) ?hy83 (fun _ _ _ => trivial) (by assumption) (fun hCl' => ?_)
      case hy83 => ((intro w hSw; (try dsimp only at hSw); (try go_split_ands); go_simp); try with_reducible rfl)
      simp only [Act.put, List.setIfInBounds_toArray, List.set_cons_zero, List.set_cons_succ]
      replace hCl := hCl'; clear hCl'
      refine takeG (i := 10) (d := (some 18)) (v := ?v84) rfl rfl (by kernel_rfl) (by kernel_rfl) (by decide) hCl (by kernel_rfl) (by kernel_rfl) (by kernel_rfl) (fun _ _ _ h => h) (by rfl) ?hy84 (fun _ _ _ => trivial) (by assumption) (fun hCl' => ?_)
      case hy84 => ((intro w hSw; (try dsimp only at hSw); (try go_split_ands); go_simp); try with_reducible rfl)
      simp only [Act.put, List.setIfInBounds_toArray, List.set_cons_zero, List.set_cons_succ]
      replace hCl := hCl'; clear hCl'
      refine nextG (i := 11) (by kernel_rfl) rfl (by rfl) hCl (fun K hK => ?_)
      go_simp
      refine hK.out _ _ hHeld (fun hHeld hCl => ?_)
      clear hK K
      try dsimp only [List.getElem_toArray, List.getElem_cons_succ, List.getElem_cons_zero]
      try simp only [Act.put, List.setIfInBounds_toArray, List.set_cons_zero, List.set_cons_succ]
      clear hCl
      refine lastG (i := 12) (by kernel_rfl) rfl (by rfl) (by decide) (fun K hK => ?_)
      go_simp
      refine hK.out _ _ ?_
      clear hK K
      refine doneG (by kernel_rfl) ?_ _
      refine S.nrm_intro ?_
      clear U kB kZ
      obtain ⟨U, kB, kZ⟩ := hHeld
      obtain ⟨A, hA⟩ : ∃ A, 0 = A := ⟨_, rfl⟩
      obtain ⟨B, hB⟩ : ∃ B, 1 + N + ps.length + kn = B := ⟨_, rfl⟩
      have lA : A < D := by have := HD.out; omega
      have lB : B < D := by have := HD.out; omega
      have t2 := HF.tells HV.out (o := T.o0) (fun k _ => (Nat.zero_testBit k).symm) T.al_0 (T.al_pth (n := (kn : Int)) ⟨by omega, by omega⟩)
      rw [show T.rx N ps.length 0 = A from (T.rx_n (k := 0) (by omega)).trans hA, show T.rx N ps.length (13 + (kn : Int)) = B from (T.rx_q (k := kn)).trans hB] at t2
      obtain ⟨h1, h2, h3⟩ := tt.uniq t2
      subst h3
      have HBt := Lib.hid (fun w' (u : Up X1 w') => show Calls Try.prog 67 #[.slice (some ⟨g, 0, none⟩) D D, .int .i64 (A : Int), .int .i64 (B : Int)] w' fun e w'' => e = .returned (SpV l h) ∧ Up w' w'' by rw [h1, h2]; exact r_between_any (HM.up u) lA lB (by have := (HF B A (by have := HD.out; omega) (by have := HD.out; omega)).1; omega))
      clear t2 h1 h2 HF HM tt
      have HPe := Lib.hid (fun w => show Calls Try.prog 69 #[BoV (N : Int) bl bh rl rh (.slice aP ps.length cP) (.slice aQ qs.length cQ) (.slice aL ls.length cL), .int .i64 (kn : Int)] w fun e w' => e = .returned (.int .i64 (B : Int)) ∧ Up w w' by rw [← hB]; exact r_path_any w (by omega) (by omega) (by omega))
      replace HBt := Lib.hid (fun w' (u : Up X1 w') => show Calls Try.prog 67 #[.slice (some ⟨g, 0, none⟩) D D, .int .i64 0, .int .i64 (B : Int)] w' fun e w'' => e = .returned (SpV l h) ∧ Up w' w'' by have q := HBt.out w' u; rw [← hA] at q; exact q)
      have Uz := Up.refl X1
      clear hA hB lA lB
      go_wp2_with fail
      refine (HPe.out _).mono ?_
      rintro e x51 ⟨rfl, u52⟩
      replace U := U.trans u52
      replace kB := u52.blk kB
      replace kZ := u52.blk kZ
      replace Uz := Uz.trans u52
      clear u52 HPe
      go_wp2_with fail
      refine (HBt.out _ Uz).mono ?_
      rintro e x53 ⟨rfl, u54⟩
      replace U := U.trans u54
      replace kB := u54.blk kB
      replace kZ := u54.blk kZ
      replace Uz := Uz.trans u54
      clear u54 HBt
      have zz := frozB kZ
      have KZ := Lib.hid (show mblk ((x53.setCell ⟨q0 + 1, 0, none⟩ (.int .i64 l)).setCell ⟨q0 + 1, 1, none⟩ (.int .i64 h)) (q0 + 1) = some (.cells #[.int .i64 l, .int .i64 h] 23 (0, 0)) from blk_put (blk_put kZ 0 _) 1 _)
      have UZ := Lib.hid ((U.set (p := ⟨q0 + 1, 0, none⟩) (show w.heap.size ≤ q0 + 1 by omega) (.int .i64 l)).set (p := ⟨q0 + 1, 1, none⟩) (show w.heap.size ≤ q0 + 1 by omega) (.int .i64 h))
      go_wp2_with fail
      have cc := cellB KZ.out
      exact bodyPost_ret (v := .tuple #[SpV l h, .int .i64 0]) (by simp [results, Try.results29, go_sem, cc]) rfl ⟨rfl, UZ.out⟩
    · skip
      obtain ⟨h3, h1, h2⟩ := tt.none hno
      subst h1 h2 h3
      refine hK.out _ _ ⟨hHeld.1.trans u, u.blk hHeld.2.1, u.blk hHeld.2.2⟩ (fun hHeld hCl => ?_)
      clear hK K u HAk hno tt
      try dsimp only [List.getElem_toArray, List.getElem_cons_succ, List.getElem_cons_zero]
      try simp only [Act.put, List.setIfInBounds_toArray, List.set_cons_zero, List.set_cons_succ]
      refine takeG (i := 8) (d := (some 8)) (v := ?v87) rfl rfl (by kernel_rfl) (by kernel_rfl) (by decide) hCl (by kernel_rfl) (by kernel_rfl) (by kernel_rfl) (fun _ _ _ h => h) (by rfl) ?hy87 (fun _ _ _ => trivial) (by assumption) (fun hCl' => ?_)
      case hy87 => ((intro w hSw; (try dsimp only at hSw); (try go_split_ands); go_simp); try with_reducible rfl)
      simp only [Act.put, List.setIfInBounds_toArray, List.set_cons_zero, List.set_cons_succ]
      replace hCl := hCl'; clear hCl'
      refine takeG (i := 9) (d := (some 17)) (v := ?v88) rfl rfl (by kernel_rfl) (by kernel_rfl) (by decide) hCl (by kernel_rfl) (by kernel_rfl) (by kernel_rfl) (fun _ _ _ h => h) (by rfl) ?hy88 (fun _ _ _ => trivial) (by assumption) (fun hCl' => ?_)
      case hy88 => ((intro w hSw; (try dsimp only at hSw); (try go_split_ands); go_simp); try with_reducible rfl)
      simp only [Act.put, List.setIfInBounds_toArray, List.set_cons_zero, List.set_cons_succ]
      replace hCl := hCl'; clear hCl'
      refine takeG (i := 10) (d := (some 18)) (v := ?v89) rfl rfl (by kernel_rfl) (by kernel_rfl) (by decide) hCl (by kernel_rfl) (by kernel_rfl) (by kernel_rfl) (fun _ _ _ h => h) (by rfl) ?hy89 (fun _ _ _ => trivial) (by assumption) (fun hCl' => ?_)
      case hy89 => ((intro w hSw; (try dsimp only at hSw); (try go_split_ands); go_simp); try with_reducible rfl)
      simp only [Act.put, List.setIfInBounds_toArray, List.set_cons_zero, List.set_cons_succ]
      replace hCl := hCl'; clear hCl'
      refine nextG (i := 11) (by kernel_rfl) rfl (by rfl) hCl (fun K hK => ?_)
      go_simp
      refine hK.out _ _ hHeld (fun hHeld hCl => ?_)
      clear hK K
      try dsimp only [List.getElem_toArray, List.getElem_cons_succ, List.getElem_cons_zero]
      try simp only [Act.put, List.setIfInBounds_toArray, List.set_cons_zero, List.set_cons_succ]
      clear hCl
      refine lastG (i := 12) (by kernel_rfl) rfl (by rfl) (by decide) (fun K hK => ?_)
      go_simp
      refine hK.out _ _ ?_
      clear hK K
      refine doneG (by kernel_rfl) ?_ _
      refine S.nrm_intro ?_
      clear U kB kZ
      obtain ⟨U, kB, kZ⟩ := hHeld
      have zz := frozB kZ
      have KZ := Lib.hid (show mblk ((X1.setCell ⟨q0 + 1, 0, none⟩ (.int .i64 0)).setCell ⟨q0 + 1, 1, none⟩ (.int .i64 0)) (q0 + 1) = some (.cells #[.int .i64 0, .int .i64 0] 23 (0, 0)) from blk_put (blk_put kZ 0 _) 1 _)
      have UZ := Lib.hid ((U.set (p := ⟨q0 + 1, 0, none⟩) (show w.heap.size ≤ q0 + 1 by omega) (.int .i64 0)).set (p := ⟨q0 + 1, 1, none⟩) (show w.heap.size ≤ q0 + 1 by omega) (.int .i64 0))
      go_wp2_with fail
      have cc := cellB KZ.out
      exact bodyPost_ret (v := .tuple #[SpV 0 0, .int .i64 32]) (by simp [results, Try.results29, go_sem, cc]) rfl ⟨rfl, UZ.out⟩
set_option maxRecDepth 100000 in
set_option maxHeartbeats 2000000 in
set_option linter.unusedSimpArgs false in
theorem r_Between_any {w : World} {M n j l h e : Int} (I : Sps w (.slice aP nP cP) ps) (J : Sps w (.slice aQ nQ cQ) qs) (K : Lks w (.slice aL nL cL) ls) (hq : (T.qErr M bl bh rl rh ps qs ls 2 [n, j] ≠ 0 ∧ e = T.qErr M bl bh rl rh ps qs ls 2 [n, j] ∧ l = 0 ∧ h = 0) ∨ (T.qErr M bl bh rl rh ps qs ls 2 [n, j] = 0 ∧ ∀ N : Nat, M = N → T.Tells (T.Tr N bl bh rl rh ps qs ls) (1 + n) (1 + j) l h e)) :
    Calls Try.prog 22 #[BoV M bl bh rl rh (.slice aP nP cP) (.slice aQ nQ cQ) (.slice aL nL cL), .int .i64 n, .int .i64 j] w fun e' w' => e' = .returned (.tuple #[SpV l h, .int .i64 e]) ∧ Up w w' := by
  have hmx : Try.prog.follows .mixedOrders = true := by kernel_rfl
  have hn := I.len
  have hno := J.len
  have hnp := K.len
  have mP := I.max
  have mQ := J.max
  subst hn hno hnp
  obtain ⟨q0, e0⟩ : ∃ x, w.heap.size = x := ⟨_, rfl⟩
  have U := ((Up.refl w).alloc (.cells (BoC M bl bh rl rh (.slice aP ps.length cP) (.slice aQ qs.length cQ) (.slice aL ls.length cL)) 27)).alloc (.cells #[.int .i64 0, .int .i64 0] 23)
  have kB := blk_keep (.cells #[.int .i64 0, .int .i64 0] 23) (blk_new w (.cells (BoC M bl bh rl rh (.slice aP ps.length cP) (.slice aQ qs.length cQ) (.slice aL ls.length cL)) 27) q0 e0.symm)
  have kZ := blk_new (w.alloc (.cells (BoC M bl bh rl rh (.slice aP ps.length cP) (.slice aQ qs.length cQ) (.slice aL ls.length cL)) 27)) (.cells #[.int .i64 0, .int .i64 0] 23) (q0 + 1) (by simp [e0])
  have HI := Lib.hid (fun w' (u : Up w w') => I.up u)
  have HJ := Lib.hid (fun w' (u : Up w w') => J.up u)
  have HK := Lib.hid (fun w' (u : Up w w') => K.up u)
  unfold T.qErr at hq
  clear I J K
  obtain ⟨lm, hlm⟩ : ∃ x, IntKind.i64.wrap (M - 1) = x := ⟨_, rfl⟩
  have hcase : (((T.valid M bl bh rl rh ps qs ls = false ∧ e = 30) ∨ (T.valid M bl bh rl rh ps qs ls = true ∧ (inB n 0 lm && inB j 0 lm) = false ∧ e = 31)) ∧ l = 0 ∧ h = 0 ∧ e ≠ 0) ∨ (T.valid M bl bh rl rh ps qs ls = true ∧ (inB n 0 lm && inB j 0 lm) = true ∧ ∀ N : Nat, M = N → T.Tells (T.Tr N bl bh rl rh ps qs ls) (1 + n) (1 + j) l h e) := by
    cases hv : T.valid M bl bh rl rh ps qs ls with
    | false =>
      rw [hv] at hq
      rcases hq with ⟨h1, h2, h3, h4⟩ | ⟨h1, _⟩
      · exact .inl ⟨.inl ⟨rfl, h2⟩, h3, h4, by rw [h2]; exact h1⟩
      · cases h1
    | true =>
      rw [hv] at hq
      obtain ⟨⟨hN, _⟩, _⟩ := T.valid_parts hv
      have ha : T.askd ps.length qs.length M 2 [n, j] = (inB n 0 lm && inB j 0 lm) := by
        rw [← hlm, show IntKind.i64.wrap (M - 1) = M - 1 from IntWalk.i64_in _ (by omega)]
        unfold T.askd T.many
        simp
      rw [ha] at hq
      cases hb : (inB n 0 lm && inB j 0 lm) with
      | false =>
        rw [hb] at hq
        rcases hq with ⟨h1, h2, h3, h4⟩ | ⟨h1, _⟩
        · exact .inl ⟨.inr ⟨rfl, rfl, h2⟩, h3, h4, by rw [h2]; exact h1⟩
        · cases h1
      | true =>
        rw [hb] at hq
        rcases hq with ⟨h1, _⟩ | ⟨_, h2⟩
        · exact absurd rfl h1
        · exact .inr ⟨rfl, rfl, h2⟩
  clear hq
  go_enter Try.func22, Try.ntmps22
  go_wp2_with fail
  obtain ⟨X0, hX0⟩ : ∃ z, (w.alloc (.cells (BoC M bl bh rl rh (.slice aP ps.length cP) (.slice aQ qs.length cQ) (.slice aL ls.length cL)) 27)).alloc (.cells #[.int .i64 0, .int .i64 0] 23) = z := ⟨_, rfl⟩
  rw [hX0] at U kB kZ
  try rw [hX0]
  clear hX0
  rcases hcase with hcase | hcase
  · skip
    obtain ⟨hq, rfl, rfl, he0⟩ := hcase
    have hb : (e != 0) = true := by rw [bne_iff_ne]; exact he0
    clear he0
    cases hb1 : inB n 0 lm with
    | false =>
      rw [hb1] at hq
      rw [Bool.false_and] at hq
      refine (wpIn_wide (n := 5)).1 ?_
      refine wpIn_nrm ?_
      refine regionG (fun w' => Up w w' ∧ mblk w' q0 = some (.cells (BoC M bl bh rl rh (.slice aP ps.length cP) (.slice aQ qs.length cQ) (.slice aL ls.length cL)) 27 (0, 0)) ∧ mblk w' (q0 + 1) = some (.cells #[.int .i64 0, .int .i64 0] 23 (0, 0))) 18 hmx ⟨U.drew, (by rw [blk_drew]; exact kB), (by rw [blk_drew]; exact kZ)⟩ (fun hHeld hCl => ?_)
      refine takeG (i := 0) (d := (some 11)) (v := ?v92) rfl rfl (by kernel_rfl) (by kernel_rfl) (by decide) hCl (by kernel_rfl) (by kernel_rfl) (by kernel_rfl) (fun _ _ _ h => h) (by rfl) ?hy92 (fun _ _ _ => trivial) (by assumption) (fun hCl' => ?_)
      case hy92 => ((intro w hSw; (try dsimp only at hSw); (try go_split_ands); go_simp); try with_reducible rfl)
      simp only [Act.put, List.setIfInBounds_toArray, List.set_cons_zero, List.set_cons_succ]
      replace hCl := hCl'; clear hCl'
      refine takeG (i := 1) (d := (some 12)) (v := ?v93) rfl rfl (by kernel_rfl) (by kernel_rfl) (by decide) hCl (by kernel_rfl) (by kernel_rfl) (by kernel_rfl) (fun _ _ _ h => h) (by rfl) ?hy93 (fun _ _ _ => trivial) (by assumption) (fun hCl' => ?_)
      case hy93 => ((intro w hSw; (try dsimp only at hSw); (try go_split_ands); go_simp); try with_reducible rfl)
      simp only [Act.put, List.setIfInBounds_toArray, List.set_cons_zero, List.set_cons_succ]
      replace hCl := hCl'; clear hCl'
      refine takeG (i := 2) (d := (some 13)) (v := ?v94) rfl rfl (by kernel_rfl) (by kernel_rfl) (by decide) hCl (by kernel_rfl) (by kernel_rfl) (by kernel_rfl) (fun _ _ _ h => h) (by rfl) ?hy94 (fun _ _ _ => trivial) (by assumption) (fun hCl' => ?_)
      case hy94 => ((intro w hSw; (try dsimp only at hSw); (try go_split_ands); go_simp); try with_reducible rfl)
      simp only [Act.put, List.setIfInBounds_toArray, List.set_cons_zero, List.set_cons_succ]
      replace hCl := hCl'; clear hCl'
      refine takeG (i := 3) (d := (some 14)) (v := ?v95) rfl rfl (by kernel_rfl) (by kernel_rfl) (by decide) hCl (by kernel_rfl) (by kernel_rfl) (by kernel_rfl) (fun _ _ _ h => h) (by rfl) ?hy95 (fun _ _ _ => trivial) (by assumption) (fun hCl' => ?_)
      case hy95 => ((intro w hSw; (try dsimp only at hSw); (try go_split_ands); go_simp); try with_reducible rfl)
      simp only [Act.put, List.setIfInBounds_toArray, List.set_cons_zero, List.set_cons_succ]
      replace hCl := hCl'; clear hCl'
      refine takeG (i := 4) (d := (some 15)) (v := ?v96) rfl rfl (by kernel_rfl) (by kernel_rfl) (by decide) hCl (by kernel_rfl) (by kernel_rfl) (by kernel_rfl) (fun _ _ _ h => h) (by rfl) ?hy96 (fun _ _ _ => trivial) (by assumption) (fun hCl' => ?_)
      case hy96 => ((intro w hSw; (try dsimp only at hSw); (try go_split_ands); go_simp); try with_reducible rfl)
      simp only [Act.put, List.setIfInBounds_toArray, List.set_cons_zero, List.set_cons_succ]
      replace hCl := hCl'; clear hCl'
      refine nextG (i := 5) (by kernel_rfl) rfl (by rfl) hCl (fun K hK => ?_)
      go_simp
      refine ⟨trivial, (callsIn_wide.2 (B_Lies_any _ _ _ _)).mono ?_⟩
      rintro e' w9 ⟨rfl, rfl⟩
      rw [hb1]
      refine hK.out _ _ hHeld (fun hHeld hCl => ?_)
      clear hK K
      try dsimp only [List.getElem_toArray, List.getElem_cons_succ, List.getElem_cons_zero]
      try simp only [Act.put, List.setIfInBounds_toArray, List.set_cons_zero, List.set_cons_succ]
      refine takeG (i := 6) (d := (some 17)) (v := ?v98) rfl rfl (by kernel_rfl) (by kernel_rfl) (by decide) hCl (by kernel_rfl) (by kernel_rfl) (by kernel_rfl) (fun _ _ _ h => h) (by rfl) ?hy98 (fun _ _ _ => trivial) (by assumption) (fun hCl' => ?_)
      case hy98 => ((intro w hSw; (try dsimp only at hSw); (try go_split_ands); go_simp); try with_reducible rfl)
      simp only [Act.put, List.setIfInBounds_toArray, List.set_cons_zero, List.set_cons_succ]
      replace hCl := hCl'; clear hCl'
      refine skipG (i := 7) (d := (some 18)) rfl rfl (by kernel_rfl) (by kernel_rfl) (by decide) hCl (by kernel_rfl) (by kernel_rfl) (by kernel_rfl) (fun _ _ _ h => h) (by rfl) (fun _ _ _ => trivial) (by assumption) (fun hCl' => ?_)
      simp only [Act.put, List.setIfInBounds_toArray, List.set_cons_zero, List.set_cons_succ]
      replace hCl := hCl'; clear hCl'
      refine skipG (i := 8) (d := (some 19)) rfl rfl (by kernel_rfl) (by kernel_rfl) (by decide) hCl (by kernel_rfl) (by kernel_rfl) (by kernel_rfl) (fun _ _ _ h => h) (by rfl) (fun _ _ _ => trivial) (by assumption) (fun hCl' => ?_)
      simp only [Act.put, List.setIfInBounds_toArray, List.set_cons_zero, List.set_cons_succ]
      replace hCl := hCl'; clear hCl'
      refine skipG (i := 9) (d := (some 20)) rfl rfl (by kernel_rfl) (by kernel_rfl) (by decide) hCl (by kernel_rfl) (by kernel_rfl) (by kernel_rfl) (fun _ _ _ h => h) (by rfl) (fun _ _ _ => trivial) (by assumption) (fun hCl' => ?_)
      simp only [Act.put, List.setIfInBounds_toArray, List.set_cons_zero, List.set_cons_succ]
      replace hCl := hCl'; clear hCl'
      refine skipG (i := 10) (d := (some 21)) rfl rfl (by kernel_rfl) (by kernel_rfl) (by decide) hCl (by kernel_rfl) (by kernel_rfl) (by kernel_rfl) (fun _ _ _ h => h) (by rfl) (fun _ _ _ => trivial) (by assumption) (fun hCl' => ?_)
      simp only [Act.put, List.setIfInBounds_toArray, List.set_cons_zero, List.set_cons_succ]
      replace hCl := hCl'; clear hCl'
      refine skipG (i := 11) (d := (some 22)) rfl rfl (by kernel_rfl) (by kernel_rfl) (by decide) hCl (by kernel_rfl) (by kernel_rfl) (by kernel_rfl) (fun _ _ _ h => h) (by rfl) (fun _ _ _ => trivial) (by assumption) (fun hCl' => ?_)
      simp only [Act.put, List.setIfInBounds_toArray, List.set_cons_zero, List.set_cons_succ]
      replace hCl := hCl'; clear hCl'
      refine takeG (i := 12) (d := (some 23)) (v := ?v104) rfl rfl (by kernel_rfl) (by kernel_rfl) (by decide) hCl (by kernel_rfl) (by kernel_rfl) (by kernel_rfl) (fun _ _ _ h => h) (by rfl) ?hy104 (fun _ _ _ => trivial) (by assumption) (fun hCl' => ?_)
      case hy104 => ((intro w hSw; (try dsimp only at hSw); (try go_split_ands); go_simp); try with_reducible rfl)
      simp only [Act.put, List.setIfInBounds_toArray, List.set_cons_zero, List.set_cons_succ]
      replace hCl := hCl'; clear hCl'
      refine nextG (i := 13) (by kernel_rfl) rfl (by rfl) hCl (fun K hK => ?_)
      go_simp
      refine ⟨trivial, (callsIn_wide.2 (r_asked_err (r := false) (HI.out _ hHeld.1) (HJ.out _ hHeld.1) (HK.out _ hHeld.1) hq)).mono ?_⟩
      rintro e' X1 ⟨rfl, u⟩
      refine hK.out _ _ ⟨hHeld.1.trans u, u.blk hHeld.2.1, u.blk hHeld.2.2⟩ (fun hHeld hCl => ?_)
      clear hK K u
      try dsimp only [List.getElem_toArray, List.getElem_cons_succ, List.getElem_cons_zero]
      try simp only [Act.put, List.setIfInBounds_toArray, List.set_cons_zero, List.set_cons_succ]
      refine takeG (i := 14) (d := (some 10)) (v := ?v106) rfl rfl (by kernel_rfl) (by kernel_rfl) (by decide) hCl (by kernel_rfl) (by kernel_rfl) (by kernel_rfl) (fun _ _ _ h => h) (by rfl) ?hy106 (fun _ _ _ => trivial) (by assumption) (fun hCl' => ?_)
      case hy106 => ((intro w hSw; (try dsimp only at hSw); (try go_split_ands); go_simp); try with_reducible rfl)
      simp only [Act.put, List.setIfInBounds_toArray, List.set_cons_zero, List.set_cons_succ]
      replace hCl := hCl'; clear hCl'
      refine takeG (i := 15) (d := (some 25)) (v := ?v107) rfl rfl (by kernel_rfl) (by kernel_rfl) (by decide) hCl (by kernel_rfl) (by kernel_rfl) (by kernel_rfl) (fun _ _ _ h => h) (by rfl) ?hy107 (fun _ _ _ => trivial) (by assumption) (fun hCl' => ?_)
      case hy107 => ((intro w hSw; (try dsimp only at hSw); (try go_split_ands); go_simp); try with_reducible rfl)
      simp only [Act.put, List.setIfInBounds_toArray, List.set_cons_zero, List.set_cons_succ]
      replace hCl := hCl'; clear hCl'
      refine takeG (i := 16) (d := (some 26)) (v := ?v108) rfl rfl (by kernel_rfl) (by kernel_rfl) (by decide) hCl (by kernel_rfl) (by kernel_rfl) (by kernel_rfl) (fun _ _ _ h => h) (by rfl) ?hy108 (fun _ _ _ => trivial) (by assumption) (fun hCl' => ?_)
      case hy108 => ((intro w hSw; (try dsimp only at hSw); (try go_split_ands); go_simp); try with_reducible rfl)
      simp only [Act.put, List.setIfInBounds_toArray, List.set_cons_zero, List.set_cons_succ]
      replace hCl := hCl'; clear hCl'
      refine nextG (i := 17) (by kernel_rfl) rfl (by rfl) hCl (fun K hK => ?_)
      go_simp
      refine hK.out _ _ hHeld (fun hHeld hCl => ?_)
      clear hK K
      try dsimp only [List.getElem_toArray, List.getElem_cons_succ, List.getElem_cons_zero]
      try simp only [Act.put, List.setIfInBounds_toArray, List.set_cons_zero, List.set_cons_succ]
      clear hCl
      refine lastG (i := 18) (by kernel_rfl) rfl (by rfl) (by decide) (fun K hK => ?_)
      go_simp
      refine hK.out _ _ ?_
      clear hK K
      refine doneG (by kernel_rfl) ?_ _
      refine S.nrm_intro ?_
      clear U kB kZ
      obtain ⟨U, kB, kZ⟩ := hHeld
      have zz := frozB kZ
      have KZ := Lib.hid (show mblk ((X1.setCell ⟨q0 + 1, 0, none⟩ (.int .i64 0)).setCell ⟨q0 + 1, 1, none⟩ (.int .i64 0)) (q0 + 1) = some (.cells #[.int .i64 0, .int .i64 0] 23 (0, 0)) from blk_put (blk_put kZ 0 _) 1 _)
      have UZ := Lib.hid ((U.set (p := ⟨q0 + 1, 0, none⟩) (show w.heap.size ≤ q0 + 1 by omega) (.int .i64 0)).set (p := ⟨q0 + 1, 1, none⟩) (show w.heap.size ≤ q0 + 1 by omega) (.int .i64 0))
      go_wp2_with fail
      have cc := cellB KZ.out
      exact bodyPost_ret (v := .tuple #[SpV 0 0, .int .i64 e]) (by simp [results, Try.results22, go_sem, cc]) rfl ⟨rfl, UZ.out⟩
    | true =>
      rw [hb1] at hq
      rw [Bool.true_and] at hq
      refine (wpIn_wide (n := 5)).1 ?_
      refine wpIn_nrm ?_
      refine regionG (fun w' => Up w w' ∧ mblk w' q0 = some (.cells (BoC M bl bh rl rh (.slice aP ps.length cP) (.slice aQ qs.length cQ) (.slice aL ls.length cL)) 27 (0, 0)) ∧ mblk w' (q0 + 1) = some (.cells #[.int .i64 0, .int .i64 0] 23 (0, 0))) 18 hmx ⟨U.drew, (by rw [blk_drew]; exact kB), (by rw [blk_drew]; exact kZ)⟩ (fun hHeld hCl => ?_)
      refine takeG (i := 0) (d := (some 11)) (v := ?v111) rfl rfl (by kernel_rfl) (by kernel_rfl) (by decide) hCl (by kernel_rfl) (by kernel_rfl) (by kernel_rfl) (fun _ _ _ h => h) (by rfl) ?hy111 (fun _ _ _ => trivial) (by assumption) (fun hCl' => ?_)
      case hy111 => ((intro w hSw; (try dsimp only at hSw); (try go_split_ands); go_simp); try with_reducible rfl)
      simp only [Act.put, List.setIfInBounds_toArray, List.set_cons_zero, List.set_cons_succ]
      replace hCl := hCl'; clear hCl'
      refine takeG (i := 1) (d := (some 12)) (v := ?v112) rfl rfl (by kernel_rfl) (by kernel_rfl) (by decide) hCl (by kernel_rfl) (by kernel_rfl) (by kernel_rfl) (fun _ _ _ h => h) (by rfl) ?hy112 (fun _ _ _ => trivial) (by assumption) (fun hCl' => ?_)
      case hy112 => ((intro w hSw; (try dsimp only at hSw); (try go_split_ands); go_simp); try with_reducible rfl)
      simp only [Act.put, List.setIfInBounds_toArray, List.set_cons_zero, List.set_cons_succ]
      replace hCl := hCl'; clear hCl'
      refine takeG (i := 2) (d := (some 13)) (v := ?v113) rfl rfl (by kernel_rfl) (by kernel_rfl) (by decide) hCl (by kernel_rfl) (by kernel_rfl) (by kernel_rfl) (fun _ _ _ h => h) (by rfl) ?hy113 (fun _ _ _ => trivial) (by assumption) (fun hCl' => ?_)
      case hy113 => ((intro w hSw; (try dsimp only at hSw); (try go_split_ands); go_simp); try with_reducible rfl)
      simp only [Act.put, List.setIfInBounds_toArray, List.set_cons_zero, List.set_cons_succ]
      replace hCl := hCl'; clear hCl'
      refine takeG (i := 3) (d := (some 14)) (v := ?v114) rfl rfl (by kernel_rfl) (by kernel_rfl) (by decide) hCl (by kernel_rfl) (by kernel_rfl) (by kernel_rfl) (fun _ _ _ h => h) (by rfl) ?hy114 (fun _ _ _ => trivial) (by assumption) (fun hCl' => ?_)
      case hy114 => ((intro w hSw; (try dsimp only at hSw); (try go_split_ands); go_simp); try with_reducible rfl)
      simp only [Act.put, List.setIfInBounds_toArray, List.set_cons_zero, List.set_cons_succ]
      replace hCl := hCl'; clear hCl'
      refine takeG (i := 4) (d := (some 15)) (v := ?v115) rfl rfl (by kernel_rfl) (by kernel_rfl) (by decide) hCl (by kernel_rfl) (by kernel_rfl) (by kernel_rfl) (fun _ _ _ h => h) (by rfl) ?hy115 (fun _ _ _ => trivial) (by assumption) (fun hCl' => ?_)
      case hy115 => ((intro w hSw; (try dsimp only at hSw); (try go_split_ands); go_simp); try with_reducible rfl)
      simp only [Act.put, List.setIfInBounds_toArray, List.set_cons_zero, List.set_cons_succ]
      replace hCl := hCl'; clear hCl'
      refine nextG (i := 5) (by kernel_rfl) rfl (by rfl) hCl (fun K hK => ?_)
      go_simp
      refine ⟨trivial, (callsIn_wide.2 (B_Lies_any _ _ _ _)).mono ?_⟩
      rintro e' w9 ⟨rfl, rfl⟩
      rw [hb1]
      refine hK.out _ _ hHeld (fun hHeld hCl => ?_)
      clear hK K
      try dsimp only [List.getElem_toArray, List.getElem_cons_succ, List.getElem_cons_zero]
      try simp only [Act.put, List.setIfInBounds_toArray, List.set_cons_zero, List.set_cons_succ]
      refine takeG (i := 6) (d := (some 17)) (v := ?v117) rfl rfl (by kernel_rfl) (by kernel_rfl) (by decide) hCl (by kernel_rfl) (by kernel_rfl) (by kernel_rfl) (fun _ _ _ h => h) (by rfl) ?hy117 (fun _ _ _ => trivial) (by assumption) (fun hCl' => ?_)
      case hy117 => ((intro w hSw; (try dsimp only at hSw); (try go_split_ands); go_simp); try with_reducible rfl)
      simp only [Act.put, List.setIfInBounds_toArray, List.set_cons_zero, List.set_cons_succ]
      replace hCl := hCl'; clear hCl'
      refine takeG (i := 7) (d := (some 18)) (v := ?v118) rfl rfl (by kernel_rfl) (by kernel_rfl) (by decide) hCl (by kernel_rfl) (by kernel_rfl) (by kernel_rfl) (fun _ _ _ h => h) (by rfl) ?hy118 (fun _ _ _ => trivial) (by assumption) (fun hCl' => ?_)
      case hy118 => ((intro w hSw; (try dsimp only at hSw); (try go_split_ands); go_simp); try with_reducible rfl)
      simp only [Act.put, List.setIfInBounds_toArray, List.set_cons_zero, List.set_cons_succ]
      replace hCl := hCl'; clear hCl'
      refine takeG (i := 8) (d := (some 19)) (v := ?v119) rfl rfl (by kernel_rfl) (by kernel_rfl) (by decide) hCl (by kernel_rfl) (by kernel_rfl) (by kernel_rfl) (fun _ _ _ h => h) (by rfl) ?hy119 (fun _ _ _ => trivial) (by assumption) (fun hCl' => ?_)
      case hy119 => ((intro w hSw; (try dsimp only at hSw); (try go_split_ands); go_simp); try with_reducible rfl)
      simp only [Act.put, List.setIfInBounds_toArray, List.set_cons_zero, List.set_cons_succ]
      replace hCl := hCl'; clear hCl'
      refine takeG (i := 9) (d := (some 20)) (v := ?v120) rfl rfl (by kernel_rfl) (by kernel_rfl) (by decide) hCl (by kernel_rfl) (by kernel_rfl) (by kernel_rfl) (fun _ _ _ h => h) (by rfl) ?hy120 (fun _ _ _ => trivial) (by assumption) (fun hCl' => ?_)
      case hy120 => ((intro w hSw; (try dsimp only at hSw); (try go_split_ands); go_simp); try with_reducible rfl)
      simp only [Act.put, List.setIfInBounds_toArray, List.set_cons_zero, List.set_cons_succ]
      replace hCl := hCl'; clear hCl'
      refine takeG (i := 10) (d := (some 21)) (v := ?v121) rfl rfl (by kernel_rfl) (by kernel_rfl) (by decide) hCl (by kernel_rfl) (by kernel_rfl) (by kernel_rfl) (fun _ _ _ h => h) (by rfl) ?hy121 (fun _ _ _ => trivial) (by assumption) (fun hCl' => ?_)
      case hy121 => ((intro w hSw; (try dsimp only at hSw); (try go_split_ands); go_simp); try with_reducible rfl)
      simp only [Act.put, List.setIfInBounds_toArray, List.set_cons_zero, List.set_cons_succ]
      replace hCl := hCl'; clear hCl'
      refine nextG (i := 11) (by kernel_rfl) rfl (by rfl) hCl (fun K hK => ?_)
      go_simp
      refine ⟨trivial, (callsIn_wide.2 (B_Lies_any _ _ _ _)).mono ?_⟩
      rintro e' w9 ⟨rfl, rfl⟩
      refine hK.out _ _ hHeld (fun hHeld hCl => ?_)
      clear hK K
      try dsimp only [List.getElem_toArray, List.getElem_cons_succ, List.getElem_cons_zero]
      try simp only [Act.put, List.setIfInBounds_toArray, List.set_cons_zero, List.set_cons_succ]
      refine takeG (i := 12) (d := (some 23)) (v := ?v123) rfl rfl (by kernel_rfl) (by kernel_rfl) (by decide) hCl (by kernel_rfl) (by kernel_rfl) (by kernel_rfl) (fun _ _ _ h => h) (by rfl) ?hy123 (fun _ _ _ => trivial) (by assumption) (fun hCl' => ?_)
      case hy123 => ((intro w hSw; (try dsimp only at hSw); (try go_split_ands); go_simp); try with_reducible rfl)
      simp only [Act.put, List.setIfInBounds_toArray, List.set_cons_zero, List.set_cons_succ]
      replace hCl := hCl'; clear hCl'
      refine nextG (i := 13) (by kernel_rfl) rfl (by rfl) hCl (fun K hK => ?_)
      go_simp
      refine ⟨trivial, (callsIn_wide.2 (r_asked_err (r := inB j 0 lm) (HI.out _ hHeld.1) (HJ.out _ hHeld.1) (HK.out _ hHeld.1) hq)).mono ?_⟩
      rintro e' X1 ⟨rfl, u⟩
      refine hK.out _ _ ⟨hHeld.1.trans u, u.blk hHeld.2.1, u.blk hHeld.2.2⟩ (fun hHeld hCl => ?_)
      clear hK K u
      try dsimp only [List.getElem_toArray, List.getElem_cons_succ, List.getElem_cons_zero]
      try simp only [Act.put, List.setIfInBounds_toArray, List.set_cons_zero, List.set_cons_succ]
      refine takeG (i := 14) (d := (some 10)) (v := ?v125) rfl rfl (by kernel_rfl) (by kernel_rfl) (by decide) hCl (by kernel_rfl) (by kernel_rfl) (by kernel_rfl) (fun _ _ _ h => h) (by rfl) ?hy125 (fun _ _ _ => trivial) (by assumption) (fun hCl' => ?_)
      case hy125 => ((intro w hSw; (try dsimp only at hSw); (try go_split_ands); go_simp); try with_reducible rfl)
      simp only [Act.put, List.setIfInBounds_toArray, List.set_cons_zero, List.set_cons_succ]
      replace hCl := hCl'; clear hCl'
      refine takeG (i := 15) (d := (some 25)) (v := ?v126) rfl rfl (by kernel_rfl) (by kernel_rfl) (by decide) hCl (by kernel_rfl) (by kernel_rfl) (by kernel_rfl) (fun _ _ _ h => h) (by rfl) ?hy126 (fun _ _ _ => trivial) (by assumption) (fun hCl' => ?_)
      case hy126 => ((intro w hSw; (try dsimp only at hSw); (try go_split_ands); go_simp); try with_reducible rfl)
      simp only [Act.put, List.setIfInBounds_toArray, List.set_cons_zero, List.set_cons_succ]
      replace hCl := hCl'; clear hCl'
      refine takeG (i := 16) (d := (some 26)) (v := ?v127) rfl rfl (by kernel_rfl) (by kernel_rfl) (by decide) hCl (by kernel_rfl) (by kernel_rfl) (by kernel_rfl) (fun _ _ _ h => h) (by rfl) ?hy127 (fun _ _ _ => trivial) (by assumption) (fun hCl' => ?_)
      case hy127 => ((intro w hSw; (try dsimp only at hSw); (try go_split_ands); go_simp); try with_reducible rfl)
      simp only [Act.put, List.setIfInBounds_toArray, List.set_cons_zero, List.set_cons_succ]
      replace hCl := hCl'; clear hCl'
      refine nextG (i := 17) (by kernel_rfl) rfl (by rfl) hCl (fun K hK => ?_)
      go_simp
      refine hK.out _ _ hHeld (fun hHeld hCl => ?_)
      clear hK K
      try dsimp only [List.getElem_toArray, List.getElem_cons_succ, List.getElem_cons_zero]
      try simp only [Act.put, List.setIfInBounds_toArray, List.set_cons_zero, List.set_cons_succ]
      clear hCl
      refine lastG (i := 18) (by kernel_rfl) rfl (by rfl) (by decide) (fun K hK => ?_)
      go_simp
      refine hK.out _ _ ?_
      clear hK K
      refine doneG (by kernel_rfl) ?_ _
      refine S.nrm_intro ?_
      clear U kB kZ
      obtain ⟨U, kB, kZ⟩ := hHeld
      have zz := frozB kZ
      have KZ := Lib.hid (show mblk ((X1.setCell ⟨q0 + 1, 0, none⟩ (.int .i64 0)).setCell ⟨q0 + 1, 1, none⟩ (.int .i64 0)) (q0 + 1) = some (.cells #[.int .i64 0, .int .i64 0] 23 (0, 0)) from blk_put (blk_put kZ 0 _) 1 _)
      have UZ := Lib.hid ((U.set (p := ⟨q0 + 1, 0, none⟩) (show w.heap.size ≤ q0 + 1 by omega) (.int .i64 0)).set (p := ⟨q0 + 1, 1, none⟩) (show w.heap.size ≤ q0 + 1 by omega) (.int .i64 0))
      go_wp2_with fail
      have cc := cellB KZ.out
      exact bodyPost_ret (v := .tuple #[SpV 0 0, .int .i64 e]) (by simp [results, Try.results22, go_sem, cc]) rfl ⟨rfl, UZ.out⟩
  · skip
    obtain ⟨hv, hb, hq⟩ := hcase
    obtain ⟨N, rfl⟩ := T.valid_N hv
    have tt := hq N rfl
    clear hq
    obtain ⟨⟨hN, _⟩, ⟨h4, h5, _⟩, _⟩ := T.valid_parts hv
    rw [show IntKind.i64.wrap ((N : Int) - 1) = (N : Int) - 1 from IntWalk.i64_in _ (by omega)] at hlm
    subst hlm
    have hlm : IntKind.i64.wrap ((N : Int) - 1) = (N : Int) - 1 := IntWalk.i64_in _ (by omega)
    have HV := Lib.hid hv
    have HAk := Lib.hid (fun w' (u : Up w w') => r_asked_ok (bl := bl) (bh := bh) (rl := rl) (rh := rh) (HI.out _ u) (HJ.out _ u) (HK.out _ u) hv)
    clear hv
    rw [Bool.and_eq_true] at hb
    obtain ⟨hb1, hb2⟩ := hb
    have rn := inB_iff.1 hb1
    obtain ⟨kn, rfl⟩ := Int.eq_ofNat_of_zero_le rn.1
    have ln : kn < N := by omega
    have rj := inB_iff.1 hb2
    obtain ⟨kj, rfl⟩ := Int.eq_ofNat_of_zero_le rj.1
    have lj : kj < N := by omega
    refine (wpIn_wide (n := 5)).1 ?_
    refine wpIn_nrm ?_
    refine regionG (fun w' => Up w w' ∧ mblk w' q0 = some (.cells (BoC (N : Int) bl bh rl rh (.slice aP ps.length cP) (.slice aQ qs.length cQ) (.slice aL ls.length cL)) 27 (0, 0)) ∧ mblk w' (q0 + 1) = some (.cells #[.int .i64 0, .int .i64 0] 23 (0, 0))) 18 hmx ⟨U.drew, (by rw [blk_drew]; exact kB), (by rw [blk_drew]; exact kZ)⟩ (fun hHeld hCl => ?_)
    refine takeG (i := 0) (d := (some 11)) (v := ?v130) rfl rfl (by kernel_rfl) (by kernel_rfl) (by decide) hCl (by kernel_rfl) (by kernel_rfl) (by kernel_rfl) (fun _ _ _ h => h) (by rfl) ?hy130 (fun _ _ _ => trivial) (by assumption) (fun hCl' => ?_)
    case hy130 => ((intro w hSw; (try dsimp only at hSw); (try go_split_ands); go_simp); try with_reducible rfl)
    simp only [Act.put, List.setIfInBounds_toArray, List.set_cons_zero, List.set_cons_succ]
    replace hCl := hCl'; clear hCl'
    refine takeG (i := 1) (d := (some 12)) (v := ?v131) rfl rfl (by kernel_rfl) (by kernel_rfl) (by decide) hCl (by kernel_rfl) (by kernel_rfl) (by kernel_rfl) (fun _ _ _ h => h) (by rfl) ?hy131 (fun _ _ _ => trivial) (by assumption) (fun hCl' => ?_)
    case hy131 => ((intro w hSw; (try dsimp only at hSw); (try go_split_ands); go_simp); try with_reducible rfl)
    simp only [Act.put, List.setIfInBounds_toArray, List.set_cons_zero, List.set_cons_succ]
    replace hCl := hCl'; clear hCl'
    refine takeG (i := 2) (d := (some 13)) (v := ?v132) rfl rfl (by kernel_rfl) (by kernel_rfl) (by decide) hCl (by kernel_rfl) (by kernel_rfl) (by kernel_rfl) (fun _ _ _ h => h) (by rfl) ?hy132 (fun _ _ _ => trivial) (by assumption) (fun hCl' => ?_)
    case hy132 => ((intro w hSw; (try dsimp only at hSw); (try go_split_ands); go_simp); try with_reducible rfl)
    simp only [Act.put, List.setIfInBounds_toArray, List.set_cons_zero, List.set_cons_succ]
    replace hCl := hCl'; clear hCl'
    refine takeG (i := 3) (d := (some 14)) (v := ?v133) rfl rfl (by kernel_rfl) (by kernel_rfl) (by decide) hCl (by kernel_rfl) (by kernel_rfl) (by kernel_rfl) (fun _ _ _ h => h) (by rfl) ?hy133 (fun _ _ _ => trivial) (by assumption) (fun hCl' => ?_)
    case hy133 => ((intro w hSw; (try dsimp only at hSw); (try go_split_ands); go_simp); try with_reducible rfl)
    simp only [Act.put, List.setIfInBounds_toArray, List.set_cons_zero, List.set_cons_succ]
    replace hCl := hCl'; clear hCl'
    refine takeG (i := 4) (d := (some 15)) (v := ?v134) rfl rfl (by kernel_rfl) (by kernel_rfl) (by decide) hCl (by kernel_rfl) (by kernel_rfl) (by kernel_rfl) (fun _ _ _ h => h) (by rfl) ?hy134 (fun _ _ _ => trivial) (by assumption) (fun hCl' => ?_)
    case hy134 => ((intro w hSw; (try dsimp only at hSw); (try go_split_ands); go_simp); try with_reducible rfl)
    simp only [Act.put, List.setIfInBounds_toArray, List.set_cons_zero, List.set_cons_succ]
    replace hCl := hCl'; clear hCl'
    refine nextG (i := 5) (by kernel_rfl) rfl (by rfl) hCl (fun K hK => ?_)
    go_simp
    refine ⟨trivial, (callsIn_wide.2 (B_Lies_any _ _ _ _)).mono ?_⟩
    rintro e' w9 ⟨rfl, rfl⟩
    rw [hb1]
    refine hK.out _ _ hHeld (fun hHeld hCl => ?_)
    clear hK K
    try dsimp only [List.getElem_toArray, List.getElem_cons_succ, List.getElem_cons_zero]
    try simp only [Act.put, List.setIfInBounds_toArray, List.set_cons_zero, List.set_cons_succ]
    refine takeG (i := 6) (d := (some 17)) (v := ?v136) rfl rfl (by kernel_rfl) (by kernel_rfl) (by decide) hCl (by kernel_rfl) (by kernel_rfl) (by kernel_rfl) (fun _ _ _ h => h) (by rfl) ?hy136 (fun _ _ _ => trivial) (by assumption) (fun hCl' => ?_)
    case hy136 => ((intro w hSw; (try dsimp only at hSw); (try go_split_ands); go_simp); try with_reducible rfl)
    simp only [Act.put, List.setIfInBounds_toArray, List.set_cons_zero, List.set_cons_succ]
    replace hCl := hCl'; clear hCl'
    refine takeG (i := 7) (d := (some 18)) (v := ?v137) rfl rfl (by kernel_rfl) (by kernel_rfl) (by decide) hCl (by kernel_rfl) (by kernel_rfl) (by kernel_rfl) (fun _ _ _ h => h) (by rfl) ?hy137 (fun _ _ _ => trivial) (by assumption) (fun hCl' => ?_)
    case hy137 => ((intro w hSw; (try dsimp only at hSw); (try go_split_ands); go_simp); try with_reducible rfl)
    simp only [Act.put, List.setIfInBounds_toArray, List.set_cons_zero, List.set_cons_succ]
    replace hCl := hCl'; clear hCl'
    refine takeG (i := 8) (d := (some 19)) (v := ?v138) rfl rfl (by kernel_rfl) (by kernel_rfl) (by decide) hCl (by kernel_rfl) (by kernel_rfl) (by kernel_rfl) (fun _ _ _ h => h) (by rfl) ?hy138 (fun _ _ _ => trivial) (by assumption) (fun hCl' => ?_)
    case hy138 => ((intro w hSw; (try dsimp only at hSw); (try go_split_ands); go_simp); try with_reducible rfl)
    simp only [Act.put, List.setIfInBounds_toArray, List.set_cons_zero, List.set_cons_succ]
    replace hCl := hCl'; clear hCl'
    refine takeG (i := 9) (d := (some 20)) (v := ?v139) rfl rfl (by kernel_rfl) (by kernel_rfl) (by decide) hCl (by kernel_rfl) (by kernel_rfl) (by kernel_rfl) (fun _ _ _ h => h) (by rfl) ?hy139 (fun _ _ _ => trivial) (by assumption) (fun hCl' => ?_)
    case hy139 => ((intro w hSw; (try dsimp only at hSw); (try go_split_ands); go_simp); try with_reducible rfl)
    simp only [Act.put, List.setIfInBounds_toArray, List.set_cons_zero, List.set_cons_succ]
    replace hCl := hCl'; clear hCl'
    refine takeG (i := 10) (d := (some 21)) (v := ?v140) rfl rfl (by kernel_rfl) (by kernel_rfl) (by decide) hCl (by kernel_rfl) (by kernel_rfl) (by kernel_rfl) (fun _ _ _ h => h) (by rfl) ?hy140 (fun _ _ _ => trivial) (by assumption) (fun hCl' => ?_)
    case hy140 => ((intro w hSw; (try dsimp only at hSw); (try go_split_ands); go_simp); try with_reducible rfl)
    simp only [Act.put, List.setIfInBounds_toArray, List.set_cons_zero, List.set_cons_succ]
    replace hCl := hCl'; clear hCl'
    refine nextG (i := 11) (by kernel_rfl) rfl (by rfl) hCl (fun K hK => ?_)
    go_simp
    refine ⟨trivial, (callsIn_wide.2 (B_Lies_any _ _ _ _)).mono ?_⟩
    rintro e' w9 ⟨rfl, rfl⟩
    rw [hb2]
    refine hK.out _ _ hHeld (fun hHeld hCl => ?_)
    clear hK K
    try dsimp only [List.getElem_toArray, List.getElem_cons_succ, List.getElem_cons_zero]
    try simp only [Act.put, List.setIfInBounds_toArray, List.set_cons_zero, List.set_cons_succ]
    refine takeG (i := 12) (d := (some 23)) (v := ?v142) rfl rfl (by kernel_rfl) (by kernel_rfl) (by decide) hCl (by kernel_rfl) (by kernel_rfl) (by kernel_rfl) (fun _ _ _ h => h) (by rfl) ?hy142 (fun _ _ _ => trivial) (by assumption) (fun hCl' => ?_)
    case hy142 => ((intro w hSw; (try dsimp only at hSw); (try go_split_ands); go_simp); try with_reducible rfl)
    simp only [Act.put, List.setIfInBounds_toArray, List.set_cons_zero, List.set_cons_succ]
    replace hCl := hCl'; clear hCl'
    refine nextG (i := 13) (by kernel_rfl) rfl (by rfl) hCl (fun K hK => ?_)
    go_simp
    refine ⟨trivial, (callsIn_wide.2 (HAk.out _ hHeld.1)).mono ?_⟩
    rintro e' X1 ⟨⟨g, D, rw, Mm, hD, rfl, HM, HF⟩ | ⟨rfl, hno⟩, u⟩
    · skip
      have HD := Lib.hid hD
      clear hD
      refine hK.out _ _ ⟨hHeld.1.trans u, u.blk hHeld.2.1, u.blk hHeld.2.2⟩ (fun hHeld hCl => ?_)
      clear hK K u HAk
      try dsimp only [List.getElem_toArray, List.getElem_cons_succ, List.getElem_cons_zero]
      try simp only [Act.put, List.setIfInBounds_toArray, List.set_cons_zero, List.set_cons_succ]
      refine takeG (i := 14) (d := (some 10)) (v := ?v144) rfl rfl (by kernel_rfl) (by kernel_rfl) (by decide) hCl (by kernel_rfl) (by kernel_rfl) (by kernel_rfl) (fun _ _ _ h => h) (by rfl) ?hy144 (fun _ _ _ => trivial) (by assumption) (fun hCl' => ?_)
      case hy144 => ((intro w hSw; (try dsimp only at hSw); (try go_split_ands); go_simp); try with_reducible rfl)
      simp only [Act.put, List.setIfInBounds_toArray, List.set_cons_zero, List.set_cons_succ]
      replace hCl := hCl'; clear hCl'
      refine takeG (i := 15) (d := (some 25)) (v := ?v145) rfl rfl (by kernel_rfl) (by kernel_rfl) (by decide) hCl (by kernel_rfl) (by kernel_rfl) (by kernel_rfl) (fun _ _ _ h => h) (by rfl) ?hy145 (fun _ _ _ => trivial) (by assumption) (fun hCl' => ?_)
      case hy145 => ((intro w hSw; (try dsimp only at hSw); (try go_split_ands); go_simp); try with_reducible rfl)
      simp only [Act.put, List.setIfInBounds_toArray, List.set_cons_zero, List.set_cons_succ]
      replace hCl := hCl'; clear hCl'
      refine takeG (i := 16) (d := (some 26)) (v := ?v146) rfl rfl (by kernel_rfl) (by kernel_rfl) (by decide) hCl (by kernel_rfl) (by kernel_rfl) (by kernel_rfl) (fun _ _ _ h => h) (by rfl) ?hy146 (fun _ _ _ => trivial) (by assumption) (fun hCl' => ?_)
      case hy146 => ((intro w hSw; (try dsimp only at hSw); (try go_split_ands); go_simp); try with_reducible rfl)
      simp only [Act.put, List.setIfInBounds_toArray, List.set_cons_zero, List.set_cons_succ]
      replace hCl := hCl'; clear hCl'
      refine nextG (i := 17) (by kernel_rfl) rfl (by rfl) hCl (fun K hK => ?_)
      go_simp
      refine hK.out _ _ hHeld (fun hHeld hCl => ?_)
      clear hK K
      try dsimp only [List.getElem_toArray, List.getElem_cons_succ, List.getElem_cons_zero]
      try simp only [Act.put, List.setIfInBounds_toArray, List.set_cons_zero, List.set_cons_succ]
      clear hCl
      refine lastG (i := 18) (by kernel_rfl) rfl (by rfl) (by decide) (fun K hK => ?_)
      go_simp
      refine hK.out _ _ ?_
      clear hK K
      refine doneG (by kernel_rfl) ?_ _
      refine S.nrm_intro ?_
      clear U kB kZ
      obtain ⟨U, kB, kZ⟩ := hHeld
      obtain ⟨A, hA⟩ : ∃ A, 1 + kn = A := ⟨_, rfl⟩
      obtain ⟨B, hB⟩ : ∃ B, 1 + kj = B := ⟨_, rfl⟩
      have lA : A < D := by have := HD.out; omega
      have lB : B < D := by have := HD.out; omega
      have t2 := HF.tells HV.out (o := T.o0) (fun k _ => (Nat.zero_testBit k).symm) (T.al_night (n := (kn : Int)) ⟨by omega, by omega⟩) (T.al_night (n := (kj : Int)) ⟨by omega, by omega⟩)
      rw [show T.rx N ps.length (1 + (kn : Int)) = A from ((T.rx_1 (k := kn) (by omega)).trans (Nat.add_comm _ _)).trans hA, show T.rx N ps.length (1 + (kj : Int)) = B from ((T.rx_1 (k := kj) (by omega)).trans (Nat.add_comm _ _)).trans hB] at t2
      obtain ⟨h1, h2, h3⟩ := tt.uniq t2
      subst h3
      have HBt := Lib.hid (fun w' (u : Up X1 w') => show Calls Try.prog 67 #[.slice (some ⟨g, 0, none⟩) D D, .int .i64 (A : Int), .int .i64 (B : Int)] w' fun e w'' => e = .returned (SpV l h) ∧ Up w' w'' by rw [h1, h2]; exact r_between_any (HM.up u) lA lB (by have := (HF B A (by have := HD.out; omega) (by have := HD.out; omega)).1; omega))
      clear t2 h1 h2 HF HM tt
      have wA : IntKind.i64.wrap (1 + (kn : Int)) = (A : Int) := by rw [show 1 + (kn : Int) = (A : Int) by omega]; exact IntWalk.i64_in _ (by omega)
      have wB : IntKind.i64.wrap (1 + (kj : Int)) = (B : Int) := by rw [show 1 + (kj : Int) = (B : Int) by omega]; exact IntWalk.i64_in _ (by omega)
      have Uz := Up.refl X1
      clear hA hB lA lB
      go_wp2_with fail
      refine (HBt.out _ Uz).mono ?_
      rintro e x51 ⟨rfl, u52⟩
      replace U := U.trans u52
      replace kB := u52.blk kB
      replace kZ := u52.blk kZ
      replace Uz := Uz.trans u52
      clear u52 HBt
      have zz := frozB kZ
      have KZ := Lib.hid (show mblk ((x51.setCell ⟨q0 + 1, 0, none⟩ (.int .i64 l)).setCell ⟨q0 + 1, 1, none⟩ (.int .i64 h)) (q0 + 1) = some (.cells #[.int .i64 l, .int .i64 h] 23 (0, 0)) from blk_put (blk_put kZ 0 _) 1 _)
      have UZ := Lib.hid ((U.set (p := ⟨q0 + 1, 0, none⟩) (show w.heap.size ≤ q0 + 1 by omega) (.int .i64 l)).set (p := ⟨q0 + 1, 1, none⟩) (show w.heap.size ≤ q0 + 1 by omega) (.int .i64 h))
      go_wp2_with fail
      have cc := cellB KZ.out
      exact bodyPost_ret (v := .tuple #[SpV l h, .int .i64 0]) (by simp [results, Try.results22, go_sem, cc]) rfl ⟨rfl, UZ.out⟩
    · skip
      obtain ⟨h3, h1, h2⟩ := tt.none hno
      subst h1 h2 h3
      refine hK.out _ _ ⟨hHeld.1.trans u, u.blk hHeld.2.1, u.blk hHeld.2.2⟩ (fun hHeld hCl => ?_)
      clear hK K u HAk hno tt
      try dsimp only [List.getElem_toArray, List.getElem_cons_succ, List.getElem_cons_zero]
      try simp only [Act.put, List.setIfInBounds_toArray, List.set_cons_zero, List.set_cons_succ]
      refine takeG (i := 14) (d := (some 10)) (v := ?v149) rfl rfl (by kernel_rfl) (by kernel_rfl) (by decide) hCl (by kernel_rfl) (by kernel_rfl) (by kernel_rfl) (fun _ _ _ h => h) (by rfl) ?hy149 (fun _ _ _ => trivial) (by assumption) (fun hCl' => ?_)
      case hy149 => ((intro w hSw; (try dsimp only at hSw); (try go_split_ands); go_simp); try with_reducible rfl)
      simp only [Act.put, List.setIfInBounds_toArray, List.set_cons_zero, List.set_cons_succ]
      replace hCl := hCl'; clear hCl'
      refine takeG (i := 15) (d := (some 25)) (v := ?v150) rfl rfl (by kernel_rfl) (by kernel_rfl) (by decide) hCl (by kernel_rfl) (by kernel_rfl) (by kernel_rfl) (fun _ _ _ h => h) (by rfl) ?hy150 (fun _ _ _ => trivial) (by assumption) (fun hCl' => ?_)
      case hy150 => ((intro w hSw; (try dsimp only at hSw); (try go_split_ands); go_simp); try with_reducible rfl)
      simp only [Act.put, List.setIfInBounds_toArray, List.set_cons_zero, List.set_cons_succ]
      replace hCl := hCl'; clear hCl'
      refine takeG (i := 16) (d := (some 26)) (v := ?v151) rfl rfl (by kernel_rfl) (by kernel_rfl) (by decide) hCl (by kernel_rfl) (by kernel_rfl) (by kernel_rfl) (fun _ _ _ h => h) (by rfl) ?hy151 (fun _ _ _ => trivial) (by assumption) (fun hCl' => ?_)
      case hy151 => ((intro w hSw; (try dsimp only at hSw); (try go_split_ands); go_simp); try with_reducible rfl)
      simp only [Act.put, List.setIfInBounds_toArray, List.set_cons_zero, List.set_cons_succ]
      replace hCl := hCl'; clear hCl'
      refine nextG (i := 17) (by kernel_rfl) rfl (by rfl) hCl (fun K hK => ?_)
      go_simp
      refine hK.out _ _ hHeld (fun hHeld hCl => ?_)
      clear hK K
      try dsimp only [List.getElem_toArray, List.getElem_cons_succ, List.getElem_cons_zero]
      try simp only [Act.put, List.setIfInBounds_toArray, List.set_cons_zero, List.set_cons_succ]
      clear hCl
      refine lastG (i := 18) (by kernel_rfl) rfl (by rfl) (by decide) (fun K hK => ?_)
      go_simp
      refine hK.out _ _ ?_
      clear hK K
      refine doneG (by kernel_rfl) ?_ _
      refine S.nrm_intro ?_
      clear U kB kZ
      obtain ⟨U, kB, kZ⟩ := hHeld
      have zz := frozB kZ
      have KZ := Lib.hid (show mblk ((X1.setCell ⟨q0 + 1, 0, none⟩ (.int .i64 0)).setCell ⟨q0 + 1, 1, none⟩ (.int .i64 0)) (q0 + 1) = some (.cells #[.int .i64 0, .int .i64 0] 23 (0, 0)) from blk_put (blk_put kZ 0 _) 1 _)
      have UZ := Lib.hid ((U.set (p := ⟨q0 + 1, 0, none⟩) (show w.heap.size ≤ q0 + 1 by omega) (.int .i64 0)).set (p := ⟨q0 + 1, 1, none⟩) (show w.heap.size ≤ q0 + 1 by omega) (.int .i64 0))
      go_wp2_with fail
      have cc := cellB KZ.out
      exact bodyPost_ret (v := .tuple #[SpV 0 0, .int .i64 32]) (by simp [results, Try.results22, go_sem, cc]) rfl ⟨rfl, UZ.out⟩
end

end Go.Proofs.Ytlpkheoljbdajaa

/- What the program and the reference tell of spans is the same. -/
namespace Go.Proofs.Ytlpkheoljbdajaa
open Go.RowKit Go.Shelf
attribute [local go_sem] Oper.semAt_some

section
variable {bl bh rl rh : Int} {aP aQ aL : Option Addr} {nP cP nQ cQ nL cL : Nat} {ps qs : List (Int × Int)} {ls : List T.T5}
theorem T.qErr_zero {M k : Int} {cl : List Int} (h : T.qErr M bl bh rl rh ps qs ls k cl = 0) : T.valid M bl bh rl rh ps qs ls = true ∧ T.askd ps.length qs.length M k cl = true := by
  unfold T.qErr at h
  cases hv : T.valid M bl bh rl rh ps qs ls with
  | false => rw [hv] at h; cases h
  | true =>
    cases ha : T.askd ps.length qs.length M k cl with
    | false => rw [hv, ha] at h; cases h
    | true => exact ⟨rfl, rfl⟩
theorem T.both_Offset {w : World} (M n : Int) (I : Sps w (.slice aP nP cP) ps) (J : Sps w (.slice aQ nQ cQ) qs) (K : Lks w (.slice aL nL cL) ls) : ∃ l h e, ∀ w' (_ : Up w w'), (Calls Try.prog 24 #[BoV M bl bh rl rh (.slice aP nP cP) (.slice aQ nQ cQ) (.slice aL nL cL), .int .i64 n] w' fun e' w'' => e' = .returned (.tuple #[SpV l h, .int .i64 e]) ∧ Up w' w'') ∧ Calls Try.prog 25 #[BoV M bl bh rl rh (.slice aP nP cP) (.slice aQ nQ cQ) (.slice aL nL cL), .int .i64 n] w' fun e' w'' => e' = .returned (.tuple #[SpV l h, .int .i64 e]) ∧ Up w' w'' := by
  by_cases hq : T.qErr M bl bh rl rh ps qs ls 2 [n] = 0
  · obtain ⟨hv, ha⟩ := T.qErr_zero hq
    obtain ⟨N, rfl⟩ := T.valid_N hv
    simp only [T.askd, T.many, List.all_cons, List.all_nil, Bool.and_true, inB_iff] at ha
    have r0 : 0 ≤ n ∧ n < (N : Int) := by omega
    obtain ⟨l, h, e, t, _⟩ := T.Tells.ex (o := T.o0) (m := 0) (i := (1 + n)) hv T.al_0 (T.al_night r0)
    exact ⟨l, h, e, fun w' u => ⟨Offset_tells hv r0 t (I.up u) (J.up u) (K.up u), r_Offset_any (I.up u) (J.up u) (K.up u) (.inr ⟨hq, fun N' hN => by
      obtain rfl : N' = N := by omega
      exact t⟩)⟩⟩
  · exact ⟨0, 0, _, fun w' u => ⟨Offset_bad (I.up u) (J.up u) (K.up u) rfl hq, r_Offset_any (I.up u) (J.up u) (K.up u) (.inl ⟨hq, rfl, rfl, rfl⟩)⟩⟩
theorem T.both_Between {w : World} (M n j : Int) (I : Sps w (.slice aP nP cP) ps) (J : Sps w (.slice aQ nQ cQ) qs) (K : Lks w (.slice aL nL cL) ls) : ∃ l h e, ∀ w' (_ : Up w w'), (Calls Try.prog 21 #[BoV M bl bh rl rh (.slice aP nP cP) (.slice aQ nQ cQ) (.slice aL nL cL), .int .i64 n, .int .i64 j] w' fun e' w'' => e' = .returned (.tuple #[SpV l h, .int .i64 e]) ∧ Up w' w'') ∧ Calls Try.prog 22 #[BoV M bl bh rl rh (.slice aP nP cP) (.slice aQ nQ cQ) (.slice aL nL cL), .int .i64 n, .int .i64 j] w' fun e' w'' => e' = .returned (.tuple #[SpV l h, .int .i64 e]) ∧ Up w' w'' := by
  by_cases hq : T.qErr M bl bh rl rh ps qs ls 2 [n, j] = 0
  · obtain ⟨hv, ha⟩ := T.qErr_zero hq
    obtain ⟨N, rfl⟩ := T.valid_N hv
    simp only [T.askd, T.many, List.all_cons, List.all_nil, Bool.and_true, Bool.and_eq_true, inB_iff] at ha
    have r0 : 0 ≤ n ∧ n < (N : Int) := by omega
    have r1 : 0 ≤ j ∧ j < (N : Int) := by omega
    obtain ⟨l, h, e, t, _⟩ := T.Tells.ex (o := T.o0) (m := (1 + n)) (i := (1 + j)) hv (T.al_night r0) (T.al_night r1)
    exact ⟨l, h, e, fun w' u => ⟨Between_tells hv r0 r1 t (I.up u) (J.up u) (K.up u), r_Between_any (I.up u) (J.up u) (K.up u) (.inr ⟨hq, fun N' hN => by
      obtain rfl : N' = N := by omega
      exact t⟩)⟩⟩
  · exact ⟨0, 0, _, fun w' u => ⟨Between_bad (I.up u) (J.up u) (K.up u) rfl hq, r_Between_any (I.up u) (J.up u) (K.up u) (.inl ⟨hq, rfl, rfl, rfl⟩)⟩⟩
theorem T.both_Person {w : World} (M n : Int) (I : Sps w (.slice aP nP cP) ps) (J : Sps w (.slice aQ nQ cQ) qs) (K : Lks w (.slice aL nL cL) ls) : ∃ l h e, ∀ w' (_ : Up w w'), (Calls Try.prog 26 #[BoV M bl bh rl rh (.slice aP nP cP) (.slice aQ nQ cQ) (.slice aL nL cL), .int .i64 n] w' fun e' w'' => e' = .returned (.tuple #[SpV l h, .int .i64 e]) ∧ Up w' w'') ∧ Calls Try.prog 27 #[BoV M bl bh rl rh (.slice aP nP cP) (.slice aQ nQ cQ) (.slice aL nL cL), .int .i64 n] w' fun e' w'' => e' = .returned (.tuple #[SpV l h, .int .i64 e]) ∧ Up w' w'' := by
  by_cases hq : T.qErr M bl bh rl rh ps qs ls 0 [n] = 0
  · obtain ⟨hv, ha⟩ := T.qErr_zero hq
    obtain ⟨N, rfl⟩ := T.valid_N hv
    simp only [T.askd, T.many, List.all_cons, List.all_nil, Bool.and_true, inB_iff] at ha
    have r0 : 0 ≤ n ∧ n < (ps.length : Int) := by omega
    obtain ⟨l, h, e, t, _⟩ := T.Tells.ex (o := T.o0) (m := (9 + n)) (i := 0) hv (T.al_per r0) T.al_0
    exact ⟨l, h, e, fun w' u => ⟨Person_tells hv r0 t (I.up u) (J.up u) (K.up u), r_Person_any (I.up u) (J.up u) (K.up u) (.inr ⟨hq, fun N' hN => by
      obtain rfl : N' = N := by omega
      exact t⟩)⟩⟩
  · exact ⟨0, 0, _, fun w' u => ⟨Person_bad (I.up u) (J.up u) (K.up u) rfl hq, r_Person_any (I.up u) (J.up u) (K.up u) (.inl ⟨hq, rfl, rfl, rfl⟩)⟩⟩
theorem T.both_Path {w : World} (M n : Int) (I : Sps w (.slice aP nP cP) ps) (J : Sps w (.slice aQ nQ cQ) qs) (K : Lks w (.slice aL nL cL) ls) : ∃ l h e, ∀ w' (_ : Up w w'), (Calls Try.prog 28 #[BoV M bl bh rl rh (.slice aP nP cP) (.slice aQ nQ cQ) (.slice aL nL cL), .int .i64 n] w' fun e' w'' => e' = .returned (.tuple #[SpV l h, .int .i64 e]) ∧ Up w' w'') ∧ Calls Try.prog 29 #[BoV M bl bh rl rh (.slice aP nP cP) (.slice aQ nQ cQ) (.slice aL nL cL), .int .i64 n] w' fun e' w'' => e' = .returned (.tuple #[SpV l h, .int .i64 e]) ∧ Up w' w'' := by
  by_cases hq : T.qErr M bl bh rl rh ps qs ls 1 [n] = 0
  · obtain ⟨hv, ha⟩ := T.qErr_zero hq
    obtain ⟨N, rfl⟩ := T.valid_N hv
    simp only [T.askd, T.many, List.all_cons, List.all_nil, Bool.and_true, inB_iff] at ha
    have r0 : 0 ≤ n ∧ n < (qs.length : Int) := by omega
    obtain ⟨l, h, e, t, _⟩ := T.Tells.ex (o := T.o0) (m := 0) (i := (13 + n)) hv T.al_0 (T.al_pth r0)
    exact ⟨l, h, e, fun w' u => ⟨Path_tells hv r0 t (I.up u) (J.up u) (K.up u), r_Path_any (I.up u) (J.up u) (K.up u) (.inr ⟨hq, fun N' hN => by
      obtain rfl : N' = N := by omega
      exact t⟩)⟩⟩
  · exact ⟨0, 0, _, fun w' u => ⟨Path_bad (I.up u) (J.up u) (K.up u) rfl hq, r_Path_any (I.up u) (J.up u) (K.up u) (.inl ⟨hq, rfl, rfl, rfl⟩)⟩⟩
end

end Go.Proofs.Ytlpkheoljbdajaa
