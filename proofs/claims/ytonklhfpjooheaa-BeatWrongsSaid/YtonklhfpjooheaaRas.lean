import Derived.Test.YtonklhfpjooheaaRmo
import Derived.Test.YtonklhfpjooheaaRck
import Derived.Test.YtonklhfpjooheaaHsI
import Derived.Test.YtonklhfpjooheaaTeR
/- The contracts of the reference's asked, Offset, Apart and Drift. -/
namespace Go.Proofs.Ytonklhfpjooheaa
open Go.RowKit Go.Shelf
attribute [local go_sem] Oper.semAt_some

/-- the errors of what is asked -/
def T.refErr (Hi : Int) (rs : T.LR) (os : T.LO) (ps : T.LP) (a b c d : Int) : Int :=
  if T.valid Hi rs os ps = false then 20 else if (inB a 0 ((rs.length : Int) - 1) && (inB c (-1) ((rs.length : Int) - 1) && (inB b 0 Hi && inB d 0 Hi))) = false then 21 else 0
/-- the moment that is meant -/
def T.mmt (c d : Int) : Int × Int := if c < 0 then (-1, 0) else (c, d)
section
variable {Hi : Int} {aR aO aP : Option Addr} {nR cR nO cO nP cP : Nat} {rs : T.LR} {os : T.LO} {ps : T.LP}
theorem T.tru_none {H : Nat} {y : Int × Int → Int} : T.Tru H rs os ps ((0 : Nat).testBit 0) ((0 : Nat).testBit 1) ((0 : Nat).testBit 2) ((0 : Nat).testBit 3) ((0 : Nat).testBit 4) y ↔ T.Tr H rs os ps y := by
  have e : ∀ i, (0 : Nat).testBit i = false := fun i => Nat.zero_testBit i
  rw [e, e, e, e, e]
set_option maxRecDepth 100000 in
set_option maxHeartbeats 4000000 in
set_option linter.unusedSimpArgs false in
theorem r_asked_any {w : World} {a b c d l h e : Int} (I : Sps w (.slice aR nR cR) rs) (IO : Ops w (.slice aO nO cO) os) (IP : Prs w (.slice aP nP cP) ps)
    (hq : (T.refErr Hi rs os ps a b c d ≠ 0 ∧ e = T.refErr Hi rs os ps a b c d ∧ l = 0 ∧ h = 0) ∨ (T.refErr Hi rs os ps a b c d = 0 ∧ ∃ H : Nat, Hi = H ∧ T.Tells H rs os ps (a, b) (T.mmt c d) l h e)) :
    Calls Try.prog 52 #[ClV Hi (.slice aR nR cR) (.slice aO nO cO) (.slice aP nP cP), .int .i64 a, .int .i64 b, .int .i64 c, .int .i64 d] w fun e' w' => e' = .returned (.tuple #[SpV l h, .int .i64 e]) ∧ Up w w' := by
  have hn := I.len
  subst hn
  have hno := IO.len
  subst hno
  have hnp := IP.len
  subst hnp
  have hmx : Try.prog.follows .mixedOrders = true := by kernel_rfl
  have HC := Lib.hid (fun w' (u : Up w w') => r_Check_any (Hi := Hi) (I.up u) (IO.up u) (IP.up u))
  have HI := Lib.hid I
  have HO := Lib.hid IO
  have HP := Lib.hid IP
  have HTo := Lib.hid (fun l h w => B_To_any l h w)
  have HQ := Lib.hid hq
  clear I IO IP hq
  go_enter Try.func52, Try.ntmps52
  obtain ⟨q0, e0⟩ : ∃ x, w.heap.size = x := ⟨_, rfl⟩
  have U := ((Up.refl w).alloc (.cells #[.int .i64 Hi, .slice aR rs.length cR, .slice aO os.length cO, .slice aP ps.length cP] 26)).alloc (.cells #[.int .i64 0, .int .i64 0] 34)
  have kC := blk_keep (.cells #[.int .i64 0, .int .i64 0] 34) (blk_new w (.cells #[.int .i64 Hi, .slice aR rs.length cR, .slice aO os.length cO, .slice aP ps.length cP] 26) q0 e0.symm)
  have kZ := blk_new (w.alloc (.cells #[.int .i64 Hi, .slice aR rs.length cR, .slice aO os.length cO, .slice aP ps.length cP] 26)) (.cells #[.int .i64 0, .int .i64 0] 34) (q0 + 1) (by simp [e0])
  go_wp2_with fail
  refine (HC.out _ U).mono ?_
  rintro e x1 ⟨rfl, u2⟩
  replace U := U.trans u2
  replace kC := u2.blk kC
  replace kZ := u2.blk kZ
  clear u2 HC
  cases hv : T.valid Hi rs os ps with
  | false =>
    rw [if_pos rfl]
    obtain ⟨rfl, rfl, rfl⟩ : e = 20 ∧ l = 0 ∧ h = 0 := by
      have ew : T.refErr Hi rs os ps a b c d = 20 := by unfold T.refErr; rw [if_pos hv]
      rcases HQ.out with ⟨_, r, s, t⟩ | ⟨r, _⟩
      · exact ⟨by rw [r, ew], s, t⟩
      · rw [ew] at r
        cases r
    have KZ := Lib.hid (show mblk ((x1.setCell ⟨q0 + 1, 0, none⟩ (.int .i64 0)).setCell ⟨q0 + 1, 1, none⟩ (.int .i64 0)) (q0 + 1) = some (.cells #[.int .i64 0, .int .i64 0] 34 (0, 0)) from blk_put (blk_put kZ 0 _) 1 _)
    have UZ := Lib.hid ((U.set (p := ⟨q0 + 1, 0, none⟩) (show w.heap.size ≤ q0 + 1 by omega) (.int .i64 0)).set (p := ⟨q0 + 1, 1, none⟩) (show w.heap.size ≤ q0 + 1 by omega) (.int .i64 0))
    have zz := frozB kZ
    clear HQ hv
    go_wp2_with fail
    have cc := cellB KZ.out
    exact bodyPost_ret (v := .tuple #[SpV 0 0, .int .i64 20]) (by simp [results, Try.results52, go_sem, cc]) rfl ⟨rfl, UZ.out⟩
  | true =>
    rw [if_neg (by decide)]
    obtain ⟨H, rfl⟩ := T.valid_nat hv
    have G := T.valid_good.1 hv
    have q1 := G.h1
    have q2 := G.h2
    have q3 := G.r1
    have q4 := G.r2
    obtain ⟨b1, hb1⟩ : ∃ q, inB a 0 ((rs.length : Int) - 1) = q := ⟨_, rfl⟩
    obtain ⟨b2, hb2⟩ : ∃ q, inB c (-1) ((rs.length : Int) - 1) = q := ⟨_, rfl⟩
    obtain ⟨b3, hb3⟩ : ∃ q, inB b 0 (H : Int) = q := ⟨_, rfl⟩
    obtain ⟨b4, hb4⟩ : ∃ q, inB d 0 (H : Int) = q := ⟨_, rfl⟩
    have HL1 := Lib.hid (fun w => show Calls Try.prog 47 #[.int .i64 a, .int .i64 0, .int .i64 ((rs.length : Int) - 1)] w fun e w' => e = .returned (.bool b1) ∧ w = w' by rw [← hb1]; exact B_Lies_any _ _ _ w)
    have HL2 := Lib.hid (fun w => show Calls Try.prog 47 #[.int .i64 c, .int .i64 (-1), .int .i64 ((rs.length : Int) - 1)] w fun e w' => e = .returned (.bool b2) ∧ w = w' by rw [← hb2]; exact B_Lies_any _ _ _ w)
    have HL3 := Lib.hid (fun w => show Calls Try.prog 47 #[.int .i64 b, .int .i64 0, .int .i64 (H : Int)] w fun e w' => e = .returned (.bool b3) ∧ w = w' by rw [← hb3]; exact B_Lies_any _ _ _ w)
    have HL4 := Lib.hid (fun w => show Calls Try.prog 47 #[.int .i64 d, .int .i64 0, .int .i64 (H : Int)] w fun e w' => e = .returned (.bool b4) ∧ w = w' by rw [← hb4]; exact B_Lies_any _ _ _ w)
    have HE := Lib.hid (show T.refErr (H : Int) rs os ps a b c d = if (b1 && (b2 && (b3 && b4))) = false then 21 else 0 by unfold T.refErr; rw [if_neg (by rw [hv]; decide), hb1, hb2, hb3, hb4])
    have HBB := Lib.hid (And.intro hb1 (And.intro hb2 (And.intro hb3 hb4)))
    have wr1 : IntKind.i64.wrap ((rs.length : Int) - 1) = (rs.length : Int) - 1 := IntWalk.i64_in _ (by omega)
    have HG := Lib.hid G
    have hz5 : (0 : Nat) < 32 := by decide
    have HM := Lib.hid (fun w' (u : Up w w') => r_most_any G (HI.out.up u) (HO.out.up u) (HP.out.up u) hz5)
    clear hb1 hb2 hb3 hb4 G
    go_wp2_with fail
    refine (HL1.out _).mono ?_
    rintro e x21 ⟨rfl, rfl⟩
    cases b1 with
    | false =>
      obtain ⟨rfl, rfl, rfl⟩ : e = 21 ∧ l = 0 ∧ h = 0 := by
        have ew : T.refErr (H : Int) rs os ps a b c d = 21 := by rw [HE.out]; exact if_pos rfl
        rcases HQ.out with ⟨_, r, s, t⟩ | ⟨r, _⟩
        · exact ⟨by rw [r, ew], s, t⟩
        · rw [ew] at r
          cases r
      have KZ := Lib.hid (show mblk ((x1.setCell ⟨q0 + 1, 0, none⟩ (.int .i64 0)).setCell ⟨q0 + 1, 1, none⟩ (.int .i64 0)) (q0 + 1) = some (.cells #[.int .i64 0, .int .i64 0] 34 (0, 0)) from blk_put (blk_put kZ 0 _) 1 _)
      have UZ := Lib.hid ((U.set (p := ⟨q0 + 1, 0, none⟩) (show w.heap.size ≤ q0 + 1 by omega) (.int .i64 0)).set (p := ⟨q0 + 1, 1, none⟩) (show w.heap.size ≤ q0 + 1 by omega) (.int .i64 0))
      have zz := frozB kZ
      clear HQ hv
      go_wp2_with fail
      have cc := cellB KZ.out
      exact bodyPost_ret (v := .tuple #[SpV 0 0, .int .i64 21]) (by simp [results, Try.results52, go_sem, cc]) rfl ⟨rfl, UZ.out⟩
    | true =>
      go_wp2_with fail
      refine (HL2.out _).mono ?_
      rintro e x42 ⟨rfl, rfl⟩
      cases b2 with
      | false =>
        obtain ⟨rfl, rfl, rfl⟩ : e = 21 ∧ l = 0 ∧ h = 0 := by
          have ew : T.refErr (H : Int) rs os ps a b c d = 21 := by rw [HE.out]; exact if_pos rfl
          rcases HQ.out with ⟨_, r, s, t⟩ | ⟨r, _⟩
          · exact ⟨by rw [r, ew], s, t⟩
          · rw [ew] at r
            cases r
        have KZ := Lib.hid (show mblk ((x1.setCell ⟨q0 + 1, 0, none⟩ (.int .i64 0)).setCell ⟨q0 + 1, 1, none⟩ (.int .i64 0)) (q0 + 1) = some (.cells #[.int .i64 0, .int .i64 0] 34 (0, 0)) from blk_put (blk_put kZ 0 _) 1 _)
        have UZ := Lib.hid ((U.set (p := ⟨q0 + 1, 0, none⟩) (show w.heap.size ≤ q0 + 1 by omega) (.int .i64 0)).set (p := ⟨q0 + 1, 1, none⟩) (show w.heap.size ≤ q0 + 1 by omega) (.int .i64 0))
        have zz := frozB kZ
        clear HQ hv
        go_wp2_with fail
        have cc := cellB KZ.out
        exact bodyPost_ret (v := .tuple #[SpV 0 0, .int .i64 21]) (by simp [results, Try.results52, go_sem, cc]) rfl ⟨rfl, UZ.out⟩
      | true =>
        go_wp2_with fail
        refine (HL3.out _).mono ?_
        rintro e x63 ⟨rfl, rfl⟩
        cases b3 with
        | false =>
          obtain ⟨rfl, rfl, rfl⟩ : e = 21 ∧ l = 0 ∧ h = 0 := by
            have ew : T.refErr (H : Int) rs os ps a b c d = 21 := by rw [HE.out]; exact if_pos rfl
            rcases HQ.out with ⟨_, r, s, t⟩ | ⟨r, _⟩
            · exact ⟨by rw [r, ew], s, t⟩
            · rw [ew] at r
              cases r
          have KZ := Lib.hid (show mblk ((x1.setCell ⟨q0 + 1, 0, none⟩ (.int .i64 0)).setCell ⟨q0 + 1, 1, none⟩ (.int .i64 0)) (q0 + 1) = some (.cells #[.int .i64 0, .int .i64 0] 34 (0, 0)) from blk_put (blk_put kZ 0 _) 1 _)
          have UZ := Lib.hid ((U.set (p := ⟨q0 + 1, 0, none⟩) (show w.heap.size ≤ q0 + 1 by omega) (.int .i64 0)).set (p := ⟨q0 + 1, 1, none⟩) (show w.heap.size ≤ q0 + 1 by omega) (.int .i64 0))
          have zz := frozB kZ
          clear HQ hv
          go_wp2_with fail
          have cc := cellB KZ.out
          exact bodyPost_ret (v := .tuple #[SpV 0 0, .int .i64 21]) (by simp [results, Try.results52, go_sem, cc]) rfl ⟨rfl, UZ.out⟩
        | true =>
          go_wp2_with fail
          refine (HL4.out _).mono ?_
          rintro e x84 ⟨rfl, rfl⟩
          cases b4 with
          | false =>
            obtain ⟨rfl, rfl, rfl⟩ : e = 21 ∧ l = 0 ∧ h = 0 := by
              have ew : T.refErr (H : Int) rs os ps a b c d = 21 := by rw [HE.out]; exact if_pos rfl
              rcases HQ.out with ⟨_, r, s, t⟩ | ⟨r, _⟩
              · exact ⟨by rw [r, ew], s, t⟩
              · rw [ew] at r
                cases r
            have KZ := Lib.hid (show mblk ((x1.setCell ⟨q0 + 1, 0, none⟩ (.int .i64 0)).setCell ⟨q0 + 1, 1, none⟩ (.int .i64 0)) (q0 + 1) = some (.cells #[.int .i64 0, .int .i64 0] 34 (0, 0)) from blk_put (blk_put kZ 0 _) 1 _)
            have UZ := Lib.hid ((U.set (p := ⟨q0 + 1, 0, none⟩) (show w.heap.size ≤ q0 + 1 by omega) (.int .i64 0)).set (p := ⟨q0 + 1, 1, none⟩) (show w.heap.size ≤ q0 + 1 by omega) (.int .i64 0))
            have zz := frozB kZ
            clear HQ hv
            go_wp2_with fail
            have cc := cellB KZ.out
            exact bodyPost_ret (v := .tuple #[SpV 0 0, .int .i64 21]) (by simp [results, Try.results52, go_sem, cc]) rfl ⟨rfl, UZ.out⟩
          | true =>
            obtain ⟨t1, t2, t3, t4⟩ := HBB.out
            have i1 := inB_iff.1 t1
            have i2 := inB_iff.1 t2
            have i3 := inB_iff.1 t3
            have i4 := inB_iff.1 t4
            have ht : T.Tells H rs os ps (a, b) (T.mmt c d) l h e := by
              rcases HQ.out with ⟨r, _⟩ | ⟨_, H', rH, r⟩
              · exact absurd (by rw [HE.out]; rfl) r
              · obtain rfl : H = H' := by omega
                exact r
            have h1 := T.mom_in (n := rs.length) (H := H) (k := a) (h := b) ⟨i1.1, by omega⟩ i3
            have h2 : T.mmt c d ∈ T.moms rs.length H := by
              unfold T.mmt
              split
              · exact T.mom_0
              · exact T.mom_in ⟨by omega, by omega⟩ i4
            have HTE := Lib.hid (And.intro ht (And.intro h1 h2))
            clear t1 t2 t3 t4 HBB HL1 HL2 HL3 HL4 HE HQ hv ht h1 h2
            go_wp2_with fail
            refine (HM.out _ U).mono ?_
            rintro e' x9 ⟨hc, u⟩
            replace U := U.trans u
            replace kC := u.blk kC
            replace kZ := u.blk kZ
            clear u HM
            rcases hc with ⟨g, N, rw, M, hN, rfl, HMx, hall⟩ | ⟨rfl, hno⟩
            · skip
              obtain ⟨A1, A2⟩ := hall _ _ HTE.out.2.1 HTE.out.2.2
              obtain ⟨B1, B2⟩ := hall _ _ HTE.out.2.2 HTE.out.2.1
              have hea : T.ml H (a, b) = T.plc H a.toNat b.toNat := by unfold T.ml; rw [if_neg (by show ¬ a < 0; omega)]
              obtain ⟨A, hA⟩ : ∃ A, T.ml H (a, b) = A := ⟨_, rfl⟩
              obtain ⟨B, hB⟩ : ∃ B, T.ml H (T.mmt c d) = B := ⟨_, rfl⟩
              have hAN : A < N := by rw [hN, ← hA]; exact T.ml_lt HTE.out.2.1
              have hBN : B < N := by rw [hN, ← hB]; exact T.ml_lt HTE.out.2.2
              rw [hA, hB] at A1 A2 B1 B2
              obtain ⟨m1, hm1⟩ : ∃ q, M A B = q := ⟨_, rfl⟩
              obtain ⟨m2, hm2⟩ : ∃ q, M B A = q := ⟨_, rfl⟩
              have c1 := HMx.cell1 hAN
              have c2 := HMx.cell1 hBN
              have c3 := HMx.cell2 hAN hBN
              have c4 := HMx.cell2 hBN hAN
              rw [hm1] at A1 A2 c3
              rw [hm2] at B1 B2 c4
              obtain ⟨rfl, rfl, rfl⟩ : e = 0 ∧ l = -m2 ∧ h = m1 := by
                have key : ∀ y, T.Tr H rs os ps y ↔ T.Tru H rs os ps ((0 : Nat).testBit 0) ((0 : Nat).testBit 1) ((0 : Nat).testBit 2) ((0 : Nat).testBit 3) ((0 : Nat).testBit 4) y := fun y => T.tru_none.symm
                obtain ⟨y1, z1, z2⟩ := A2
                obtain ⟨y2, z3, z4⟩ := B2
                rcases HTE.out.1 with ⟨r, p, ⟨u1, p1, p2⟩, u2, p3, p4⟩ | ⟨_, _, _, hn⟩
                · have e1 := p y1 ((key _).2 z1)
                  have e2 := p y2 ((key _).2 z3)
                  have e3 := A1 u2 ((key _).1 p3)
                  have e4 := B1 u1 ((key _).1 p1)
                  refine ⟨r, ?_, ?_⟩ <;> omega
                · exact absurd ((key _).2 z1) (hn y1)
              have bdd := HTE.out.1.bd HG.out HTE.out.2.1 HTE.out.2.2
              have hN66 : N ≤ 66 := by
                have := Nat.mul_le_mul q4 (show H + 1 ≤ 13 by omega)
                omega
              have iA : (A : Int) < (N : Int) := by omega
              have iB : (B : Int) < (N : Int) := by omega
              have wn : IntKind.i64.wrap (-m2) = -m2 := IntWalk.i64_in _ (by omega)
              have wn' : IntKind.i64.wrap (0 - m2) = -m2 := by rw [show (0 : Int) - m2 = -m2 by omega]; exact wn
              have HPa := Lib.hid (fun w' => show Calls Try.prog 79 #[ClV H (.slice aR rs.length cR) (.slice aO os.length cO) (.slice aP ps.length cP), .int .i64 a, .int .i64 b] w' fun e w'' => e = .returned (.int .i64 (A : Int)) ∧ Up w' w'' by
                rw [← hA, hea, ← Int.toNat_of_nonneg i1.1, ← Int.toNat_of_nonneg i3.1]
                exact r_place_any w' q2 (by omega) (by omega))
              have HPb := Lib.hid (fun w' => show Calls Try.prog 79 #[ClV H (.slice aR rs.length cR) (.slice aO os.length cO) (.slice aP ps.length cP), .int .i64 c, .int .i64 d] w' fun e w'' => e = .returned (.int .i64 (B : Int)) ∧ Up w' w'' by
                rw [← hB]
                unfold T.mmt
                by_cases c0 : c < 0
                · obtain rfl : c = -1 := by omega
                  rw [if_pos c0]
                  exact r_place_0 w'
                · rw [if_neg c0]
                  unfold T.ml
                  rw [if_neg (by show ¬ c < 0; exact c0)]
                  show Calls _ _ _ _ fun e w'' => e = .returned (.int .i64 ((T.plc H c.toNat d.toNat : Nat) : Int)) ∧ _
                  rw [← Int.toNat_of_nonneg (show 0 ≤ c by omega), ← Int.toNat_of_nonneg i4.1]
                  exact r_place_any w' q2 (by omega) (by omega))
              have HX := Lib.hid (fun w' (u : Up x9 w') => And.intro (u.cell2 c1) (And.intro (u.cell2 c2) (And.intro (u.cell2 c3) (u.cell2 c4))))
              have Uz := Up.refl x9
              clear A1 A2 B1 B2 hA hB hea c1 c2 c3 c4 hm1 hm2 HTE HMx hall hN bdd
              go_wp2_with fail
              have F122 := Lib.hid (fun w (u : Up x9 w) => cellB (u.blk kC))
              have F123 := Lib.hid (fun w (u : Up x9 w) => cellB (u.blk kZ))
              refine (wpIn_wide (n := 5)).1 ?_
              refine wpIn_nrm ?_
              refine T.regionQ (fun w' => Up x9 w') 8 2 hmx (by kernel_rfl) (by kernel_rfl) ((Up.refl x9).drew) (fun hCl => ?_)
              refine T.qT 0 (some 62) ?v1 rfl rfl hCl ?hy1 (fun hCl' => ?_)
              case hy1 => (intro w hSw; refine T.qVal ?_ hSw; (have fF122 := F122.out w hSw; have fF123 := F123.out w hSw); (try dsimp only [List.getElem_toArray, List.getElem_cons_succ, List.getElem_cons_zero]); go_simp; try with_reducible rfl)
              simp only [Act.put, List.setIfInBounds_toArray, List.set_cons_zero, List.set_cons_succ]; replace hCl := hCl'; clear hCl'
              refine T.qT 1 (some 63) ?v2 rfl rfl hCl ?hy2 (fun hCl' => ?_)
              case hy2 => (intro w hSw; refine T.qVal ?_ hSw; (try dsimp only [List.getElem_toArray, List.getElem_cons_succ, List.getElem_cons_zero]); go_simp; try with_reducible rfl)
              simp only [Act.put, List.setIfInBounds_toArray, List.set_cons_zero, List.set_cons_succ]; replace hCl := hCl'; clear hCl'
              refine T.qT 2 (some 64) ?v3 rfl rfl hCl ?hy3 (fun hCl' => ?_)
              case hy3 => (intro w hSw; refine T.qVal ?_ hSw; (try dsimp only [List.getElem_toArray, List.getElem_cons_succ, List.getElem_cons_zero]); go_simp; try with_reducible rfl)
              simp only [Act.put, List.setIfInBounds_toArray, List.set_cons_zero, List.set_cons_succ]; replace hCl := hCl'; clear hCl'
              refine T.qT 4 (some 66) ?v4 rfl rfl hCl ?hy4 (fun hCl' => ?_)
              case hy4 => (intro w hSw; refine T.qVal ?_ hSw; (have fF122 := F122.out w hSw; have fF123 := F123.out w hSw); (try dsimp only [List.getElem_toArray, List.getElem_cons_succ, List.getElem_cons_zero]); go_simp; try with_reducible rfl)
              simp only [Act.put, List.setIfInBounds_toArray, List.set_cons_zero, List.set_cons_succ]; replace hCl := hCl'; clear hCl'
              refine T.qT 5 (some 67) ?v5 rfl rfl hCl ?hy5 (fun hCl' => ?_)
              case hy5 => (intro w hSw; refine T.qVal ?_ hSw; (try dsimp only [List.getElem_toArray, List.getElem_cons_succ, List.getElem_cons_zero]); go_simp; try with_reducible rfl)
              simp only [Act.put, List.setIfInBounds_toArray, List.set_cons_zero, List.set_cons_succ]; replace hCl := hCl'; clear hCl'
              refine T.qT 6 (some 68) ?v6 rfl rfl hCl ?hy6 (fun hCl' => ?_)
              case hy6 => (intro w hSw; refine T.qVal ?_ hSw; (try dsimp only [List.getElem_toArray, List.getElem_cons_succ, List.getElem_cons_zero]); go_simp; try with_reducible rfl)
              simp only [Act.put, List.setIfInBounds_toArray, List.set_cons_zero, List.set_cons_succ]; replace hCl := hCl'; clear hCl'
              refine T.qT 3 (some 65) ((.int .i64 (A : Int))) rfl rfl hCl ?hy7 (fun hCl' => ?_)
              case hy7 => (intro w hSw; (have fF122 := F122.out w hSw; have fF123 := F123.out w hSw); (try dsimp only [List.getElem_toArray, List.getElem_cons_succ, List.getElem_cons_zero]); go_simp; (refine (callsIn_wide.2 (HPa.out w)).mono ?_; rintro e w3 ⟨rfl, u3⟩; exact ⟨rfl, hSw.trans u3⟩))
              simp only [Act.put, List.setIfInBounds_toArray, List.set_cons_zero, List.set_cons_succ]
              replace hCl := hCl'; clear hCl'
              refine T.qT 7 (some 69) ((.int .i64 (B : Int))) rfl rfl hCl ?hy8 (fun hCl' => ?_)
              case hy8 => (intro w hSw; (have fF122 := F122.out w hSw; have fF123 := F123.out w hSw); (try dsimp only [List.getElem_toArray, List.getElem_cons_succ, List.getElem_cons_zero]); go_simp; (refine (callsIn_wide.2 (HPb.out w)).mono ?_; rintro e w3 ⟨rfl, u3⟩; exact ⟨rfl, hSw.trans u3⟩))
              simp only [Act.put, List.setIfInBounds_toArray, List.set_cons_zero, List.set_cons_succ]
              replace hCl := hCl'; clear hCl'
              refine T.tail_intro (by kernel_rfl) (fun Y121 hY121 => ?_)
              replace U := U.trans hY121
              replace kC := hY121.blk kC
              replace kZ := hY121.blk kZ
              replace Uz := Uz.trans hY121
              clear F122 F123 hY121
              refine lastG (i := 8) (by kernel_rfl) rfl (by rfl) (by decide) (fun K hK => ?_)
              go_simp
              refine hK.out _ _ ?_
              clear hK K
              refine lastG (i := 9) (by kernel_rfl) rfl (by rfl) (by decide) (fun K hK => ?_)
              go_simp
              refine hK.out _ _ ?_
              clear hK K
              refine doneG (by kernel_rfl) ?_ _
              refine S.nrm_intro ?_
              clear HPa HPb
              go_wp2_with fail
              have F125 := Lib.hid (fun w (u : Up Y121 w) => cellB (u.blk kC))
              have F126 := Lib.hid (fun w (u : Up Y121 w) => cellB (u.blk kZ))
              refine (wpIn_wide (n := 5)).1 ?_
              refine wpIn_nrm ?_
              refine T.regionQ (fun w' => Up Y121 w') 16 2 hmx (by kernel_rfl) (by kernel_rfl) ((Up.refl Y121).drew) (fun hCl => ?_)
              refine T.qT 0 (some 70) ?v9 rfl rfl hCl ?hy9 (fun hCl' => ?_)
              case hy9 => (intro w hSw; refine T.qVal ?_ hSw; (try dsimp only [List.getElem_toArray, List.getElem_cons_succ, List.getElem_cons_zero]); go_simp; try with_reducible rfl)
              simp only [Act.put, List.setIfInBounds_toArray, List.set_cons_zero, List.set_cons_succ]; replace hCl := hCl'; clear hCl'
              refine T.qT 1 (some 71) ?v10 rfl rfl hCl ?hy10 (fun hCl' => ?_)
              case hy10 => (intro w hSw; refine T.qVal ?_ hSw; (try dsimp only [List.getElem_toArray, List.getElem_cons_succ, List.getElem_cons_zero]); go_simp; try with_reducible rfl)
              simp only [Act.put, List.setIfInBounds_toArray, List.set_cons_zero, List.set_cons_succ]; replace hCl := hCl'; clear hCl'
              refine T.qT 4 (some 74) ?v11 rfl rfl hCl ?hy11 (fun hCl' => ?_)
              case hy11 => (intro w hSw; refine T.qVal ?_ hSw; (try dsimp only [List.getElem_toArray, List.getElem_cons_succ, List.getElem_cons_zero]); go_simp; try with_reducible rfl)
              simp only [Act.put, List.setIfInBounds_toArray, List.set_cons_zero, List.set_cons_succ]; replace hCl := hCl'; clear hCl'
              refine T.qT 8 (some 78) ?v12 rfl rfl hCl ?hy12 (fun hCl' => ?_)
              case hy12 => (intro w hSw; refine T.qVal ?_ hSw; (try dsimp only [List.getElem_toArray, List.getElem_cons_succ, List.getElem_cons_zero]); go_simp; try with_reducible rfl)
              simp only [Act.put, List.setIfInBounds_toArray, List.set_cons_zero, List.set_cons_succ]; replace hCl := hCl'; clear hCl'
              refine T.qT 9 (some 79) ?v13 rfl rfl hCl ?hy13 (fun hCl' => ?_)
              case hy13 => (intro w hSw; refine T.qVal ?_ hSw; (try dsimp only [List.getElem_toArray, List.getElem_cons_succ, List.getElem_cons_zero]); go_simp; try with_reducible rfl)
              simp only [Act.put, List.setIfInBounds_toArray, List.set_cons_zero, List.set_cons_succ]; replace hCl := hCl'; clear hCl'
              refine T.qT 12 (some 82) ?v14 rfl rfl hCl ?hy14 (fun hCl' => ?_)
              case hy14 => (intro w hSw; refine T.qVal ?_ hSw; (try dsimp only [List.getElem_toArray, List.getElem_cons_succ, List.getElem_cons_zero]); go_simp; try with_reducible rfl)
              simp only [Act.put, List.setIfInBounds_toArray, List.set_cons_zero, List.set_cons_succ]; replace hCl := hCl'; clear hCl'
              refine T.qT 2 (some 72) ?v15 rfl rfl hCl ?hy15 (fun hCl' => ?_)
              case hy15 => (intro w hSw; refine T.qVal ?_ hSw; (try dsimp only [List.getElem_toArray, List.getElem_cons_succ, List.getElem_cons_zero]); go_simp; try with_reducible rfl)
              simp only [Act.put, List.setIfInBounds_toArray, List.set_cons_zero, List.set_cons_succ]; replace hCl := hCl'; clear hCl'
              refine T.qT 10 (some 80) ?v16 rfl rfl hCl ?hy16 (fun hCl' => ?_)
              case hy16 => (intro w hSw; refine T.qVal ?_ hSw; (try dsimp only [List.getElem_toArray, List.getElem_cons_succ, List.getElem_cons_zero]); go_simp; try with_reducible rfl)
              simp only [Act.put, List.setIfInBounds_toArray, List.set_cons_zero, List.set_cons_succ]; replace hCl := hCl'; clear hCl'
              refine T.qT 3 (some 73) ?v17 rfl rfl hCl ?hy17 (fun hCl' => ?_)
              case hy17 => (intro w hSw; refine T.qVal ?_ hSw; (have fF125 := F125.out w hSw; have fF126 := F126.out w hSw; obtain ⟨z1, z2, z3, z4⟩ := HX.out w (Uz.trans hSw)); (try dsimp only [List.getElem_toArray, List.getElem_cons_succ, List.getElem_cons_zero]); go_simp; try with_reducible rfl)
              simp only [Act.put, List.setIfInBounds_toArray, List.set_cons_zero, List.set_cons_succ]; replace hCl := hCl'; clear hCl'
              refine T.qT 11 (some 81) ?v18 rfl rfl hCl ?hy18 (fun hCl' => ?_)
              case hy18 => (intro w hSw; refine T.qVal ?_ hSw; (have fF125 := F125.out w hSw; have fF126 := F126.out w hSw; obtain ⟨z1, z2, z3, z4⟩ := HX.out w (Uz.trans hSw)); (try dsimp only [List.getElem_toArray, List.getElem_cons_succ, List.getElem_cons_zero]); go_simp; try with_reducible rfl)
              simp only [Act.put, List.setIfInBounds_toArray, List.set_cons_zero, List.set_cons_succ]; replace hCl := hCl'; clear hCl'
              refine T.qT 5 (some 75) ?v19 rfl rfl hCl ?hy19 (fun hCl' => ?_)
              case hy19 => (intro w hSw; refine T.qVal ?_ hSw; (try dsimp only [List.getElem_toArray, List.getElem_cons_succ, List.getElem_cons_zero]); go_simp; try with_reducible rfl)
              simp only [Act.put, List.setIfInBounds_toArray, List.set_cons_zero, List.set_cons_succ]; replace hCl := hCl'; clear hCl'
              refine T.qT 13 (some 83) ?v20 rfl rfl hCl ?hy20 (fun hCl' => ?_)
              case hy20 => (intro w hSw; refine T.qVal ?_ hSw; (try dsimp only [List.getElem_toArray, List.getElem_cons_succ, List.getElem_cons_zero]); go_simp; try with_reducible rfl)
              simp only [Act.put, List.setIfInBounds_toArray, List.set_cons_zero, List.set_cons_succ]; replace hCl := hCl'; clear hCl'
              refine T.qT 6 (some 76) ?v21 rfl rfl hCl ?hy21 (fun hCl' => ?_)
              case hy21 => (intro w hSw; refine T.qVal ?_ hSw; (have fF125 := F125.out w hSw; have fF126 := F126.out w hSw; obtain ⟨z1, z2, z3, z4⟩ := HX.out w (Uz.trans hSw)); (try dsimp only [List.getElem_toArray, List.getElem_cons_succ, List.getElem_cons_zero]); go_simp; try with_reducible rfl)
              simp only [Act.put, List.setIfInBounds_toArray, List.set_cons_zero, List.set_cons_succ]; replace hCl := hCl'; clear hCl'
              refine T.qT 14 (some 84) ?v22 rfl rfl hCl ?hy22 (fun hCl' => ?_)
              case hy22 => (intro w hSw; refine T.qVal ?_ hSw; (have fF125 := F125.out w hSw; have fF126 := F126.out w hSw; obtain ⟨z1, z2, z3, z4⟩ := HX.out w (Uz.trans hSw)); (try dsimp only [List.getElem_toArray, List.getElem_cons_succ, List.getElem_cons_zero]); go_simp; try with_reducible rfl)
              simp only [Act.put, List.setIfInBounds_toArray, List.set_cons_zero, List.set_cons_succ]; replace hCl := hCl'; clear hCl'
              refine T.qT 7 (some 77) ?v23 rfl rfl hCl ?hy23 (fun hCl' => ?_)
              case hy23 => (intro w hSw; refine T.qVal ?_ hSw; (try dsimp only [List.getElem_toArray, List.getElem_cons_succ, List.getElem_cons_zero]); go_simp; try with_reducible rfl)
              simp only [Act.put, List.setIfInBounds_toArray, List.set_cons_zero, List.set_cons_succ]; replace hCl := hCl'; clear hCl'
              refine T.qT 15 (some 85) ((SpV (-m2) h)) rfl rfl hCl ?hy24 (fun hCl' => ?_)
              case hy24 => (intro w hSw; (have fF125 := F125.out w hSw; have fF126 := F126.out w hSw; obtain ⟨z1, z2, z3, z4⟩ := HX.out w (Uz.trans hSw)); (try dsimp only [List.getElem_toArray, List.getElem_cons_succ, List.getElem_cons_zero]); go_simp; (refine (callsIn_wide.2 (HTo.out _ _ w)).mono ?_; rintro e w3 ⟨rfl, u3⟩; exact ⟨rfl, hSw.trans u3⟩))
              simp only [Act.put, List.setIfInBounds_toArray, List.set_cons_zero, List.set_cons_succ]
              replace hCl := hCl'; clear hCl'
              refine T.tail_intro (by kernel_rfl) (fun Y124 hY124 => ?_)
              have zz := frozB (hY124.blk kZ)
              replace U := U.trans hY124
              replace kC := hY124.blk kC
              replace kZ := hY124.blk kZ
              replace Uz := Uz.trans hY124
              clear F125 F126 hY124
              refine lastG (i := 16) (by kernel_rfl) rfl (by rfl) (by decide) (fun K hK => ?_)
              go_simp
              refine hK.out _ _ ?_
              clear hK K
              refine lastG (i := 17) (by kernel_rfl) rfl (by rfl) (by decide) (fun K hK => ?_)
              go_simp
              refine hK.out _ _ ?_
              clear hK K
              refine doneG (by kernel_rfl) ?_ _
              refine S.nrm_intro ?_
              have KZ := Lib.hid (show mblk ((Y124.setCell ⟨q0 + 1, 0, none⟩ (.int .i64 (-m2))).setCell ⟨q0 + 1, 1, none⟩ (.int .i64 h)) (q0 + 1) = some (.cells #[.int .i64 (-m2), .int .i64 h] 34 (0, 0)) from blk_put (blk_put kZ 0 _) 1 _)
              have UZ := Lib.hid ((U.set (p := ⟨q0 + 1, 0, none⟩) (show w.heap.size ≤ q0 + 1 by omega) (.int .i64 (-m2))).set (p := ⟨q0 + 1, 1, none⟩) (show w.heap.size ≤ q0 + 1 by omega) (.int .i64 h))
              go_wp2_with fail
              have cc := cellB KZ.out
              exact bodyPost_ret (v := .tuple #[SpV (-m2) h, .int .i64 0]) (by simp [results, Try.results52, go_sem, cc]) rfl ⟨rfl, UZ.out⟩
            · skip
              obtain ⟨rfl, rfl, rfl⟩ : e = 22 ∧ l = 0 ∧ h = 0 := by
                rcases HTE.out.1.can with ⟨_, y, hy⟩ | ⟨r, s, t, _⟩
                · exact absurd (T.tru_none.2 hy) (hno y)
                · exact ⟨r, s, t⟩
              clear hno HTE
              have KZ := Lib.hid (show mblk ((x9.setCell ⟨q0 + 1, 0, none⟩ (.int .i64 0)).setCell ⟨q0 + 1, 1, none⟩ (.int .i64 0)) (q0 + 1) = some (.cells #[.int .i64 0, .int .i64 0] 34 (0, 0)) from blk_put (blk_put kZ 0 _) 1 _)
              have UZ := Lib.hid ((U.set (p := ⟨q0 + 1, 0, none⟩) (show w.heap.size ≤ q0 + 1 by omega) (.int .i64 0)).set (p := ⟨q0 + 1, 1, none⟩) (show w.heap.size ≤ q0 + 1 by omega) (.int .i64 0))
              have zz := frozB kZ
              go_wp2_with fail
              have cc := cellB KZ.out
              exact bodyPost_ret (v := .tuple #[SpV 0 0, .int .i64 22]) (by simp [results, Try.results52, go_sem, cc]) rfl ⟨rfl, UZ.out⟩
set_option maxRecDepth 100000 in
set_option maxHeartbeats 1000000 in
theorem r_Offset_any {w : World} {k t l h e : Int} (I : Sps w (.slice aR nR cR) rs) (IO : Ops w (.slice aO nO cO) os) (IP : Prs w (.slice aP nP cP) ps)
    (hq : (T.refErr Hi rs os ps k t (-1) 0 ≠ 0 ∧ e = T.refErr Hi rs os ps k t (-1) 0 ∧ l = 0 ∧ h = 0) ∨ (T.refErr Hi rs os ps k t (-1) 0 = 0 ∧ ∃ H : Nat, Hi = H ∧ T.Tells H rs os ps (k, t) (T.mmt (-1) 0) l h e)) :
    Calls Try.prog 20 #[ClV Hi (.slice aR nR cR) (.slice aO nO cO) (.slice aP nP cP), .int .i64 k, .int .i64 t] w fun e' w' => e' = .returned (.tuple #[SpV l h, .int .i64 e]) ∧ Up w w' := by
  have HA := Lib.hid (fun w' (u : Up w w') => r_asked_any (I.up u) (IO.up u) (IP.up u) hq)
  clear I IO IP hq
  go_enter Try.func20, Try.ntmps20
  obtain ⟨q0, e0⟩ : ∃ x, w.heap.size = x := ⟨_, rfl⟩
  have U := ((Up.refl w).alloc (.cells #[.int .i64 Hi, .slice aR nR cR, .slice aO nO cO, .slice aP nP cP] 26)).alloc (.cells #[.int .i64 0, .int .i64 0] 34)
  have kC := blk_keep (.cells #[.int .i64 0, .int .i64 0] 34) (blk_new w (.cells #[.int .i64 Hi, .slice aR nR cR, .slice aO nO cO, .slice aP nP cP] 26) q0 e0.symm)
  have kZ := blk_new (w.alloc (.cells #[.int .i64 Hi, .slice aR nR cR, .slice aO nO cO, .slice aP nP cP] 26)) (.cells #[.int .i64 0, .int .i64 0] 34) (q0 + 1) (by simp [e0])
  go_wp2_with fail
  refine (HA.out _ U).mono ?_
  rintro e x1 ⟨rfl, u2⟩
  replace U := U.trans u2
  replace kC := u2.blk kC
  replace kZ := u2.blk kZ
  clear u2 
  have zz := frozB kZ
  have KZ := Lib.hid (show mblk ((x1.setCell ⟨q0 + 1, 0, none⟩ (.int .i64 l)).setCell ⟨q0 + 1, 1, none⟩ (.int .i64 h)) (q0 + 1) = some (.cells #[.int .i64 l, .int .i64 h] 34 (0, 0)) from blk_put (blk_put kZ 0 _) 1 _)
  have UZ := Lib.hid ((U.set (p := ⟨q0 + 1, 0, none⟩) (show w.heap.size ≤ q0 + 1 by omega) (.int .i64 l)).set (p := ⟨q0 + 1, 1, none⟩) (show w.heap.size ≤ q0 + 1 by omega) (.int .i64 h))
  go_wp2_with fail
  have cc := cellB KZ.out
  exact bodyPost_ret (v := .tuple #[SpV l h, .int .i64 e]) (by simp [results, Try.results20, go_sem, cc]) rfl ⟨rfl, UZ.out⟩
set_option maxRecDepth 100000 in
set_option maxHeartbeats 1000000 in
theorem r_Apart_any {w : World} {k i t l h e : Int} (I : Sps w (.slice aR nR cR) rs) (IO : Ops w (.slice aO nO cO) os) (IP : Prs w (.slice aP nP cP) ps)
    (hq : (T.refErr Hi rs os ps k t i t ≠ 0 ∧ e = T.refErr Hi rs os ps k t i t ∧ l = 0 ∧ h = 0) ∨ (T.refErr Hi rs os ps k t i t = 0 ∧ ∃ H : Nat, Hi = H ∧ T.Tells H rs os ps (k, t) (T.mmt i t) l h e)) (hx : T.valid Hi rs os ps = true → 0 ≤ i) :
    Calls Try.prog 23 #[ClV Hi (.slice aR nR cR) (.slice aO nO cO) (.slice aP nP cP), .int .i64 k, .int .i64 i, .int .i64 t] w fun e' w' => e' = .returned (.tuple #[SpV l h, .int .i64 e]) ∧ Up w w' := by
  have HA := Lib.hid (fun w' (u : Up w w') => r_asked_any (I.up u) (IO.up u) (IP.up u) hq)
  have HC := Lib.hid (fun w' (u : Up w w') => r_Check_any (Hi := Hi) (I.up u) (IO.up u) (IP.up u))
  clear I IO IP hq
  go_enter Try.func23, Try.ntmps23
  obtain ⟨q0, e0⟩ : ∃ x, w.heap.size = x := ⟨_, rfl⟩
  have U := ((Up.refl w).alloc (.cells #[.int .i64 Hi, .slice aR nR cR, .slice aO nO cO, .slice aP nP cP] 26)).alloc (.cells #[.int .i64 0, .int .i64 0] 34)
  have kC := blk_keep (.cells #[.int .i64 0, .int .i64 0] 34) (blk_new w (.cells #[.int .i64 Hi, .slice aR nR cR, .slice aO nO cO, .slice aP nP cP] 26) q0 e0.symm)
  have kZ := blk_new (w.alloc (.cells #[.int .i64 Hi, .slice aR nR cR, .slice aO nO cO, .slice aP nP cP] 26)) (.cells #[.int .i64 0, .int .i64 0] 34) (q0 + 1) (by simp [e0])
  go_wp2_with fail
  refine (HC.out _ U).mono ?_
  rintro e x1 ⟨rfl, u2⟩
  replace U := U.trans u2
  replace kC := u2.blk kC
  replace kZ := u2.blk kZ
  clear u2 HC
  have hd : ((if T.valid Hi rs os ps = false then (20 : Int) else 0) = 20) ∨ ((if T.valid Hi rs os ps = false then (20 : Int) else 0) = 0 ∧ 0 ≤ i) := by
    cases hv : T.valid Hi rs os ps with
    | false => exact .inl (if_pos rfl)
    | true => exact .inr ⟨if_neg (by decide), hx hv⟩
  generalize (if T.valid Hi rs os ps = false then (20 : Int) else 0) = ec at *
  clear hx
  rcases hd with rfl | ⟨rfl, hc0⟩
  · skip
    go_wp2_with fail
    refine (HA.out _ U).mono ?_
    rintro e x11 ⟨rfl, u12⟩
    replace U := U.trans u12
    replace kC := u12.blk kC
    replace kZ := u12.blk kZ
    clear u12 
    have zz := frozB kZ
    have KZ := Lib.hid (show mblk ((x11.setCell ⟨q0 + 1, 0, none⟩ (.int .i64 l)).setCell ⟨q0 + 1, 1, none⟩ (.int .i64 h)) (q0 + 1) = some (.cells #[.int .i64 l, .int .i64 h] 34 (0, 0)) from blk_put (blk_put kZ 0 _) 1 _)
    have UZ := Lib.hid ((U.set (p := ⟨q0 + 1, 0, none⟩) (show w.heap.size ≤ q0 + 1 by omega) (.int .i64 l)).set (p := ⟨q0 + 1, 1, none⟩) (show w.heap.size ≤ q0 + 1 by omega) (.int .i64 h))
    go_wp2_with fail
    have cc := cellB KZ.out
    exact bodyPost_ret (v := .tuple #[SpV l h, .int .i64 e]) (by simp [results, Try.results23, go_sem, cc]) rfl ⟨rfl, UZ.out⟩
  · skip
    have d0 : decide (i < 0) = false := decide_eq_false (by omega)
    have f0 : ¬ i < 0 := by omega
    go_wp2_with fail
    refine (HA.out _ U).mono ?_
    rintro e x21 ⟨rfl, u22⟩
    replace U := U.trans u22
    replace kC := u22.blk kC
    replace kZ := u22.blk kZ
    clear u22 
    have zz := frozB kZ
    have KZ := Lib.hid (show mblk ((x21.setCell ⟨q0 + 1, 0, none⟩ (.int .i64 l)).setCell ⟨q0 + 1, 1, none⟩ (.int .i64 h)) (q0 + 1) = some (.cells #[.int .i64 l, .int .i64 h] 34 (0, 0)) from blk_put (blk_put kZ 0 _) 1 _)
    have UZ := Lib.hid ((U.set (p := ⟨q0 + 1, 0, none⟩) (show w.heap.size ≤ q0 + 1 by omega) (.int .i64 l)).set (p := ⟨q0 + 1, 1, none⟩) (show w.heap.size ≤ q0 + 1 by omega) (.int .i64 h))
    go_wp2_with fail
    have cc := cellB KZ.out
    exact bodyPost_ret (v := .tuple #[SpV l h, .int .i64 e]) (by simp [results, Try.results23, go_sem, cc]) rfl ⟨rfl, UZ.out⟩
set_option maxRecDepth 100000 in
set_option maxHeartbeats 1000000 in
theorem r_Apart_low {w : World} {k i t : Int} (I : Sps w (.slice aR nR cR) rs) (IO : Ops w (.slice aO nO cO) os) (IP : Prs w (.slice aP nP cP) ps) (hv : T.valid Hi rs os ps = true) (hx : i < 0) :
    Calls Try.prog 23 #[ClV Hi (.slice aR nR cR) (.slice aO nO cO) (.slice aP nP cP), .int .i64 k, .int .i64 i, .int .i64 t] w fun e' w' => e' = .returned (.tuple #[SpV 0 0, .int .i64 21]) ∧ Up w w' := by
  have HC := Lib.hid (fun w' (u : Up w w') => show Calls Try.prog 18 #[ClV Hi (.slice aR nR cR) (.slice aO nO cO) (.slice aP nP cP)] w' fun e w'' => e = .returned (.int .i64 0) ∧ Up w' w'' by have := r_Check_any (Hi := Hi) (I.up u) (IO.up u) (IP.up u); rwa [if_neg (by rw [hv]; decide)] at this)
  have d0 : decide (i < 0) = true := decide_eq_true hx
  clear I IO IP hv
  go_enter Try.func23, Try.ntmps23
  obtain ⟨q0, e0⟩ : ∃ x, w.heap.size = x := ⟨_, rfl⟩
  have U := ((Up.refl w).alloc (.cells #[.int .i64 Hi, .slice aR nR cR, .slice aO nO cO, .slice aP nP cP] 26)).alloc (.cells #[.int .i64 0, .int .i64 0] 34)
  have kC := blk_keep (.cells #[.int .i64 0, .int .i64 0] 34) (blk_new w (.cells #[.int .i64 Hi, .slice aR nR cR, .slice aO nO cO, .slice aP nP cP] 26) q0 e0.symm)
  have kZ := blk_new (w.alloc (.cells #[.int .i64 Hi, .slice aR nR cR, .slice aO nO cO, .slice aP nP cP] 26)) (.cells #[.int .i64 0, .int .i64 0] 34) (q0 + 1) (by simp [e0])
  go_wp2_with fail
  refine (HC.out _ U).mono ?_
  rintro e x1 ⟨rfl, u⟩
  replace U := U.trans u
  replace kZ := u.blk kZ
  clear u HC kC
  have zz := frozB kZ
  have KZ := Lib.hid (show mblk ((x1.setCell ⟨q0 + 1, 0, none⟩ (.int .i64 0)).setCell ⟨q0 + 1, 1, none⟩ (.int .i64 0)) (q0 + 1) = some (.cells #[.int .i64 0, .int .i64 0] 34 (0, 0)) from blk_put (blk_put kZ 0 _) 1 _)
  have UZ := Lib.hid ((U.set (p := ⟨q0 + 1, 0, none⟩) (show w.heap.size ≤ q0 + 1 by omega) (.int .i64 0)).set (p := ⟨q0 + 1, 1, none⟩) (show w.heap.size ≤ q0 + 1 by omega) (.int .i64 0))
  go_wp2_with fail
  have cc := cellB KZ.out
  exact bodyPost_ret (v := .tuple #[SpV 0 0, .int .i64 21]) (by simp [results, Try.results23, go_sem, cc]) rfl ⟨rfl, UZ.out⟩
set_option maxRecDepth 100000 in
set_option maxHeartbeats 1000000 in
theorem r_Drift_any {w : World} {k f u l h e : Int} (I : Sps w (.slice aR nR cR) rs) (IO : Ops w (.slice aO nO cO) os) (IP : Prs w (.slice aP nP cP) ps)
    (hq : (T.refErr Hi rs os ps k u k f ≠ 0 ∧ e = T.refErr Hi rs os ps k u k f ∧ l = 0 ∧ h = 0) ∨ (T.refErr Hi rs os ps k u k f = 0 ∧ ∃ H : Nat, Hi = H ∧ T.Tells H rs os ps (k, u) (T.mmt k f) l h e)) (hx : T.valid Hi rs os ps = true → 0 ≤ k) :
    Calls Try.prog 25 #[ClV Hi (.slice aR nR cR) (.slice aO nO cO) (.slice aP nP cP), .int .i64 k, .int .i64 f, .int .i64 u] w fun e' w' => e' = .returned (.tuple #[SpV l h, .int .i64 e]) ∧ Up w w' := by
  have HA := Lib.hid (fun w' (u : Up w w') => r_asked_any (I.up u) (IO.up u) (IP.up u) hq)
  have HC := Lib.hid (fun w' (u : Up w w') => r_Check_any (Hi := Hi) (I.up u) (IO.up u) (IP.up u))
  clear I IO IP hq
  go_enter Try.func25, Try.ntmps25
  obtain ⟨q0, e0⟩ : ∃ x, w.heap.size = x := ⟨_, rfl⟩
  have U := ((Up.refl w).alloc (.cells #[.int .i64 Hi, .slice aR nR cR, .slice aO nO cO, .slice aP nP cP] 26)).alloc (.cells #[.int .i64 0, .int .i64 0] 34)
  have kC := blk_keep (.cells #[.int .i64 0, .int .i64 0] 34) (blk_new w (.cells #[.int .i64 Hi, .slice aR nR cR, .slice aO nO cO, .slice aP nP cP] 26) q0 e0.symm)
  have kZ := blk_new (w.alloc (.cells #[.int .i64 Hi, .slice aR nR cR, .slice aO nO cO, .slice aP nP cP] 26)) (.cells #[.int .i64 0, .int .i64 0] 34) (q0 + 1) (by simp [e0])
  go_wp2_with fail
  refine (HC.out _ U).mono ?_
  rintro e x1 ⟨rfl, u2⟩
  replace U := U.trans u2
  replace kC := u2.blk kC
  replace kZ := u2.blk kZ
  clear u2 HC
  have hd : ((if T.valid Hi rs os ps = false then (20 : Int) else 0) = 20) ∨ ((if T.valid Hi rs os ps = false then (20 : Int) else 0) = 0 ∧ 0 ≤ k) := by
    cases hv : T.valid Hi rs os ps with
    | false => exact .inl (if_pos rfl)
    | true => exact .inr ⟨if_neg (by decide), hx hv⟩
  generalize (if T.valid Hi rs os ps = false then (20 : Int) else 0) = ec at *
  clear hx
  rcases hd with rfl | ⟨rfl, hc0⟩
  · skip
    go_wp2_with fail
    refine (HA.out _ U).mono ?_
    rintro e x11 ⟨rfl, u12⟩
    replace U := U.trans u12
    replace kC := u12.blk kC
    replace kZ := u12.blk kZ
    clear u12 
    have zz := frozB kZ
    have KZ := Lib.hid (show mblk ((x11.setCell ⟨q0 + 1, 0, none⟩ (.int .i64 l)).setCell ⟨q0 + 1, 1, none⟩ (.int .i64 h)) (q0 + 1) = some (.cells #[.int .i64 l, .int .i64 h] 34 (0, 0)) from blk_put (blk_put kZ 0 _) 1 _)
    have UZ := Lib.hid ((U.set (p := ⟨q0 + 1, 0, none⟩) (show w.heap.size ≤ q0 + 1 by omega) (.int .i64 l)).set (p := ⟨q0 + 1, 1, none⟩) (show w.heap.size ≤ q0 + 1 by omega) (.int .i64 h))
    go_wp2_with fail
    have cc := cellB KZ.out
    exact bodyPost_ret (v := .tuple #[SpV l h, .int .i64 e]) (by simp [results, Try.results25, go_sem, cc]) rfl ⟨rfl, UZ.out⟩
  · skip
    have d0 : decide (k < 0) = false := decide_eq_false (by omega)
    have f0 : ¬ k < 0 := by omega
    go_wp2_with fail
    refine (HA.out _ U).mono ?_
    rintro e x21 ⟨rfl, u22⟩
    replace U := U.trans u22
    replace kC := u22.blk kC
    replace kZ := u22.blk kZ
    clear u22 
    have zz := frozB kZ
    have KZ := Lib.hid (show mblk ((x21.setCell ⟨q0 + 1, 0, none⟩ (.int .i64 l)).setCell ⟨q0 + 1, 1, none⟩ (.int .i64 h)) (q0 + 1) = some (.cells #[.int .i64 l, .int .i64 h] 34 (0, 0)) from blk_put (blk_put kZ 0 _) 1 _)
    have UZ := Lib.hid ((U.set (p := ⟨q0 + 1, 0, none⟩) (show w.heap.size ≤ q0 + 1 by omega) (.int .i64 l)).set (p := ⟨q0 + 1, 1, none⟩) (show w.heap.size ≤ q0 + 1 by omega) (.int .i64 h))
    go_wp2_with fail
    have cc := cellB KZ.out
    exact bodyPost_ret (v := .tuple #[SpV l h, .int .i64 e]) (by simp [results, Try.results25, go_sem, cc]) rfl ⟨rfl, UZ.out⟩
set_option maxRecDepth 100000 in
set_option maxHeartbeats 1000000 in
theorem r_Drift_low {w : World} {k f u : Int} (I : Sps w (.slice aR nR cR) rs) (IO : Ops w (.slice aO nO cO) os) (IP : Prs w (.slice aP nP cP) ps) (hv : T.valid Hi rs os ps = true) (hx : k < 0) :
    Calls Try.prog 25 #[ClV Hi (.slice aR nR cR) (.slice aO nO cO) (.slice aP nP cP), .int .i64 k, .int .i64 f, .int .i64 u] w fun e' w' => e' = .returned (.tuple #[SpV 0 0, .int .i64 21]) ∧ Up w w' := by
  have HC := Lib.hid (fun w' (u : Up w w') => show Calls Try.prog 18 #[ClV Hi (.slice aR nR cR) (.slice aO nO cO) (.slice aP nP cP)] w' fun e w'' => e = .returned (.int .i64 0) ∧ Up w' w'' by have := r_Check_any (Hi := Hi) (I.up u) (IO.up u) (IP.up u); rwa [if_neg (by rw [hv]; decide)] at this)
  have d0 : decide (k < 0) = true := decide_eq_true hx
  clear I IO IP hv
  go_enter Try.func25, Try.ntmps25
  obtain ⟨q0, e0⟩ : ∃ x, w.heap.size = x := ⟨_, rfl⟩
  have U := ((Up.refl w).alloc (.cells #[.int .i64 Hi, .slice aR nR cR, .slice aO nO cO, .slice aP nP cP] 26)).alloc (.cells #[.int .i64 0, .int .i64 0] 34)
  have kC := blk_keep (.cells #[.int .i64 0, .int .i64 0] 34) (blk_new w (.cells #[.int .i64 Hi, .slice aR nR cR, .slice aO nO cO, .slice aP nP cP] 26) q0 e0.symm)
  have kZ := blk_new (w.alloc (.cells #[.int .i64 Hi, .slice aR nR cR, .slice aO nO cO, .slice aP nP cP] 26)) (.cells #[.int .i64 0, .int .i64 0] 34) (q0 + 1) (by simp [e0])
  go_wp2_with fail
  refine (HC.out _ U).mono ?_
  rintro e x1 ⟨rfl, u⟩
  replace U := U.trans u
  replace kZ := u.blk kZ
  clear u HC kC
  have zz := frozB kZ
  have KZ := Lib.hid (show mblk ((x1.setCell ⟨q0 + 1, 0, none⟩ (.int .i64 0)).setCell ⟨q0 + 1, 1, none⟩ (.int .i64 0)) (q0 + 1) = some (.cells #[.int .i64 0, .int .i64 0] 34 (0, 0)) from blk_put (blk_put kZ 0 _) 1 _)
  have UZ := Lib.hid ((U.set (p := ⟨q0 + 1, 0, none⟩) (show w.heap.size ≤ q0 + 1 by omega) (.int .i64 0)).set (p := ⟨q0 + 1, 1, none⟩) (show w.heap.size ≤ q0 + 1 by omega) (.int .i64 0))
  go_wp2_with fail
  have cc := cellB KZ.out
  exact bodyPost_ret (v := .tuple #[SpV 0 0, .int .i64 21]) (by simp [results, Try.results25, go_sem, cc]) rfl ⟨rfl, UZ.out⟩
end

end Go.Proofs.Ytonklhfpjooheaa
