import Derived.Test.YtcmdaiklkdeanaaExp
/- The contracts of Check, Best, IsTruth. -/
namespace Go.Proofs.Ytcmdaiklkdeanaa
open Go.RowKit Go.Shelf
attribute [local go_sem] Oper.semAt_some

section
variable {H : Nat} {aR aO aP aT aV : Option Addr} {nR cR nO cO nP cP nT cT nV cV : Nat} {rs : List (Int × Int)} {os : List (Int × Int × Int × Int)} {ps : List (Int × Int × Int × Int × Int)}
set_option maxRecDepth 100000 in
set_option maxHeartbeats 2000000 in
theorem Check_any {w : World} {Hi : Int} (I : Sps w (.slice aR nR cR) rs) (IO : Ops w (.slice aO nO cO) os) (IP : Prs w (.slice aP nP cP) ps) :
    Calls Try.prog 17 #[ClV Hi (.slice aR nR cR) (.slice aO nO cO) (.slice aP nP cP)] w fun e w' => e = .returned (.int .i64 (if T.valid Hi rs os ps = false then 20 else 0)) ∧ Up w w' := by
  cases hv : T.valid Hi rs os ps with
  | false =>
    have HN := Lib.hid (fun w' (u : Up w w') => newCellar_no (I.up u) (IO.up u) (IP.up u) hv)
    clear I IO IP hv
    go_enter Try.func17, Try.ntmps17
    go_wp2_with fail
    refine (HN.out _ ((Up.refl w).alloc _)).mono ?_
    rintro e W1 ⟨rfl, u1⟩
    have UW := (((Up.refl w).alloc (.cells #[.int .i64 Hi, .slice aR nR cR, .slice aO nO cO, .slice aP nP cP] 26)).trans u1).alloc (.cells (CeC 0 (.slice none 0 0) (.slice none 0 0) (.slice none 0 0) false false false false false) 79)
    clear HN u1
    go_wp2
    go_ret
    exact ⟨rfl, UW⟩
  | true =>
    have HN := Lib.hid (fun w' (u : Up w w') => newCellar_yes (I.up u) (IO.up u) (IP.up u) hv)
    clear I IO IP hv
    go_enter Try.func17, Try.ntmps17
    go_wp2_with fail
    refine (HN.out _ ((Up.refl w).alloc _)).mono ?_
    rintro e W1 ⟨rfl, u1⟩
    have UW := (((Up.refl w).alloc (.cells #[.int .i64 Hi, .slice aR nR cR, .slice aO nO cO, .slice aP nP cP] 26)).trans u1).alloc (.cells (CeC Hi (.slice aR nR cR) (.slice aO nO cO) (.slice aP nP cP) false false false false false) 79)
    clear HN u1
    go_wp2
    go_ret
    exact ⟨rfl, UW⟩
set_option maxRecDepth 100000 in
set_option maxHeartbeats 2000000 in
theorem Best_bad {w : World} {Hi h : Int} (I : Sps w (.slice aR nR cR) rs) (IO : Ops w (.slice aO nO cO) os) (IP : Prs w (.slice aP nP cP) ps) {eq : Int} (hq : T.askErr Hi rs os ps [] [h] = eq) (h0 : eq ≠ 0) :
    Calls Try.prog 30 #[ClV Hi (.slice aR nR cR) (.slice aO nO cO) (.slice aP nP cP), .int .i64 h] w fun e w' => e = .returned (.tuple #[.int .i64 0, .int .i64 0, .int .i64 eq]) ∧ Up w w' := by
  have HN := Lib.hid (fun w' (u : Up w w') (ah : Option Addr) (nh ch : Nat) (IH : Ints w' (.slice ah nh ch) [h]) => newQuestion_bad (I.up u) (IO.up u) (IP.up u) (Ints.nil w') IH hq h0)
  have hb : (eq != 0) = true := by rw [bne_iff_ne]; exact h0
  clear I IO IP hq
  go_enter Try.func30, Try.ntmps30
  go_wp2_with fail
  obtain ⟨W0, hW0⟩ : ∃ x, (w.alloc (.cells #[.int .i64 Hi, .slice aR nR cR, .slice aO nO cO, .slice aP nP cP] 26)).alloc (.cells #[.int .i64 h] 3) = x := ⟨_, rfl⟩
  obtain ⟨q0, e0⟩ : ∃ x, w.heap.size = x := ⟨_, rfl⟩
  obtain ⟨q1, e1⟩ : ∃ x, q0 + 1 = x := ⟨_, rfl⟩
  have U0 : Up w W0 := by rw [← hW0]; exact ((Up.refl w).alloc _).alloc _
  have kH : mblk W0 q1 = some (.cells #[.int .i64 h] 3 (0, 0)) := by rw [← hW0]; exact blk_new _ _ _ (by simp; omega)
  rw [hW0, e0, e1]
  clear hW0
  refine (HN.out W0 U0 _ _ _ (ints1 kH)).mono ?_
  rintro e W1 ⟨rfl, u1⟩
  have UW := U0.trans u1
  clear HN U0 kH u1
  have UZ := UW.alloc (.cells (WeC 0 (.slice none 0 0) (.slice none 0 0) (.slice none 0 0) false false false false false (.slice none 0 0)) 82)
  go_wp2
  go_ret3
  exact ⟨rfl, UZ⟩
set_option maxRecDepth 100000 in
set_option maxHeartbeats 2000000 in
theorem Best_ok {w : World} {h : Int} (I : Sps w (.slice aR nR cR) rs) (IO : Ops w (.slice aO nO cO) os) (IP : Prs w (.slice aP nP cP) ps) (W : T.WebOk nR H (T.web nR H rs os ps false false false false false)) (hq : T.askErr H rs os ps [] [h] = 0) {Lo Hi : Nat → Int} (q : ∀ k : Nat, k < nR → T.Told (T.web nR H rs os ps false false false false false) ((k : Int), h) (-1, 0) (Lo k) (Hi k)) :
    Calls Try.prog 30 #[ClV H (.slice aR nR cR) (.slice aO nO cO) (.slice aP nP cP), .int .i64 h] w fun e w' => e = .returned (.tuple #[.int .i64 (T.bst (fun k => Hi k - Lo k) nR).1, .int .i64 (T.bst (fun k => Hi k - Lo k) nR).2, .int .i64 0]) ∧ Up w w' := by
  have hn := I.len
  obtain ⟨hv, hc, hh⟩ := T.askErr_ok hq
  have G := T.valid_good.1 hv
  have g2 := G.h2
  have g1 := G.r1
  have g5 : nR ≤ 5 := by rw [hn]; exact G.r2
  have HN := Lib.hid (fun w' (u : Up w w') (ah : Option Addr) (nh ch : Nat) (IH : Ints w' (.slice ah nh ch) [h]) => newQuestion_yes (I.up u) (IO.up u) (IP.up u) (Ints.nil w') IH hv (by simp) hh)
  simp only [List.all_cons, List.all_nil, Bool.and_true, T.hrP, inB_iff] at hh
  have HA := Lib.hid (fun aT nT cT w' (IT : Tis w' (.slice aT nT cT) _) => best_yes (b0 := false) (b1 := false) (b2 := false) (b3 := false) (b4 := false) (aR := aR) (aO := aO) (aP := aP) (nO := nO) (nP := nP) (cR := cR) (cO := cO) (cP := cP) (h := h) g2 g5 IT W ⟨by omega, by omega⟩ q)
  clear I IO IP W hq q hv hc hh G hn g1
  go_enter Try.func30, Try.ntmps30
  go_wp2_with fail
  obtain ⟨W0, hW0⟩ : ∃ x, (w.alloc (.cells #[.int .i64 H, .slice aR nR cR, .slice aO nO cO, .slice aP nP cP] 26)).alloc (.cells #[.int .i64 h] 3) = x := ⟨_, rfl⟩
  obtain ⟨q0, e0⟩ : ∃ x, w.heap.size = x := ⟨_, rfl⟩
  obtain ⟨q1, e1⟩ : ∃ x, q0 + 1 = x := ⟨_, rfl⟩
  have U0 : Up w W0 := by rw [← hW0]; exact ((Up.refl w).alloc _).alloc _
  have kH : mblk W0 q1 = some (.cells #[.int .i64 h] 3 (0, 0)) := by rw [← hW0]; exact blk_new _ _ _ (by simp; omega)
  rw [hW0, e0, e1]
  clear hW0
  refine (HN.out W0 U0 _ _ _ (ints1 kH)).mono ?_
  rintro e W1 ⟨⟨aT, nT, cT, rfl, hT⟩, u1⟩
  have UW := U0.trans u1
  clear HN U0 kH u1
  go_wp2_with fail
  obtain ⟨W2, hW2⟩ : ∃ z, W1.alloc (.cells (WeC H (.slice aR nR cR) (.slice aO nO cO) (.slice aP nP cP) false false false false false (.slice aT nT cT)) 82) = z := ⟨_, rfl⟩
  have u2 : Up W1 W2 := by rw [← hW2]; exact (Up.refl W1).alloc _
  replace UW := UW.trans u2
  replace hT := hT.up u2
  rw [hW2]
  clear hW2 u2
  refine (HA.out _ _ _ W2 hT).mono ?_
  rintro e Y ⟨rfl, u3⟩
  have UY := UW.trans u3
  clear HA hT
  go_wp2
  go_ret3
  exact ⟨rfl, UY⟩
set_option maxRecDepth 100000 in
set_option maxHeartbeats 2000000 in
theorem Best_false {w : World} {h : Int} (I : Sps w (.slice aR nR cR) rs) (IO : Ops w (.slice aO nO cO) os) (IP : Prs w (.slice aP nP cP) ps) (W : T.WebOk nR H (T.web nR H rs os ps false false false false false)) (hq : T.askErr H rs os ps [] [h] = 0) (q : ∀ y, ¬ T.Sat T.sHi (T.web nR H rs os ps false false false false false) y) :
    Calls Try.prog 30 #[ClV H (.slice aR nR cR) (.slice aO nO cO) (.slice aP nP cP), .int .i64 h] w fun e w' => e = .returned (.tuple #[.int .i64 0, .int .i64 0, .int .i64 22]) ∧ Up w w' := by
  have hn := I.len
  obtain ⟨hv, hc, hh⟩ := T.askErr_ok hq
  have G := T.valid_good.1 hv
  have g2 := G.h2
  have g1 := G.r1
  have g5 : nR ≤ 5 := by rw [hn]; exact G.r2
  have HN := Lib.hid (fun w' (u : Up w w') (ah : Option Addr) (nh ch : Nat) (IH : Ints w' (.slice ah nh ch) [h]) => newQuestion_yes (I.up u) (IO.up u) (IP.up u) (Ints.nil w') IH hv (by simp) hh)
  simp only [List.all_cons, List.all_nil, Bool.and_true, T.hrP, inB_iff] at hh
  have HA := Lib.hid (fun aT nT cT w' (IT : Tis w' (.slice aT nT cT) _) => best_no (b0 := false) (b1 := false) (b2 := false) (b3 := false) (b4 := false) (aR := aR) (aO := aO) (aP := aP) (nO := nO) (nP := nP) (cR := cR) (cO := cO) (cP := cP) (h := h) g2 g5 (by omega) IT W ⟨by omega, by omega⟩ q)
  clear I IO IP W hq q hv hc hh G hn g1
  go_enter Try.func30, Try.ntmps30
  go_wp2_with fail
  obtain ⟨W0, hW0⟩ : ∃ x, (w.alloc (.cells #[.int .i64 H, .slice aR nR cR, .slice aO nO cO, .slice aP nP cP] 26)).alloc (.cells #[.int .i64 h] 3) = x := ⟨_, rfl⟩
  obtain ⟨q0, e0⟩ : ∃ x, w.heap.size = x := ⟨_, rfl⟩
  obtain ⟨q1, e1⟩ : ∃ x, q0 + 1 = x := ⟨_, rfl⟩
  have U0 : Up w W0 := by rw [← hW0]; exact ((Up.refl w).alloc _).alloc _
  have kH : mblk W0 q1 = some (.cells #[.int .i64 h] 3 (0, 0)) := by rw [← hW0]; exact blk_new _ _ _ (by simp; omega)
  rw [hW0, e0, e1]
  clear hW0
  refine (HN.out W0 U0 _ _ _ (ints1 kH)).mono ?_
  rintro e W1 ⟨⟨aT, nT, cT, rfl, hT⟩, u1⟩
  have UW := U0.trans u1
  clear HN U0 kH u1
  go_wp2_with fail
  obtain ⟨W2, hW2⟩ : ∃ z, W1.alloc (.cells (WeC H (.slice aR nR cR) (.slice aO nO cO) (.slice aP nP cP) false false false false false (.slice aT nT cT)) 82) = z := ⟨_, rfl⟩
  have u2 : Up W1 W2 := by rw [← hW2]; exact (Up.refl W1).alloc _
  replace UW := UW.trans u2
  replace hT := hT.up u2
  rw [hW2]
  clear hW2 u2
  refine (HA.out _ _ _ W2 hT).mono ?_
  rintro e Y ⟨rfl, u3⟩
  have UY := UW.trans u3
  clear HA hT
  go_wp2
  go_ret3
  exact ⟨rfl, UY⟩
set_option maxRecDepth 100000 in
set_option maxHeartbeats 2000000 in
theorem IsTruth_bad {w : World} {Hi : Int} {v : Value} (I : Sps w (.slice aR nR cR) rs) (IO : Ops w (.slice aO nO cO) os) (IP : Prs w (.slice aP nP cP) ps) (h : T.valid Hi rs os ps = false) :
    Calls Try.prog 15 #[ClV Hi (.slice aR nR cR) (.slice aO nO cO) (.slice aP nP cP), v] w fun e w' => e = .returned (.tuple #[.bool false, .int .i64 20]) ∧ Up w w' := by
  have HN := Lib.hid (fun w' (u : Up w w') => newQuestion_bad (eq := 20) (I.up u) (IO.up u) (IP.up u) (Ints.nil w') (Ints.nil w') (by unfold T.askErr; rw [if_pos h]) (by omega))
  clear I IO IP h
  go_enter Try.func15, Try.ntmps15
  go_wp2_with fail
  refine (HN.out _ ((Up.refl w).alloc _)).mono ?_
  rintro e W1 ⟨rfl, u1⟩
  have UW := ((Up.refl w).alloc (.cells #[.int .i64 Hi, .slice aR nR cR, .slice aO nO cO, .slice aP nP cP] 26)).trans u1
  clear HN u1
  have UZ := UW.alloc (.cells (WeC 0 (.slice none 0 0) (.slice none 0 0) (.slice none 0 0) false false false false false (.slice none 0 0)) 82)
  go_wp2
  go_ret2
  exact ⟨rfl, UZ⟩
set_option maxRecDepth 100000 in
set_option maxHeartbeats 2000000 in
theorem IsTruth_ok {w : World} {rows : List (List Int)} (I : Sps w (.slice aR nR cR) rs) (IO : Ops w (.slice aO nO cO) os) (IP : Prs w (.slice aP nP cP) ps) (IR : T.Rows w (.slice aV nV cV) rows) (W : T.WebOk nR H (T.web nR H rs os ps false false false false false)) (hv : T.valid H rs os ps = true) :
    Calls Try.prog 15 #[ClV H (.slice aR nR cR) (.slice aO nO cO) (.slice aP nP cP), .slice aV nV cV] w fun e w' => (∃ r, e = .returned (.tuple #[.bool r, .int .i64 0]) ∧ (r = true ↔ (rows.length = nR ∧ ∀ x ∈ rows, x.length = H + 1) ∧ (T.web nR H rs os ps false false false false false).all (T.keep (T.offs rows)) = true)) ∧ Up w w' := by
  have hn := I.len
  have G := T.valid_good.1 hv
  have g2 := G.h2
  have g5 : nR ≤ 5 := by rw [hn]; exact G.r2
  have HN := Lib.hid (fun w' (u : Up w w') => newQuestion_yes (I.up u) (IO.up u) (IP.up u) (Ints.nil w') (Ints.nil w') hv (by simp) (by simp))
  have HO := Lib.hid (fun aT nT cT w' (u : Up w w') => newOffsets_any (b0 := false) (b1 := false) (b2 := false) (b3 := false) (b4 := false) (aR := aR) (aO := aO) (aP := aP) (nO := nO) (nP := nP) (cR := cR) (cO := cO) (cP := cP) (aT := aT) (nT := nT) (cT := cT) g2 g5 (IR.up u))
  have HA := Lib.hid (fun aT nT cT w' cs (IT : Tis w' (.slice aT nT cT) _) (hO : T.OC cs (T.offs rows)) => areTruth_any (b0 := false) (b1 := false) (b2 := false) (b3 := false) (b4 := false) (aR := aR) (aO := aO) (aP := aP) (nO := nO) (nP := nP) (cR := cR) (cO := cO) (cP := cP) (H := H) (nR := nR) IT W.tok W.len hO)
  clear I IO IP IR W hv G hn
  go_enter Try.func15, Try.ntmps15
  go_wp2_with fail
  refine (HN.out _ ((Up.refl w).alloc _)).mono ?_
  rintro e W1 ⟨⟨aT, nT, cT, rfl, hT⟩, u1⟩
  have UW := ((Up.refl w).alloc (.cells #[.int .i64 H, .slice aR nR cR, .slice aO nO cO, .slice aP nP cP] 26)).trans u1
  clear HN u1
  go_wp2_with fail
  obtain ⟨W2, hW2⟩ : ∃ z, W1.alloc (.cells (WeC H (.slice aR nR cR) (.slice aO nO cO) (.slice aP nP cP) false false false false false (.slice aT nT cT)) 82) = z := ⟨_, rfl⟩
  obtain ⟨q8, e8⟩ : ∃ z, W1.heap.size = z := ⟨_, rfl⟩
  have u2 : Up W1 W2 := by rw [← hW2]; exact (Up.refl W1).alloc _
  have kW : mblk W2 q8 = some (.cells (WeC H (.slice aR nR cR) (.slice aO nO cO) (.slice aP nP cP) false false false false false (.slice aT nT cT)) 82 (0, 0)) := by rw [← hW2]; exact blk_new _ _ _ e8.symm
  replace UW := UW.trans u2
  replace hT := hT.up u2
  rw [hW2, e8]
  clear hW2 u2
  refine (HO.out _ _ _ W2 UW).mono ?_
  rintro e W3 ⟨⟨cs, r, rfl, hok, hr, hO⟩, u3⟩
  replace kW := u3.blk kW
  replace UW := UW.trans u3
  replace hT := hT.up u3
  have hoz := Lib.hid OZ_size
  have hs := Lib.hid hok.1
  have lW := blk_lt kW
  clear HO u3
  cases r with
  | false =>
    have UZ := UW.alloc (.cells cs 87)
    have HR := Lib.hid hr
    clear HA hT kW hr hO
    go_wp2
    go_ret2
    exact ⟨⟨false, rfl, ⟨fun e => (by cases e), fun e => (by have := HR.out.2 e.1; cases this)⟩⟩, UZ⟩
  | true =>
    have ho := hO rfl
    have HRR := Lib.hid (hr.1 rfl)
    clear hO hr
    go_wp2_with fail
    obtain ⟨W4, hW4⟩ : ∃ z, W3.alloc (.cells cs 87) = z := ⟨_, rfl⟩
    have u4 : Up W3 W4 := by rw [← hW4]; exact (Up.refl W3).alloc _
    replace UW := UW.trans u4
    replace hT := hT.up u4
    rw [hW4]
    clear hW4 u4 kW
    refine (HA.out _ _ _ W4 cs hT ho).mono ?_
    rintro e Y ⟨rfl, u5⟩
    have UY := UW.trans u5
    clear HA hT
    go_wp2
    go_ret2
    exact ⟨⟨_, rfl, ⟨fun e => ⟨HRR.out, e⟩, fun e => e.2⟩⟩, UY⟩
end

end Go.Proofs.Ytcmdaiklkdeanaa
