import Derived.Test.YtcmdaiklkdeanaaNof
import Derived.Test.YtcmdaiklkdeanaaQue
/- The contracts of Offset, Apart, Drift. -/
namespace Go.Proofs.Ytcmdaiklkdeanaa
open Go.RowKit Go.Shelf
attribute [local go_sem] Oper.semAt_some

/-- the error of a question, or 0 -/
def T.askErr (H : Int) (rs : List (Int × Int)) (os : List (Int × Int × Int × Int)) (ps : List (Int × Int × Int × Int × Int)) (cl hr : List Int) : Int :=
  if T.valid H rs os ps = false then 20 else if (cl.all (T.clkP rs.length) && hr.all (T.hrP H)) = false then 21 else 0
theorem T.askErr_ok {H : Int} {rs : List (Int × Int)} {os : List (Int × Int × Int × Int)} {ps : List (Int × Int × Int × Int × Int)} {cl hr : List Int} (h : T.askErr H rs os ps cl hr = 0) : T.valid H rs os ps = true ∧ cl.all (T.clkP rs.length) = true ∧ hr.all (T.hrP H) = true := by
  unfold T.askErr at h
  split at h
  · cases h
  · rename_i h1
    split at h
    · cases h
    · rename_i h2
      rw [Bool.not_eq_false] at h1 h2
      exact ⟨h1, Bool.and_eq_true_iff.1 h2⟩
theorem T.askErr_in {H : Int} {rs : List (Int × Int)} {os : List (Int × Int × Int × Int)} {ps : List (Int × Int × Int × Int × Int)} {cl hr : List Int} : T.askErr H rs os ps cl hr = 20 ∨ T.askErr H rs os ps cl hr = 21 ∨ T.askErr H rs os ps cl hr = 0 := by
  unfold T.askErr
  split
  · exact .inl rfl
  · split
    · exact .inr (.inl rfl)
    · exact .inr (.inr rfl)
theorem T.valid_nat {H : Int} {rs : List (Int × Int)} {os : List (Int × Int × Int × Int)} {ps : List (Int × Int × Int × Int × Int)} (h : T.valid H rs os ps = true) : ∃ n : Nat, H = n := by
  unfold T.valid at h
  rw [Bool.and_eq_true] at h
  have := T.hasClk_H h.1
  exact ⟨H.toNat, by omega⟩
theorem ints1 {w : World} {b : Nat} {x : Int} (h : mblk w b = some (.cells #[.int .i64 x] 3 (0, 0))) : Ints w (.slice (some ⟨b, 0, none⟩) 1 1) [x] := Ints.new (cap := 1) (xs := [x]) h (by simp) (by simp) (fun j hj => by
  match j, hj with
  | 0, _ => rfl)
theorem ints2 {w : World} {b : Nat} {x y : Int} (h : mblk w b = some (.cells #[.int .i64 x, .int .i64 y] 3 (0, 0))) : Ints w (.slice (some ⟨b, 0, none⟩) 2 2) [x, y] := Ints.new (cap := 2) (xs := [x, y]) h (by simp) (by simp) (fun j hj => by
  match j, hj with
  | 0, _ => rfl
  | 1, _ => rfl)
section
variable {H : Nat} {aR aO aP aT ac ah : Option Addr} {nR cR nO cO nP cP nT cT nc cc nh ch : Nat} {rs : List (Int × Int)} {os : List (Int × Int × Int × Int)} {ps : List (Int × Int × Int × Int × Int)} {cl hr : List Int}
theorem newQuestion_bad {w : World} {Hi : Int} (I : Sps w (.slice aR nR cR) rs) (IO : Ops w (.slice aO nO cO) os) (IP : Prs w (.slice aP nP cP) ps) (IC : Ints w (.slice ac nc cc) cl) (IH : Ints w (.slice ah nh ch) hr) {eq : Int} (hq : T.askErr Hi rs os ps cl hr = eq) (h0 : eq ≠ 0) :
    Calls Try.prog 44 #[ClV Hi (.slice aR nR cR) (.slice aO nO cO) (.slice aP nP cP), .slice ac nc cc, .slice ah nh ch] w fun e w' => e = .returned (.tuple #[WeZ, .int .i64 eq]) ∧ Up w w' := by
  unfold T.askErr at hq
  split at hq
  · rename_i h
    subst hq
    exact newQuestion_no I IO IP h
  · rename_i h
    rw [Bool.not_eq_false] at h
    split at hq
    · rename_i h2
      subst hq
      obtain ⟨n, rfl⟩ := T.valid_nat h
      have hn := I.len
      rw [← hn] at h2
      exact newQuestion_ask I IO IP IC IH h h2
    · exact absurd hq.symm h0
set_option maxRecDepth 100000 in
theorem Offset_bad {w : World} {Hi k h : Int} (I : Sps w (.slice aR nR cR) rs) (IO : Ops w (.slice aO nO cO) os) (IP : Prs w (.slice aP nP cP) ps) {eq : Int} (hq : T.askErr Hi rs os ps [k] [h] = eq) (h0 : eq ≠ 0) :
    Calls Try.prog 19 #[ClV Hi (.slice aR nR cR) (.slice aO nO cO) (.slice aP nP cP), .int .i64 k, .int .i64 h] w fun e w' => e = .returned (.tuple #[SpV 0 0, .int .i64 eq]) ∧ Up w w' := by
  have HN := Lib.hid (fun w' (u : Up w w') (ac : Option Addr) (nc cc : Nat) (ah : Option Addr) (nh ch : Nat) (IC : Ints w' (.slice ac nc cc) [k]) (IH : Ints w' (.slice ah nh ch) [h]) => newQuestion_bad (I.up u) (IO.up u) (IP.up u) IC IH hq h0)
  have hb : (eq != 0) = true := by rw [bne_iff_ne]; exact h0
  clear I IO IP hq
  go_enter Try.func19, Try.ntmps19
  go_wp2_with fail
  obtain ⟨W0, hW0⟩ : ∃ x, (((w.alloc (.cells #[.int .i64 Hi, .slice aR nR cR, .slice aO nO cO, .slice aP nP cP] 26)).alloc (.cells #[.int .i64 0, .int .i64 0] 34)).alloc (.cells #[.int .i64 k] 3)).alloc (.cells #[.int .i64 h] 3) = x := ⟨_, rfl⟩
  obtain ⟨q0, e0⟩ : ∃ x, w.heap.size = x := ⟨_, rfl⟩
  obtain ⟨q1, e1⟩ : ∃ x, q0 + 1 = x := ⟨_, rfl⟩
  obtain ⟨q2, e2⟩ : ∃ x, q1 + 1 = x := ⟨_, rfl⟩
  obtain ⟨q3, e3⟩ : ∃ x, q2 + 1 = x := ⟨_, rfl⟩
  have U0 : Up w W0 := by rw [← hW0]; exact ((((Up.refl w).alloc _).alloc _).alloc _).alloc _
  have kR : mblk W0 q1 = some (.cells #[.int .i64 0, .int .i64 0] 34 (0, 0)) := by rw [← hW0]; exact blk_keep _ (blk_keep _ (blk_new _ _ _ (by simp; omega)))
  have kC : mblk W0 q2 = some (.cells #[.int .i64 k] 3 (0, 0)) := by rw [← hW0]; exact blk_keep _ (blk_new _ _ _ (by simp; omega))
  have kH : mblk W0 q3 = some (.cells #[.int .i64 h] 3 (0, 0)) := by rw [← hW0]; exact blk_new _ _ _ (by simp; omega)
  rw [hW0, e0, e1, e2, e3]
  clear hW0
  refine (HN.out W0 U0 _ _ _ _ _ _ (ints1 kC) (ints1 kH)).mono ?_
  rintro e W1 ⟨rfl, u1⟩
  replace kR := u1.blk kR
  have lR := blk_lt kR
  have UW := U0.trans u1
  clear HN U0 kC kH u1
  have kR2 := blk_keep (.cells (WeC 0 (.slice none 0 0) (.slice none 0 0) (.slice none 0 0) false false false false false (.slice none 0 0)) 82) kR
  have fR := frozB kR
  have fR2 := frozB kR2
  have cR := cellB kR
  have cR2 := cellB kR2
  go_wp2_with fail
  obtain ⟨Z, hZ⟩ : ∃ z, ((W1.setCell ⟨q1, 0, none⟩ (.int .i64 0)).setCell ⟨q1, 1, none⟩ (.int .i64 0)).alloc (.cells (WeC 0 (.slice none 0 0) (.slice none 0 0) (.slice none 0 0) false false false false false (.slice none 0 0)) 82) = z := ⟨_, rfl⟩
  have UZ : Up w Z := by rw [← hZ]; exact ((UW.set (p := ⟨q1, 0, none⟩) (by show w.heap.size ≤ q1; omega) _).set (p := ⟨q1, 1, none⟩) (by show w.heap.size ≤ q1; omega) _).alloc _
  have cZ : ∀ j, Z.cell? ⟨q1, j, none⟩ = (#[Value.int .i64 0, .int .i64 0] : Array Value)[j]? := by rw [← hZ]; exact cellB (blk_keep _ (blk_put (blk_put kR 0 _) 1 _))
  rw [hZ]
  exact bodyPost_ret (v := .tuple #[SpV 0 0, .int .i64 eq]) (by simp [results, Try.results19, go_sem, cZ]) rfl ⟨rfl, UZ⟩
set_option maxRecDepth 100000 in
set_option maxHeartbeats 1000000 in
theorem Offset_ok {w : World} {k h : Int} (I : Sps w (.slice aR nR cR) rs) (IO : Ops w (.slice aO nO cO) os) (IP : Prs w (.slice aP nP cP) ps) (W : T.WebOk nR H (T.web nR H rs os ps false false false false false)) (hq : T.askErr H rs os ps [k] [h] = 0) {lo hi eE : Int} (q : T.Asked (T.web nR H rs os ps false false false false false) (k, h) (-1, 0) lo hi eE) :
    Calls Try.prog 19 #[ClV H (.slice aR nR cR) (.slice aO nO cO) (.slice aP nP cP), .int .i64 k, .int .i64 h] w fun e w' => e = .returned (.tuple #[SpV lo hi, .int .i64 eE]) ∧ Up w w' := by
  have hn := I.len
  obtain ⟨hv, hc, hh⟩ := T.askErr_ok hq
  have G := T.valid_good.1 hv
  have g2 := G.h2
  have g5 : nR ≤ 5 := by rw [hn]; exact G.r2
  rw [← hn] at hc
  have HN := Lib.hid (fun w' (u : Up w w') (ac : Option Addr) (nc cc : Nat) (ah : Option Addr) (nh ch : Nat) (IC : Ints w' (.slice ac nc cc) [k]) (IH : Ints w' (.slice ah nh ch) [h]) => newQuestion_yes (I.up u) (IO.up u) (IP.up u) IC IH hv hc hh)
  simp only [List.all_cons, List.all_nil, Bool.and_true, T.clkP, T.hrP, inB_iff] at hc hh
  have HA := Lib.hid (fun aT nT cT w' (IT : Tis w' (.slice aT nT cT) _) => offset_is (b0 := false) (b1 := false) (b2 := false) (b3 := false) (b4 := false) (aR := aR) (aO := aO) (aP := aP) (nO := nO) (nP := nP) (cR := cR) (cO := cO) (cP := cP) g2 g5 IT W (k := k) (h := h) ⟨by omega, by omega⟩ ⟨by omega, by omega⟩ q)
  clear I IO IP W hq q hv hc hh G hn
  go_enter Try.func19, Try.ntmps19
  go_wp2_with fail
  obtain ⟨W0, hW0⟩ : ∃ x, (((w.alloc (.cells #[.int .i64 H, .slice aR nR cR, .slice aO nO cO, .slice aP nP cP] 26)).alloc (.cells #[.int .i64 0, .int .i64 0] 34)).alloc (.cells #[.int .i64 k] 3)).alloc (.cells #[.int .i64 h] 3) = x := ⟨_, rfl⟩
  obtain ⟨q0, e0⟩ : ∃ x, w.heap.size = x := ⟨_, rfl⟩
  obtain ⟨q1, e1⟩ : ∃ x, q0 + 1 = x := ⟨_, rfl⟩
  obtain ⟨q2, e2⟩ : ∃ x, q1 + 1 = x := ⟨_, rfl⟩
  obtain ⟨q3, e3⟩ : ∃ x, q2 + 1 = x := ⟨_, rfl⟩
  have U0 : Up w W0 := by rw [← hW0]; exact ((((Up.refl w).alloc _).alloc _).alloc _).alloc _
  have kR : mblk W0 q1 = some (.cells #[.int .i64 0, .int .i64 0] 34 (0, 0)) := by rw [← hW0]; exact blk_keep _ (blk_keep _ (blk_new _ _ _ (by simp; omega)))
  have kC : mblk W0 q2 = some (.cells #[.int .i64 k] 3 (0, 0)) := by rw [← hW0]; exact blk_keep _ (blk_new _ _ _ (by simp; omega))
  have kH : mblk W0 q3 = some (.cells #[.int .i64 h] 3 (0, 0)) := by rw [← hW0]; exact blk_new _ _ _ (by simp; omega)
  rw [hW0, e0, e1, e2, e3]
  clear hW0
  refine (HN.out W0 U0 _ _ _ _ _ _ (ints1 kC) (ints1 kH)).mono ?_
  rintro e W1 ⟨⟨aT, nT, cT, rfl, hT⟩, u1⟩
  replace kR := u1.blk kR
  have lR := blk_lt kR
  have UW := U0.trans u1
  clear HN U0 kC kH u1
  have kR2 := blk_keep (.cells (WeC H (.slice aR nR cR) (.slice aO nO cO) (.slice aP nP cP) false false false false false (.slice aT nT cT)) 82) kR
  have lR2 := blk_lt kR2
  go_wp2_with fail
  obtain ⟨W2, hW2⟩ : ∃ z, W1.alloc (.cells (WeC H (.slice aR nR cR) (.slice aO nO cO) (.slice aP nP cP) false false false false false (.slice aT nT cT)) 82) = z := ⟨_, rfl⟩
  obtain ⟨q8, e8⟩ : ∃ z, W1.heap.size = z := ⟨_, rfl⟩
  have u2 : Up W1 W2 := by rw [← hW2]; exact (Up.refl W1).alloc _
  have kW : mblk W2 q8 = some (.cells (WeC H (.slice aR nR cR) (.slice aO nO cO) (.slice aP nP cP) false false false false false (.slice aT nT cT)) 82 (0, 0)) := by rw [← hW2]; exact blk_new _ _ _ e8.symm
  replace kR := u2.blk kR
  replace UW := UW.trans u2
  replace hT := hT.up u2
  rw [hW2, e8]
  clear hW2 u2 kR2 lR2
  refine (HA.out _ _ _ W2 hT).mono ?_
  rintro e Y ⟨rfl, u3⟩
  have kR2 := u3.blk kR
  have fR := frozB kR2
  have cR := cellB kR2
  have lY := blk_lt kR2
  have UY := UW.trans u3
  clear HA kW kR hT
  go_wp2_with fail
  obtain ⟨Z, hZ⟩ : ∃ z, (Y.setCell ⟨q1, 0, none⟩ (.int .i64 lo)).setCell ⟨q1, 1, none⟩ (.int .i64 hi) = z := ⟨_, rfl⟩
  have UZ : Up w Z := by rw [← hZ]; exact (UY.set (p := ⟨q1, 0, none⟩) (by show w.heap.size ≤ q1; omega) _).set (p := ⟨q1, 1, none⟩) (by show w.heap.size ≤ q1; omega) _
  have cZ : ∀ j, Z.cell? ⟨q1, j, none⟩ = (#[Value.int .i64 lo, .int .i64 hi] : Array Value)[j]? := by rw [← hZ]; exact cellB (blk_put (blk_put kR2 0 _) 1 _)
  rw [hZ]
  clear hZ fR cR kR2
  exact bodyPost_ret (v := .tuple #[SpV lo hi, .int .i64 eE]) (by simp [results, Try.results19, go_sem, cZ]) rfl ⟨rfl, UZ⟩
set_option maxRecDepth 100000 in
theorem Apart_bad {w : World} {Hi k i h : Int} (I : Sps w (.slice aR nR cR) rs) (IO : Ops w (.slice aO nO cO) os) (IP : Prs w (.slice aP nP cP) ps) {eq : Int} (hq : T.askErr Hi rs os ps [k, i] [h] = eq) (h0 : eq ≠ 0) :
    Calls Try.prog 22 #[ClV Hi (.slice aR nR cR) (.slice aO nO cO) (.slice aP nP cP), .int .i64 k, .int .i64 i, .int .i64 h] w fun e w' => e = .returned (.tuple #[SpV 0 0, .int .i64 eq]) ∧ Up w w' := by
  have HN := Lib.hid (fun w' (u : Up w w') (ac : Option Addr) (nc cc : Nat) (ah : Option Addr) (nh ch : Nat) (IC : Ints w' (.slice ac nc cc) [k, i]) (IH : Ints w' (.slice ah nh ch) [h]) => newQuestion_bad (I.up u) (IO.up u) (IP.up u) IC IH hq h0)
  have hb : (eq != 0) = true := by rw [bne_iff_ne]; exact h0
  clear I IO IP hq
  go_enter Try.func22, Try.ntmps22
  go_wp2_with fail
  obtain ⟨W0, hW0⟩ : ∃ x, (((w.alloc (.cells #[.int .i64 Hi, .slice aR nR cR, .slice aO nO cO, .slice aP nP cP] 26)).alloc (.cells #[.int .i64 0, .int .i64 0] 34)).alloc (.cells #[.int .i64 k, .int .i64 i] 3)).alloc (.cells #[.int .i64 h] 3) = x := ⟨_, rfl⟩
  obtain ⟨q0, e0⟩ : ∃ x, w.heap.size = x := ⟨_, rfl⟩
  obtain ⟨q1, e1⟩ : ∃ x, q0 + 1 = x := ⟨_, rfl⟩
  obtain ⟨q2, e2⟩ : ∃ x, q1 + 1 = x := ⟨_, rfl⟩
  obtain ⟨q3, e3⟩ : ∃ x, q2 + 1 = x := ⟨_, rfl⟩
  have U0 : Up w W0 := by rw [← hW0]; exact ((((Up.refl w).alloc _).alloc _).alloc _).alloc _
  have kR : mblk W0 q1 = some (.cells #[.int .i64 0, .int .i64 0] 34 (0, 0)) := by rw [← hW0]; exact blk_keep _ (blk_keep _ (blk_new _ _ _ (by simp; omega)))
  have kC : mblk W0 q2 = some (.cells #[.int .i64 k, .int .i64 i] 3 (0, 0)) := by rw [← hW0]; exact blk_keep _ (blk_new _ _ _ (by simp; omega))
  have kH : mblk W0 q3 = some (.cells #[.int .i64 h] 3 (0, 0)) := by rw [← hW0]; exact blk_new _ _ _ (by simp; omega)
  rw [hW0, e0, e1, e2, e3]
  clear hW0
  refine (HN.out W0 U0 _ _ _ _ _ _ (ints2 kC) (ints1 kH)).mono ?_
  rintro e W1 ⟨rfl, u1⟩
  replace kR := u1.blk kR
  have lR := blk_lt kR
  have UW := U0.trans u1
  clear HN U0 kC kH u1
  have kR2 := blk_keep (.cells (WeC 0 (.slice none 0 0) (.slice none 0 0) (.slice none 0 0) false false false false false (.slice none 0 0)) 82) kR
  have fR := frozB kR
  have fR2 := frozB kR2
  have cR := cellB kR
  have cR2 := cellB kR2
  go_wp2_with fail
  obtain ⟨Z, hZ⟩ : ∃ z, ((W1.setCell ⟨q1, 0, none⟩ (.int .i64 0)).setCell ⟨q1, 1, none⟩ (.int .i64 0)).alloc (.cells (WeC 0 (.slice none 0 0) (.slice none 0 0) (.slice none 0 0) false false false false false (.slice none 0 0)) 82) = z := ⟨_, rfl⟩
  have UZ : Up w Z := by rw [← hZ]; exact ((UW.set (p := ⟨q1, 0, none⟩) (by show w.heap.size ≤ q1; omega) _).set (p := ⟨q1, 1, none⟩) (by show w.heap.size ≤ q1; omega) _).alloc _
  have cZ : ∀ j, Z.cell? ⟨q1, j, none⟩ = (#[Value.int .i64 0, .int .i64 0] : Array Value)[j]? := by rw [← hZ]; exact cellB (blk_keep _ (blk_put (blk_put kR 0 _) 1 _))
  rw [hZ]
  exact bodyPost_ret (v := .tuple #[SpV 0 0, .int .i64 eq]) (by simp [results, Try.results22, go_sem, cZ]) rfl ⟨rfl, UZ⟩
set_option maxRecDepth 100000 in
set_option maxHeartbeats 1000000 in
theorem Apart_ok {w : World} {k i h : Int} (I : Sps w (.slice aR nR cR) rs) (IO : Ops w (.slice aO nO cO) os) (IP : Prs w (.slice aP nP cP) ps) (W : T.WebOk nR H (T.web nR H rs os ps false false false false false)) (hq : T.askErr H rs os ps [k, i] [h] = 0) {lo hi eE : Int} (q : T.Asked (T.web nR H rs os ps false false false false false) (k, h) (i, h) lo hi eE) :
    Calls Try.prog 22 #[ClV H (.slice aR nR cR) (.slice aO nO cO) (.slice aP nP cP), .int .i64 k, .int .i64 i, .int .i64 h] w fun e w' => e = .returned (.tuple #[SpV lo hi, .int .i64 eE]) ∧ Up w w' := by
  have hn := I.len
  obtain ⟨hv, hc, hh⟩ := T.askErr_ok hq
  have G := T.valid_good.1 hv
  have g2 := G.h2
  have g5 : nR ≤ 5 := by rw [hn]; exact G.r2
  rw [← hn] at hc
  have HN := Lib.hid (fun w' (u : Up w w') (ac : Option Addr) (nc cc : Nat) (ah : Option Addr) (nh ch : Nat) (IC : Ints w' (.slice ac nc cc) [k, i]) (IH : Ints w' (.slice ah nh ch) [h]) => newQuestion_yes (I.up u) (IO.up u) (IP.up u) IC IH hv hc hh)
  simp only [List.all_cons, List.all_nil, Bool.and_true, Bool.and_eq_true, T.clkP, T.hrP, inB_iff] at hc hh
  have HA := Lib.hid (fun aT nT cT w' (IT : Tis w' (.slice aT nT cT) _) => apart_is (b0 := false) (b1 := false) (b2 := false) (b3 := false) (b4 := false) (aR := aR) (aO := aO) (aP := aP) (nO := nO) (nP := nP) (cR := cR) (cO := cO) (cP := cP) g2 g5 IT W (m1 := (k, h)) (m2 := (i, h)) (T.mem_moms.2 (.inr ⟨⟨by omega, by omega⟩, by omega, by omega⟩)) (T.mem_moms.2 (.inr ⟨⟨by omega, by omega⟩, by omega, by omega⟩)) q)
  have HM1 := Lib.hid (fun w => at_clock k h w (by omega))
  have HM2 := Lib.hid (fun w => at_clock i h w (by omega))
  clear I IO IP W hq q hv hc hh G hn
  go_enter Try.func22, Try.ntmps22
  go_wp2_with fail
  obtain ⟨W0, hW0⟩ : ∃ x, (((w.alloc (.cells #[.int .i64 H, .slice aR nR cR, .slice aO nO cO, .slice aP nP cP] 26)).alloc (.cells #[.int .i64 0, .int .i64 0] 34)).alloc (.cells #[.int .i64 k, .int .i64 i] 3)).alloc (.cells #[.int .i64 h] 3) = x := ⟨_, rfl⟩
  obtain ⟨q0, e0⟩ : ∃ x, w.heap.size = x := ⟨_, rfl⟩
  obtain ⟨q1, e1⟩ : ∃ x, q0 + 1 = x := ⟨_, rfl⟩
  obtain ⟨q2, e2⟩ : ∃ x, q1 + 1 = x := ⟨_, rfl⟩
  obtain ⟨q3, e3⟩ : ∃ x, q2 + 1 = x := ⟨_, rfl⟩
  have U0 : Up w W0 := by rw [← hW0]; exact ((((Up.refl w).alloc _).alloc _).alloc _).alloc _
  have kR : mblk W0 q1 = some (.cells #[.int .i64 0, .int .i64 0] 34 (0, 0)) := by rw [← hW0]; exact blk_keep _ (blk_keep _ (blk_new _ _ _ (by simp; omega)))
  have kC : mblk W0 q2 = some (.cells #[.int .i64 k, .int .i64 i] 3 (0, 0)) := by rw [← hW0]; exact blk_keep _ (blk_new _ _ _ (by simp; omega))
  have kH : mblk W0 q3 = some (.cells #[.int .i64 h] 3 (0, 0)) := by rw [← hW0]; exact blk_new _ _ _ (by simp; omega)
  rw [hW0, e0, e1, e2, e3]
  clear hW0
  refine (HN.out W0 U0 _ _ _ _ _ _ (ints2 kC) (ints1 kH)).mono ?_
  rintro e W1 ⟨⟨aT, nT, cT, rfl, hT⟩, u1⟩
  replace kR := u1.blk kR
  have lR := blk_lt kR
  have UW := U0.trans u1
  clear HN U0 kC kH u1
  have kR2 := blk_keep (.cells (WeC H (.slice aR nR cR) (.slice aO nO cO) (.slice aP nP cP) false false false false false (.slice aT nT cT)) 82) kR
  have lR2 := blk_lt kR2
  go_wp2_with fail
  obtain ⟨W2, hW2⟩ : ∃ z, W1.alloc (.cells (WeC H (.slice aR nR cR) (.slice aO nO cO) (.slice aP nP cP) false false false false false (.slice aT nT cT)) 82) = z := ⟨_, rfl⟩
  obtain ⟨q8, e8⟩ : ∃ z, W1.heap.size = z := ⟨_, rfl⟩
  have u2 : Up W1 W2 := by rw [← hW2]; exact (Up.refl W1).alloc _
  have kW : mblk W2 q8 = some (.cells (WeC H (.slice aR nR cR) (.slice aO nO cO) (.slice aP nP cP) false false false false false (.slice aT nT cT)) 82 (0, 0)) := by rw [← hW2]; exact blk_new _ _ _ e8.symm
  replace kR := u2.blk kR
  replace UW := UW.trans u2
  replace hT := hT.up u2
  rw [hW2, e8]
  clear hW2 u2 kR2 lR2
  have hmx : Try.prog.follows .mixedOrders = true := by kernel_rfl
  have F1 := Lib.hid (fun w (u : Up W2 w) => cellB (u.blk kW))
  refine (wpIn_wide (n := 5)).1 ?_
  refine wpIn_nrm ?_
  refine T.regionQ (fun w' => Up W2 w') 10 2 hmx (by kernel_rfl) (by kernel_rfl) ((Up.refl W2).drew) (fun hCl => ?_)
  refine T.qTake (i := 0) (d := (some 26)) (v := ?v1) rfl rfl (by kernel_rfl) (by decide) hCl (by kernel_rfl) (by kernel_rfl) (by kernel_rfl) (by rfl) ?hy1 (fun _ _ _ => trivial) (fun hCl' => ?_)
  case hy1 => (intro w hSw; refine T.qVal ?_ hSw; (have f1 := F1.out w hSw); go_simp; try with_reducible rfl)
  simp only [Act.put, List.setIfInBounds_toArray, List.set_cons_zero, List.set_cons_succ]
  replace hCl := hCl'; clear hCl'
  refine T.qTake (i := 1) (d := (some 27)) (v := ?v2) rfl rfl (by kernel_rfl) (by decide) hCl (by kernel_rfl) (by kernel_rfl) (by kernel_rfl) (by rfl) ?hy2 (fun _ _ _ => trivial) (fun hCl' => ?_)
  case hy2 => (intro w hSw; refine T.qVal ?_ hSw; (have f1 := F1.out w hSw); go_simp; try with_reducible rfl)
  simp only [Act.put, List.setIfInBounds_toArray, List.set_cons_zero, List.set_cons_succ]
  replace hCl := hCl'; clear hCl'
  refine T.qTake (i := 2) (d := (some 28)) (v := ?v3) rfl rfl (by kernel_rfl) (by decide) hCl (by kernel_rfl) (by kernel_rfl) (by kernel_rfl) (by rfl) ?hy3 (fun _ _ _ => trivial) (fun hCl' => ?_)
  case hy3 => (intro w hSw; refine T.qVal ?_ hSw; (have f1 := F1.out w hSw); go_simp; try with_reducible rfl)
  simp only [Act.put, List.setIfInBounds_toArray, List.set_cons_zero, List.set_cons_succ]
  replace hCl := hCl'; clear hCl'
  refine T.qTake (i := 3) (d := (some 29)) (v := (MoV k h)) rfl rfl (by kernel_rfl) (by decide) hCl (by kernel_rfl) (by kernel_rfl) (by kernel_rfl) (by rfl) ?hy4 (fun _ _ _ => trivial) (fun hCl' => ?_)
  case hy4 => (intro w hSw; (have f1 := F1.out w hSw); go_simp; (refine (callsIn_wide.2 (HM1.out w)).mono ?_; rintro e w3 ⟨rfl, u3⟩; exact ⟨rfl, hSw.trans u3⟩))
  simp only [Act.put, List.setIfInBounds_toArray, List.set_cons_zero, List.set_cons_succ]
  replace hCl := hCl'; clear hCl'
  refine T.qTake (i := 4) (d := (some 30)) (v := ?v5) rfl rfl (by kernel_rfl) (by decide) hCl (by kernel_rfl) (by kernel_rfl) (by kernel_rfl) (by rfl) ?hy5 (fun _ _ _ => trivial) (fun hCl' => ?_)
  case hy5 => (intro w hSw; refine T.qVal ?_ hSw; (have f1 := F1.out w hSw); go_simp; try with_reducible rfl)
  simp only [Act.put, List.setIfInBounds_toArray, List.set_cons_zero, List.set_cons_succ]
  replace hCl := hCl'; clear hCl'
  refine T.qTake (i := 5) (d := (some 31)) (v := ?v6) rfl rfl (by kernel_rfl) (by decide) hCl (by kernel_rfl) (by kernel_rfl) (by kernel_rfl) (by rfl) ?hy6 (fun _ _ _ => trivial) (fun hCl' => ?_)
  case hy6 => (intro w hSw; refine T.qVal ?_ hSw; (have f1 := F1.out w hSw); go_simp; try with_reducible rfl)
  simp only [Act.put, List.setIfInBounds_toArray, List.set_cons_zero, List.set_cons_succ]
  replace hCl := hCl'; clear hCl'
  refine T.qTake (i := 6) (d := (some 32)) (v := (MoV i h)) rfl rfl (by kernel_rfl) (by decide) hCl (by kernel_rfl) (by kernel_rfl) (by kernel_rfl) (by rfl) ?hy7 (fun _ _ _ => trivial) (fun hCl' => ?_)
  case hy7 => (intro w hSw; (have f1 := F1.out w hSw); go_simp; (refine (callsIn_wide.2 (HM2.out w)).mono ?_; rintro e w3 ⟨rfl, u3⟩; exact ⟨rfl, hSw.trans u3⟩))
  simp only [Act.put, List.setIfInBounds_toArray, List.set_cons_zero, List.set_cons_succ]
  replace hCl := hCl'; clear hCl'
  refine T.qTake (i := 7) (d := (some 33)) (v := (.tuple #[SpV lo hi, .int .i64 eE])) rfl rfl (by kernel_rfl) (by decide) hCl (by kernel_rfl) (by kernel_rfl) (by kernel_rfl) (by rfl) ?hy8 (fun _ _ _ => trivial) (fun hCl' => ?_)
  case hy8 => (intro w hSw; (have f1 := F1.out w hSw); go_simp; (refine (callsIn_wide.2 (HA.out _ _ _ w (hT.up hSw))).mono ?_; rintro e w3 ⟨rfl, u3⟩; exact ⟨rfl, hSw.trans u3⟩))
  simp only [Act.put, List.setIfInBounds_toArray, List.set_cons_zero, List.set_cons_succ]
  replace hCl := hCl'; clear hCl'
  refine T.qTake (i := 8) (d := (some 34)) (v := ?v9) rfl rfl (by kernel_rfl) (by decide) hCl (by kernel_rfl) (by kernel_rfl) (by kernel_rfl) (by rfl) ?hy9 (fun _ _ _ => trivial) (fun hCl' => ?_)
  case hy9 => (intro w hSw; refine T.qVal ?_ hSw; (have f1 := F1.out w hSw); go_simp; try with_reducible rfl)
  simp only [Act.put, List.setIfInBounds_toArray, List.set_cons_zero, List.set_cons_succ]
  replace hCl := hCl'; clear hCl'
  refine T.qTake (i := 9) (d := (some 35)) (v := ?v10) rfl rfl (by kernel_rfl) (by decide) hCl (by kernel_rfl) (by kernel_rfl) (by kernel_rfl) (by rfl) ?hy10 (fun _ _ _ => trivial) (fun hCl' => ?_)
  case hy10 => (intro w hSw; refine T.qVal ?_ hSw; (have f1 := F1.out w hSw); go_simp; try with_reducible rfl)
  simp only [Act.put, List.setIfInBounds_toArray, List.set_cons_zero, List.set_cons_succ]
  replace hCl := hCl'; clear hCl'
  refine T.tail_intro (by kernel_rfl) (fun Y hY => ?_)
  have kR2 := hY.blk kR
  have fR := frozB kR2
  have cR := cellB kR2
  have lY := blk_lt kR2
  have UY := UW.trans hY
  refine lastG (i := 10) (by kernel_rfl) rfl (by rfl) (by decide) (fun K hK => ?_)
  go_simp
  refine hK.out _ _ ?_
  clear hK K
  refine lastG (i := 11) (by kernel_rfl) rfl (by rfl) (by decide) (fun K hK => ?_)
  go_simp
  refine hK.out _ _ ?_
  clear hK K
  refine doneG (by kernel_rfl) ?_ _
  refine S.nrm_intro ?_
  obtain ⟨Z, hZ⟩ : ∃ z, (Y.setCell ⟨q1, 0, none⟩ (.int .i64 lo)).setCell ⟨q1, 1, none⟩ (.int .i64 hi) = z := ⟨_, rfl⟩
  have UZ : Up w Z := by rw [← hZ]; exact (UY.set (p := ⟨q1, 0, none⟩) (by show w.heap.size ≤ q1; omega) _).set (p := ⟨q1, 1, none⟩) (by show w.heap.size ≤ q1; omega) _
  have cZ : ∀ j, Z.cell? ⟨q1, j, none⟩ = (#[Value.int .i64 lo, .int .i64 hi] : Array Value)[j]? := by rw [← hZ]; exact cellB (blk_put (blk_put kR2 0 _) 1 _)
  rw [hZ]
  clear hZ fR cR kR2
  go_wp2_with fail
  exact bodyPost_ret (v := .tuple #[SpV lo hi, .int .i64 eE]) (by simp [results, Try.results22, go_sem, cZ]) rfl ⟨rfl, UZ⟩
set_option maxRecDepth 100000 in
theorem Drift_bad {w : World} {Hi k h g : Int} (I : Sps w (.slice aR nR cR) rs) (IO : Ops w (.slice aO nO cO) os) (IP : Prs w (.slice aP nP cP) ps) {eq : Int} (hq : T.askErr Hi rs os ps [k] [h, g] = eq) (h0 : eq ≠ 0) :
    Calls Try.prog 24 #[ClV Hi (.slice aR nR cR) (.slice aO nO cO) (.slice aP nP cP), .int .i64 k, .int .i64 h, .int .i64 g] w fun e w' => e = .returned (.tuple #[SpV 0 0, .int .i64 eq]) ∧ Up w w' := by
  have HN := Lib.hid (fun w' (u : Up w w') (ac : Option Addr) (nc cc : Nat) (ah : Option Addr) (nh ch : Nat) (IC : Ints w' (.slice ac nc cc) [k]) (IH : Ints w' (.slice ah nh ch) [h, g]) => newQuestion_bad (I.up u) (IO.up u) (IP.up u) IC IH hq h0)
  have hb : (eq != 0) = true := by rw [bne_iff_ne]; exact h0
  clear I IO IP hq
  go_enter Try.func24, Try.ntmps24
  go_wp2_with fail
  obtain ⟨W0, hW0⟩ : ∃ x, (((w.alloc (.cells #[.int .i64 Hi, .slice aR nR cR, .slice aO nO cO, .slice aP nP cP] 26)).alloc (.cells #[.int .i64 0, .int .i64 0] 34)).alloc (.cells #[.int .i64 k] 3)).alloc (.cells #[.int .i64 h, .int .i64 g] 3) = x := ⟨_, rfl⟩
  obtain ⟨q0, e0⟩ : ∃ x, w.heap.size = x := ⟨_, rfl⟩
  obtain ⟨q1, e1⟩ : ∃ x, q0 + 1 = x := ⟨_, rfl⟩
  obtain ⟨q2, e2⟩ : ∃ x, q1 + 1 = x := ⟨_, rfl⟩
  obtain ⟨q3, e3⟩ : ∃ x, q2 + 1 = x := ⟨_, rfl⟩
  have U0 : Up w W0 := by rw [← hW0]; exact ((((Up.refl w).alloc _).alloc _).alloc _).alloc _
  have kR : mblk W0 q1 = some (.cells #[.int .i64 0, .int .i64 0] 34 (0, 0)) := by rw [← hW0]; exact blk_keep _ (blk_keep _ (blk_new _ _ _ (by simp; omega)))
  have kC : mblk W0 q2 = some (.cells #[.int .i64 k] 3 (0, 0)) := by rw [← hW0]; exact blk_keep _ (blk_new _ _ _ (by simp; omega))
  have kH : mblk W0 q3 = some (.cells #[.int .i64 h, .int .i64 g] 3 (0, 0)) := by rw [← hW0]; exact blk_new _ _ _ (by simp; omega)
  rw [hW0, e0, e1, e2, e3]
  clear hW0
  refine (HN.out W0 U0 _ _ _ _ _ _ (ints1 kC) (ints2 kH)).mono ?_
  rintro e W1 ⟨rfl, u1⟩
  replace kR := u1.blk kR
  have lR := blk_lt kR
  have UW := U0.trans u1
  clear HN U0 kC kH u1
  have kR2 := blk_keep (.cells (WeC 0 (.slice none 0 0) (.slice none 0 0) (.slice none 0 0) false false false false false (.slice none 0 0)) 82) kR
  have fR := frozB kR
  have fR2 := frozB kR2
  have cR := cellB kR
  have cR2 := cellB kR2
  go_wp2_with fail
  obtain ⟨Z, hZ⟩ : ∃ z, ((W1.setCell ⟨q1, 0, none⟩ (.int .i64 0)).setCell ⟨q1, 1, none⟩ (.int .i64 0)).alloc (.cells (WeC 0 (.slice none 0 0) (.slice none 0 0) (.slice none 0 0) false false false false false (.slice none 0 0)) 82) = z := ⟨_, rfl⟩
  have UZ : Up w Z := by rw [← hZ]; exact ((UW.set (p := ⟨q1, 0, none⟩) (by show w.heap.size ≤ q1; omega) _).set (p := ⟨q1, 1, none⟩) (by show w.heap.size ≤ q1; omega) _).alloc _
  have cZ : ∀ j, Z.cell? ⟨q1, j, none⟩ = (#[Value.int .i64 0, .int .i64 0] : Array Value)[j]? := by rw [← hZ]; exact cellB (blk_keep _ (blk_put (blk_put kR 0 _) 1 _))
  rw [hZ]
  exact bodyPost_ret (v := .tuple #[SpV 0 0, .int .i64 eq]) (by simp [results, Try.results24, go_sem, cZ]) rfl ⟨rfl, UZ⟩
set_option maxRecDepth 100000 in
set_option maxHeartbeats 1000000 in
theorem Drift_ok {w : World} {k h g : Int} (I : Sps w (.slice aR nR cR) rs) (IO : Ops w (.slice aO nO cO) os) (IP : Prs w (.slice aP nP cP) ps) (W : T.WebOk nR H (T.web nR H rs os ps false false false false false)) (hq : T.askErr H rs os ps [k] [h, g] = 0) {lo hi eE : Int} (q : T.Asked (T.web nR H rs os ps false false false false false) (k, g) (k, h) lo hi eE) :
    Calls Try.prog 24 #[ClV H (.slice aR nR cR) (.slice aO nO cO) (.slice aP nP cP), .int .i64 k, .int .i64 h, .int .i64 g] w fun e w' => e = .returned (.tuple #[SpV lo hi, .int .i64 eE]) ∧ Up w w' := by
  have hn := I.len
  obtain ⟨hv, hc, hh⟩ := T.askErr_ok hq
  have G := T.valid_good.1 hv
  have g2 := G.h2
  have g5 : nR ≤ 5 := by rw [hn]; exact G.r2
  rw [← hn] at hc
  have HN := Lib.hid (fun w' (u : Up w w') (ac : Option Addr) (nc cc : Nat) (ah : Option Addr) (nh ch : Nat) (IC : Ints w' (.slice ac nc cc) [k]) (IH : Ints w' (.slice ah nh ch) [h, g]) => newQuestion_yes (I.up u) (IO.up u) (IP.up u) IC IH hv hc hh)
  simp only [List.all_cons, List.all_nil, Bool.and_true, Bool.and_eq_true, T.clkP, T.hrP, inB_iff] at hc hh
  have HA := Lib.hid (fun aT nT cT w' (IT : Tis w' (.slice aT nT cT) _) => apart_is (b0 := false) (b1 := false) (b2 := false) (b3 := false) (b4 := false) (aR := aR) (aO := aO) (aP := aP) (nO := nO) (nP := nP) (cR := cR) (cO := cO) (cP := cP) g2 g5 IT W (m1 := (k, g)) (m2 := (k, h)) (T.mem_moms.2 (.inr ⟨⟨by omega, by omega⟩, by omega, by omega⟩)) (T.mem_moms.2 (.inr ⟨⟨by omega, by omega⟩, by omega, by omega⟩)) q)
  have HM1 := Lib.hid (fun w => at_clock k g w (by omega))
  have HM2 := Lib.hid (fun w => at_clock k h w (by omega))
  clear I IO IP W hq q hv hc hh G hn
  go_enter Try.func24, Try.ntmps24
  go_wp2_with fail
  obtain ⟨W0, hW0⟩ : ∃ x, (((w.alloc (.cells #[.int .i64 H, .slice aR nR cR, .slice aO nO cO, .slice aP nP cP] 26)).alloc (.cells #[.int .i64 0, .int .i64 0] 34)).alloc (.cells #[.int .i64 k] 3)).alloc (.cells #[.int .i64 h, .int .i64 g] 3) = x := ⟨_, rfl⟩
  obtain ⟨q0, e0⟩ : ∃ x, w.heap.size = x := ⟨_, rfl⟩
  obtain ⟨q1, e1⟩ : ∃ x, q0 + 1 = x := ⟨_, rfl⟩
  obtain ⟨q2, e2⟩ : ∃ x, q1 + 1 = x := ⟨_, rfl⟩
  obtain ⟨q3, e3⟩ : ∃ x, q2 + 1 = x := ⟨_, rfl⟩
  have U0 : Up w W0 := by rw [← hW0]; exact ((((Up.refl w).alloc _).alloc _).alloc _).alloc _
  have kR : mblk W0 q1 = some (.cells #[.int .i64 0, .int .i64 0] 34 (0, 0)) := by rw [← hW0]; exact blk_keep _ (blk_keep _ (blk_new _ _ _ (by simp; omega)))
  have kC : mblk W0 q2 = some (.cells #[.int .i64 k] 3 (0, 0)) := by rw [← hW0]; exact blk_keep _ (blk_new _ _ _ (by simp; omega))
  have kH : mblk W0 q3 = some (.cells #[.int .i64 h, .int .i64 g] 3 (0, 0)) := by rw [← hW0]; exact blk_new _ _ _ (by simp; omega)
  rw [hW0, e0, e1, e2, e3]
  clear hW0
  refine (HN.out W0 U0 _ _ _ _ _ _ (ints1 kC) (ints2 kH)).mono ?_
  rintro e W1 ⟨⟨aT, nT, cT, rfl, hT⟩, u1⟩
  replace kR := u1.blk kR
  have lR := blk_lt kR
  have UW := U0.trans u1
  clear HN U0 kC kH u1
  have kR2 := blk_keep (.cells (WeC H (.slice aR nR cR) (.slice aO nO cO) (.slice aP nP cP) false false false false false (.slice aT nT cT)) 82) kR
  have lR2 := blk_lt kR2
  go_wp2_with fail
  obtain ⟨W2, hW2⟩ : ∃ z, W1.alloc (.cells (WeC H (.slice aR nR cR) (.slice aO nO cO) (.slice aP nP cP) false false false false false (.slice aT nT cT)) 82) = z := ⟨_, rfl⟩
  obtain ⟨q8, e8⟩ : ∃ z, W1.heap.size = z := ⟨_, rfl⟩
  have u2 : Up W1 W2 := by rw [← hW2]; exact (Up.refl W1).alloc _
  have kW : mblk W2 q8 = some (.cells (WeC H (.slice aR nR cR) (.slice aO nO cO) (.slice aP nP cP) false false false false false (.slice aT nT cT)) 82 (0, 0)) := by rw [← hW2]; exact blk_new _ _ _ e8.symm
  replace kR := u2.blk kR
  replace UW := UW.trans u2
  replace hT := hT.up u2
  rw [hW2, e8]
  clear hW2 u2 kR2 lR2
  have hmx : Try.prog.follows .mixedOrders = true := by kernel_rfl
  have F1 := Lib.hid (fun w (u : Up W2 w) => cellB (u.blk kW))
  refine (wpIn_wide (n := 5)).1 ?_
  refine wpIn_nrm ?_
  refine T.regionQ (fun w' => Up W2 w') 10 2 hmx (by kernel_rfl) (by kernel_rfl) ((Up.refl W2).drew) (fun hCl => ?_)
  refine T.qTake (i := 0) (d := (some 26)) (v := ?v11) rfl rfl (by kernel_rfl) (by decide) hCl (by kernel_rfl) (by kernel_rfl) (by kernel_rfl) (by rfl) ?hy11 (fun _ _ _ => trivial) (fun hCl' => ?_)
  case hy11 => (intro w hSw; refine T.qVal ?_ hSw; (have f1 := F1.out w hSw); go_simp; try with_reducible rfl)
  simp only [Act.put, List.setIfInBounds_toArray, List.set_cons_zero, List.set_cons_succ]
  replace hCl := hCl'; clear hCl'
  refine T.qTake (i := 1) (d := (some 27)) (v := ?v12) rfl rfl (by kernel_rfl) (by decide) hCl (by kernel_rfl) (by kernel_rfl) (by kernel_rfl) (by rfl) ?hy12 (fun _ _ _ => trivial) (fun hCl' => ?_)
  case hy12 => (intro w hSw; refine T.qVal ?_ hSw; (have f1 := F1.out w hSw); go_simp; try with_reducible rfl)
  simp only [Act.put, List.setIfInBounds_toArray, List.set_cons_zero, List.set_cons_succ]
  replace hCl := hCl'; clear hCl'
  refine T.qTake (i := 2) (d := (some 28)) (v := ?v13) rfl rfl (by kernel_rfl) (by decide) hCl (by kernel_rfl) (by kernel_rfl) (by kernel_rfl) (by rfl) ?hy13 (fun _ _ _ => trivial) (fun hCl' => ?_)
  case hy13 => (intro w hSw; refine T.qVal ?_ hSw; (have f1 := F1.out w hSw); go_simp; try with_reducible rfl)
  simp only [Act.put, List.setIfInBounds_toArray, List.set_cons_zero, List.set_cons_succ]
  replace hCl := hCl'; clear hCl'
  refine T.qTake (i := 3) (d := (some 29)) (v := (MoV k g)) rfl rfl (by kernel_rfl) (by decide) hCl (by kernel_rfl) (by kernel_rfl) (by kernel_rfl) (by rfl) ?hy14 (fun _ _ _ => trivial) (fun hCl' => ?_)
  case hy14 => (intro w hSw; (have f1 := F1.out w hSw); go_simp; (refine (callsIn_wide.2 (HM1.out w)).mono ?_; rintro e w3 ⟨rfl, u3⟩; exact ⟨rfl, hSw.trans u3⟩))
  simp only [Act.put, List.setIfInBounds_toArray, List.set_cons_zero, List.set_cons_succ]
  replace hCl := hCl'; clear hCl'
  refine T.qTake (i := 4) (d := (some 30)) (v := ?v15) rfl rfl (by kernel_rfl) (by decide) hCl (by kernel_rfl) (by kernel_rfl) (by kernel_rfl) (by rfl) ?hy15 (fun _ _ _ => trivial) (fun hCl' => ?_)
  case hy15 => (intro w hSw; refine T.qVal ?_ hSw; (have f1 := F1.out w hSw); go_simp; try with_reducible rfl)
  simp only [Act.put, List.setIfInBounds_toArray, List.set_cons_zero, List.set_cons_succ]
  replace hCl := hCl'; clear hCl'
  refine T.qTake (i := 5) (d := (some 31)) (v := ?v16) rfl rfl (by kernel_rfl) (by decide) hCl (by kernel_rfl) (by kernel_rfl) (by kernel_rfl) (by rfl) ?hy16 (fun _ _ _ => trivial) (fun hCl' => ?_)
  case hy16 => (intro w hSw; refine T.qVal ?_ hSw; (have f1 := F1.out w hSw); go_simp; try with_reducible rfl)
  simp only [Act.put, List.setIfInBounds_toArray, List.set_cons_zero, List.set_cons_succ]
  replace hCl := hCl'; clear hCl'
  refine T.qTake (i := 6) (d := (some 32)) (v := (MoV k h)) rfl rfl (by kernel_rfl) (by decide) hCl (by kernel_rfl) (by kernel_rfl) (by kernel_rfl) (by rfl) ?hy17 (fun _ _ _ => trivial) (fun hCl' => ?_)
  case hy17 => (intro w hSw; (have f1 := F1.out w hSw); go_simp; (refine (callsIn_wide.2 (HM2.out w)).mono ?_; rintro e w3 ⟨rfl, u3⟩; exact ⟨rfl, hSw.trans u3⟩))
  simp only [Act.put, List.setIfInBounds_toArray, List.set_cons_zero, List.set_cons_succ]
  replace hCl := hCl'; clear hCl'
  refine T.qTake (i := 7) (d := (some 33)) (v := (.tuple #[SpV lo hi, .int .i64 eE])) rfl rfl (by kernel_rfl) (by decide) hCl (by kernel_rfl) (by kernel_rfl) (by kernel_rfl) (by rfl) ?hy18 (fun _ _ _ => trivial) (fun hCl' => ?_)
  case hy18 => (intro w hSw; (have f1 := F1.out w hSw); go_simp; (refine (callsIn_wide.2 (HA.out _ _ _ w (hT.up hSw))).mono ?_; rintro e w3 ⟨rfl, u3⟩; exact ⟨rfl, hSw.trans u3⟩))
  simp only [Act.put, List.setIfInBounds_toArray, List.set_cons_zero, List.set_cons_succ]
  replace hCl := hCl'; clear hCl'
  refine T.qTake (i := 8) (d := (some 34)) (v := ?v19) rfl rfl (by kernel_rfl) (by decide) hCl (by kernel_rfl) (by kernel_rfl) (by kernel_rfl) (by rfl) ?hy19 (fun _ _ _ => trivial) (fun hCl' => ?_)
  case hy19 => (intro w hSw; refine T.qVal ?_ hSw; (have f1 := F1.out w hSw); go_simp; try with_reducible rfl)
  simp only [Act.put, List.setIfInBounds_toArray, List.set_cons_zero, List.set_cons_succ]
  replace hCl := hCl'; clear hCl'
  refine T.qTake (i := 9) (d := (some 35)) (v := ?v20) rfl rfl (by kernel_rfl) (by decide) hCl (by kernel_rfl) (by kernel_rfl) (by kernel_rfl) (by rfl) ?hy20 (fun _ _ _ => trivial) (fun hCl' => ?_)
  case hy20 => (intro w hSw; refine T.qVal ?_ hSw; (have f1 := F1.out w hSw); go_simp; try with_reducible rfl)
  simp only [Act.put, List.setIfInBounds_toArray, List.set_cons_zero, List.set_cons_succ]
  replace hCl := hCl'; clear hCl'
  refine T.tail_intro (by kernel_rfl) (fun Y hY => ?_)
  have kR2 := hY.blk kR
  have fR := frozB kR2
  have cR := cellB kR2
  have lY := blk_lt kR2
  have UY := UW.trans hY
  refine lastG (i := 10) (by kernel_rfl) rfl (by rfl) (by decide) (fun K hK => ?_)
  go_simp
  refine hK.out _ _ ?_
  clear hK K
  refine lastG (i := 11) (by kernel_rfl) rfl (by rfl) (by decide) (fun K hK => ?_)
  go_simp
  refine hK.out _ _ ?_
  clear hK K
  refine doneG (by kernel_rfl) ?_ _
  refine S.nrm_intro ?_
  obtain ⟨Z, hZ⟩ : ∃ z, (Y.setCell ⟨q1, 0, none⟩ (.int .i64 lo)).setCell ⟨q1, 1, none⟩ (.int .i64 hi) = z := ⟨_, rfl⟩
  have UZ : Up w Z := by rw [← hZ]; exact (UY.set (p := ⟨q1, 0, none⟩) (by show w.heap.size ≤ q1; omega) _).set (p := ⟨q1, 1, none⟩) (by show w.heap.size ≤ q1; omega) _
  have cZ : ∀ j, Z.cell? ⟨q1, j, none⟩ = (#[Value.int .i64 lo, .int .i64 hi] : Array Value)[j]? := by rw [← hZ]; exact cellB (blk_put (blk_put kR2 0 _) 1 _)
  rw [hZ]
  clear hZ fR cR kR2
  go_wp2_with fail
  exact bodyPost_ret (v := .tuple #[SpV lo hi, .int .i64 eE]) (by simp [results, Try.results24, go_sem, cZ]) rfl ⟨rfl, UZ⟩
end

end Go.Proofs.Ytcmdaiklkdeanaa
