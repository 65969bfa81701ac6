import Derived.Test.YtcmdaiklkdeanaaCel
/- The contracts of hasClocks and newCellar. -/
namespace Go.Proofs.Ytcmdaiklkdeanaa
open Go.RowKit

def T.hasClk (H : Int) (rs : List (Int × Int)) : Bool := inB H 1 12 && (decide (0 < rs.length) && (decide (rs.length ≤ 5) && rs.all T.rateOk))
/-- is a cellar valid? -/
def T.valid (H : Int) (rs : List (Int × Int)) (os : List (Int × Int × Int × Int)) (ps : List (Int × Int × Int × Int × Int)) : Bool :=
  T.hasClk H rs && ((decide (os.length ≤ 6) && os.all (T.openOk H rs.length)) && (decide (ps.length ≤ 14) && ps.all (T.pairOk H rs.length)))
/-- a cellar as it is given -/
abbrev ClV (H : Int) (R O P : Value) : Value := .agg #[.int .i64 H, R, O, P]
abbrev CeZ : Value := .agg (CeC 0 (.slice none 0 0) (.slice none 0 0) (.slice none 0 0) false false false false false)
section
variable {H : Int} {aR aO aP : Option Addr} {nR cR nO cO nP cP : Nat} {b0 b1 b2 b3 b4 : Bool} {rs : List (Int × Int)} {os : List (Int × Int × Int × Int)} {ps : List (Int × Int × Int × Int × Int)}
set_option maxRecDepth 100000 in
set_option maxHeartbeats 1000000 in
theorem hasClocks_any {w : World} (I : Sps w (.slice aR nR cR) rs) : Calls Try.prog 74 #[(CeV H (.slice aR nR cR) (.slice aO nO cO) (.slice aP nP cP) b0 b1 b2 b3 b4)] w fun e w' => e = .returned (.bool (T.hasClk H rs)) ∧ Up w w' := by
  have U := (Up.refl w).alloc (.cells (CeC H (.slice aR nR cR) (.slice aO nO cO) (.slice aP nP cP) b0 b1 b2 b3 b4) 79)
  have k0 := blk_new w (.cells (CeC H (.slice aR nR cR) (.slice aO nO cO) (.slice aP nP cP) b0 b1 b2 b3 b4) 79) _ rfl
  have hl := I.max
  have hn := I.len
  subst hn
  have H1 := Lib.hid (fun w => within_any H 1 12 w)
  have H2 := Lib.hid (fun w' (up : Up w w') => allSpan_any (I.up up) 5)
  have E := Lib.hid (show T.hasClk H rs = (inB H 1 12 && (decide (0 < rs.length) && (decide (rs.length ≤ 5) && rs.all T.rateOk))) from rfl)
  generalize T.hasClk H rs = R at *
  generalize inB H 1 12 = q1 at *
  generalize (decide (rs.length ≤ 5) && rs.all T.rateOk) = q2 at *
  clear I
  cases q1
  case false =>
    rw [Bool.false_and] at E
    go_enter Try.func74, Try.ntmps74
    go_wp2_with fail
    refine (H1.out _).mono ?_
    rintro e w1 ⟨rfl, rfl⟩
    go_wp2
    go_ret
    exact ⟨by rw [E.out]; rfl, U⟩
  case true =>
    rw [Bool.true_and] at E
    by_cases h0 : 0 < rs.length
    · have g0 := decide_eq_true h0
      have g1 : decide ((rs.length : Int) > 0) = true := decide_eq_true (by omega)
      have g2 : (rs.length : Int) > 0 := by omega
      rw [g0, Bool.true_and] at E
      go_enter Try.func74, Try.ntmps74
      go_wp2_with fail
      refine (H1.out _).mono ?_
      rintro e w1 ⟨rfl, rfl⟩
      go_wp2_with fail
      refine (H2.out _ U).mono ?_
      rintro e w2 ⟨rfl, u2⟩
      go_wp2
      go_ret
      exact ⟨by rw [E.out]; rfl, U.trans u2⟩
    · have g0 := decide_eq_false h0
      have g1 : decide ((rs.length : Int) > 0) = false := decide_eq_false (by omega)
      have g2 : ¬ (rs.length : Int) > 0 := by omega
      rw [g0, Bool.false_and] at E
      go_enter Try.func74, Try.ntmps74
      go_wp2_with fail
      refine (H1.out _).mono ?_
      rintro e w1 ⟨rfl, rfl⟩
      go_wp2
      go_ret
      exact ⟨by rw [E.out]; rfl, U⟩
theorem T.hasClk_H {H : Int} {rs : List (Int × Int)} (h : T.hasClk H rs = true) : 1 ≤ H ∧ H ≤ 12 := by
  unfold T.hasClk at h
  rw [Bool.and_eq_true] at h
  exact inB_iff.1 h.1
set_option maxRecDepth 100000 in
set_option maxHeartbeats 2000000 in
theorem newCellar_no1 {w : World} (I : Sps w (.slice aR nR cR) rs) (_IO : Ops w (.slice aO nO cO) os) (_IP : Prs w (.slice aP nP cP) ps) (h1 : T.hasClk H rs = false) : Calls Try.prog 49 #[ClV H (.slice aR nR cR) (.slice aO nO cO) (.slice aP nP cP)] w fun e w' => e = .returned (.tuple #[CeZ, .int .i64 20]) ∧ Up w w' := by
  have U := (((Up.refl w).alloc (.cells #[.int .i64 H, .slice aR nR cR, .slice aO nO cO, .slice aP nP cP] 26)).alloc (.cells (CeC 0 (.slice none 0 0) (.slice none 0 0) (.slice none 0 0) false false false false false) 79)).alloc (.cells (CeC H (.slice aR nR cR) (.slice aO nO cO) (.slice aP nP cP) false false false false false) 79)
  have k2 := blk_keep (.cells (CeC H (.slice aR nR cR) (.slice aO nO cO) (.slice aP nP cP) false false false false false) 79) (blk_new (w.alloc (.cells #[.int .i64 H, .slice aR nR cR, .slice aO nO cO, .slice aP nP cP] 26)) (.cells (CeC 0 (.slice none 0 0) (.slice none 0 0) (.slice none 0 0) false false false false false) 79) (w.heap.size + 1) (by simp))
  have k1 := blk_keep (.cells (CeC H (.slice aR nR cR) (.slice aO nO cO) (.slice aP nP cP) false false false false false) 79) (blk_keep (.cells (CeC 0 (.slice none 0 0) (.slice none 0 0) (.slice none 0 0) false false false false false) 79) (blk_new w (.cells #[.int .i64 H, .slice aR nR cR, .slice aO nO cO, .slice aP nP cP] 26) _ rfl))
  have k3 := blk_new ((w.alloc (.cells #[.int .i64 H, .slice aR nR cR, .slice aO nO cO, .slice aP nP cP] 26)).alloc (.cells (CeC 0 (.slice none 0 0) (.slice none 0 0) (.slice none 0 0) false false false false false) 79)) (.cells (CeC H (.slice aR nR cR) (.slice aO nO cO) (.slice aP nP cP) false false false false false) 79) (w.heap.size + 1 + 1) (by simp)
  have hl := I.max
  have hn := I.len
  have n0 : w.heap.size ≤ w.heap.size + 1 := by omega
  have H1 := Lib.hid (fun w' (up : Up w w') => hasClocks_any (H := H) (aR := aR) (aO := aO) (aP := aP) (nR := nR) (cR := cR) (nO := nO) (cO := cO) (nP := nP) (cP := cP) (b0 := false) (b1 := false) (b2 := false) (b3 := false) (b4 := false) (I.up up))
  rw [h1] at H1
  clear h1 hn
  go_enter Try.func49, Try.ntmps49
  go_wp2_with fail
  refine (H1.out _ U).mono ?_
  rintro e w1 ⟨rfl, u1⟩
  have U1 := U.trans u1
  replace k1 := u1.blk k1
  replace k2 := u1.blk k2
  replace k3 := u1.blk k3
  clear u1 U
  have z2 := frozB k2
  have UE := (Up.set (Up.set (Up.set (Up.set (Up.set (Up.set (Up.set (Up.set (Up.set U1 (p := ⟨w.heap.size + 1, 0, none⟩) n0 (.int .i64 0)) (p := ⟨w.heap.size + 1, 1, none⟩) n0 (.slice none 0 0)) (p := ⟨w.heap.size + 1, 2, none⟩) n0 (.slice none 0 0)) (p := ⟨w.heap.size + 1, 3, none⟩) n0 (.slice none 0 0)) (p := ⟨w.heap.size + 1, 4, none⟩) n0 (.bool false)) (p := ⟨w.heap.size + 1, 5, none⟩) n0 (.bool false)) (p := ⟨w.heap.size + 1, 6, none⟩) n0 (.bool false)) (p := ⟨w.heap.size + 1, 7, none⟩) n0 (.bool false)) (p := ⟨w.heap.size + 1, 8, none⟩) n0 (.bool false))
  have c := cellB (blk_put (blk_put (blk_put (blk_put (blk_put (blk_put (blk_put (blk_put (blk_put k2 0 (.int .i64 0)) 1 (.slice none 0 0)) 2 (.slice none 0 0)) 3 (.slice none 0 0)) 4 (.bool false)) 5 (.bool false)) 6 (.bool false)) 7 (.bool false)) 8 (.bool false))
  have C := Lib.hid c
  have lt3 := blk_lt k3
  have lt2 := blk_lt k2
  clear c n0
  go_wp2_with fail
  have c := C.out
  exact bodyPost_ret (v := .tuple #[CeZ, .int .i64 20]) (by simp [results, Try.results49, go_sem, c]) rfl ⟨rfl, UE⟩
set_option maxRecDepth 100000 in
set_option maxHeartbeats 2000000 in
theorem newCellar_no2 {w : World} (I : Sps w (.slice aR nR cR) rs) (IO : Ops w (.slice aO nO cO) os) (_IP : Prs w (.slice aP nP cP) ps) (h1 : T.hasClk H rs = true) (h2 : (decide (os.length ≤ 6) && os.all (T.openOk H nR)) = false) : Calls Try.prog 49 #[ClV H (.slice aR nR cR) (.slice aO nO cO) (.slice aP nP cP)] w fun e w' => e = .returned (.tuple #[CeZ, .int .i64 20]) ∧ Up w w' := by
  have U := (((Up.refl w).alloc (.cells #[.int .i64 H, .slice aR nR cR, .slice aO nO cO, .slice aP nP cP] 26)).alloc (.cells (CeC 0 (.slice none 0 0) (.slice none 0 0) (.slice none 0 0) false false false false false) 79)).alloc (.cells (CeC H (.slice aR nR cR) (.slice aO nO cO) (.slice aP nP cP) false false false false false) 79)
  have k2 := blk_keep (.cells (CeC H (.slice aR nR cR) (.slice aO nO cO) (.slice aP nP cP) false false false false false) 79) (blk_new (w.alloc (.cells #[.int .i64 H, .slice aR nR cR, .slice aO nO cO, .slice aP nP cP] 26)) (.cells (CeC 0 (.slice none 0 0) (.slice none 0 0) (.slice none 0 0) false false false false false) 79) (w.heap.size + 1) (by simp))
  have k1 := blk_keep (.cells (CeC H (.slice aR nR cR) (.slice aO nO cO) (.slice aP nP cP) false false false false false) 79) (blk_keep (.cells (CeC 0 (.slice none 0 0) (.slice none 0 0) (.slice none 0 0) false false false false false) 79) (blk_new w (.cells #[.int .i64 H, .slice aR nR cR, .slice aO nO cO, .slice aP nP cP] 26) _ rfl))
  have k3 := blk_new ((w.alloc (.cells #[.int .i64 H, .slice aR nR cR, .slice aO nO cO, .slice aP nP cP] 26)).alloc (.cells (CeC 0 (.slice none 0 0) (.slice none 0 0) (.slice none 0 0) false false false false false) 79)) (.cells (CeC H (.slice aR nR cR) (.slice aO nO cO) (.slice aP nP cP) false false false false false) 79) (w.heap.size + 1 + 1) (by simp)
  have hl := I.max
  have hn := I.len
  have n0 : w.heap.size ≤ w.heap.size + 1 := by omega
  have H1 := Lib.hid (fun w' (up : Up w w') => hasClocks_any (H := H) (aR := aR) (aO := aO) (aP := aP) (nR := nR) (cR := cR) (nO := nO) (cO := cO) (nP := nP) (cP := cP) (b0 := false) (b1 := false) (b2 := false) (b3 := false) (b4 := false) (I.up up))
  have hH : -9223372036854775807 ≤ H ∧ H ≤ 9223372036854775807 := by have := T.hasClk_H h1; omega
  have H2 := Lib.hid (fun w' (up : Up w w') => allOpen_any (H := H) (aR := aR) (aO := aO) (aP := aP) (nR := nR) (cR := cR) (nO := nO) (cO := cO) (nP := nP) (cP := cP) (b0 := false) (b1 := false) (b2 := false) (b3 := false) (b4 := false) (by omega) hH (IO.up up) 6)
  rw [h1] at H1
  rw [h2] at H2
  clear h1 h2 hH hn
  go_enter Try.func49, Try.ntmps49
  go_wp2_with fail
  refine (H1.out _ U).mono ?_
  rintro e w1 ⟨rfl, u1⟩
  have U1 := U.trans u1
  replace k1 := u1.blk k1
  replace k2 := u1.blk k2
  replace k3 := u1.blk k3
  clear u1 U
  have lt1 := blk_lt k1
  have lt3 := blk_lt k3
  go_wp2_with fail
  clear lt1 lt3
  refine (H2.out _ U1).mono ?_
  rintro e w2 ⟨rfl, u2⟩
  have U2 := U1.trans u2
  replace k1 := u2.blk k1
  replace k2 := u2.blk k2
  replace k3 := u2.blk k3
  clear u2 U1
  have z2 := frozB k2
  have UE := (Up.set (Up.set (Up.set (Up.set (Up.set (Up.set (Up.set (Up.set (Up.set U2 (p := ⟨w.heap.size + 1, 0, none⟩) n0 (.int .i64 0)) (p := ⟨w.heap.size + 1, 1, none⟩) n0 (.slice none 0 0)) (p := ⟨w.heap.size + 1, 2, none⟩) n0 (.slice none 0 0)) (p := ⟨w.heap.size + 1, 3, none⟩) n0 (.slice none 0 0)) (p := ⟨w.heap.size + 1, 4, none⟩) n0 (.bool false)) (p := ⟨w.heap.size + 1, 5, none⟩) n0 (.bool false)) (p := ⟨w.heap.size + 1, 6, none⟩) n0 (.bool false)) (p := ⟨w.heap.size + 1, 7, none⟩) n0 (.bool false)) (p := ⟨w.heap.size + 1, 8, none⟩) n0 (.bool false))
  have c := cellB (blk_put (blk_put (blk_put (blk_put (blk_put (blk_put (blk_put (blk_put (blk_put k2 0 (.int .i64 0)) 1 (.slice none 0 0)) 2 (.slice none 0 0)) 3 (.slice none 0 0)) 4 (.bool false)) 5 (.bool false)) 6 (.bool false)) 7 (.bool false)) 8 (.bool false))
  have C := Lib.hid c
  have lt3 := blk_lt k3
  have lt2 := blk_lt k2
  clear c n0
  go_wp2_with fail
  have c := C.out
  exact bodyPost_ret (v := .tuple #[CeZ, .int .i64 20]) (by simp [results, Try.results49, go_sem, c]) rfl ⟨rfl, UE⟩
set_option maxRecDepth 100000 in
set_option maxHeartbeats 2000000 in
theorem newCellar_no3 {w : World} (I : Sps w (.slice aR nR cR) rs) (IO : Ops w (.slice aO nO cO) os) (IP : Prs w (.slice aP nP cP) ps) (h1 : T.hasClk H rs = true) (h2 : (decide (os.length ≤ 6) && os.all (T.openOk H nR)) = true) (h3 : (decide (ps.length ≤ 14) && ps.all (T.pairOk H nR)) = false) : Calls Try.prog 49 #[ClV H (.slice aR nR cR) (.slice aO nO cO) (.slice aP nP cP)] w fun e w' => e = .returned (.tuple #[CeZ, .int .i64 20]) ∧ Up w w' := by
  have U := (((Up.refl w).alloc (.cells #[.int .i64 H, .slice aR nR cR, .slice aO nO cO, .slice aP nP cP] 26)).alloc (.cells (CeC 0 (.slice none 0 0) (.slice none 0 0) (.slice none 0 0) false false false false false) 79)).alloc (.cells (CeC H (.slice aR nR cR) (.slice aO nO cO) (.slice aP nP cP) false false false false false) 79)
  have k2 := blk_keep (.cells (CeC H (.slice aR nR cR) (.slice aO nO cO) (.slice aP nP cP) false false false false false) 79) (blk_new (w.alloc (.cells #[.int .i64 H, .slice aR nR cR, .slice aO nO cO, .slice aP nP cP] 26)) (.cells (CeC 0 (.slice none 0 0) (.slice none 0 0) (.slice none 0 0) false false false false false) 79) (w.heap.size + 1) (by simp))
  have k1 := blk_keep (.cells (CeC H (.slice aR nR cR) (.slice aO nO cO) (.slice aP nP cP) false false false false false) 79) (blk_keep (.cells (CeC 0 (.slice none 0 0) (.slice none 0 0) (.slice none 0 0) false false false false false) 79) (blk_new w (.cells #[.int .i64 H, .slice aR nR cR, .slice aO nO cO, .slice aP nP cP] 26) _ rfl))
  have k3 := blk_new ((w.alloc (.cells #[.int .i64 H, .slice aR nR cR, .slice aO nO cO, .slice aP nP cP] 26)).alloc (.cells (CeC 0 (.slice none 0 0) (.slice none 0 0) (.slice none 0 0) false false false false false) 79)) (.cells (CeC H (.slice aR nR cR) (.slice aO nO cO) (.slice aP nP cP) false false false false false) 79) (w.heap.size + 1 + 1) (by simp)
  have hl := I.max
  have hn := I.len
  have n0 : w.heap.size ≤ w.heap.size + 1 := by omega
  have H1 := Lib.hid (fun w' (up : Up w w') => hasClocks_any (H := H) (aR := aR) (aO := aO) (aP := aP) (nR := nR) (cR := cR) (nO := nO) (cO := cO) (nP := nP) (cP := cP) (b0 := false) (b1 := false) (b2 := false) (b3 := false) (b4 := false) (I.up up))
  have hH : -9223372036854775807 ≤ H ∧ H ≤ 9223372036854775807 := by have := T.hasClk_H h1; omega
  have H2 := Lib.hid (fun w' (up : Up w w') => allOpen_any (H := H) (aR := aR) (aO := aO) (aP := aP) (nR := nR) (cR := cR) (nO := nO) (cO := cO) (nP := nP) (cP := cP) (b0 := false) (b1 := false) (b2 := false) (b3 := false) (b4 := false) (by omega) hH (IO.up up) 6)
  have H3 := Lib.hid (fun w' (up : Up w w') => allPair_any (H := H) (aR := aR) (aO := aO) (aP := aP) (nR := nR) (cR := cR) (nO := nO) (cO := cO) (nP := nP) (cP := cP) (b0 := false) (b1 := false) (b2 := false) (b3 := false) (b4 := false) (by omega) hH (IP.up up) 14)
  rw [h1] at H1
  rw [h2] at H2
  rw [h3] at H3
  clear h1 h2 h3 hH hn
  go_enter Try.func49, Try.ntmps49
  go_wp2_with fail
  refine (H1.out _ U).mono ?_
  rintro e w1 ⟨rfl, u1⟩
  have U1 := U.trans u1
  replace k1 := u1.blk k1
  replace k2 := u1.blk k2
  replace k3 := u1.blk k3
  clear u1 U
  have lt1 := blk_lt k1
  have lt3 := blk_lt k3
  go_wp2_with fail
  clear lt1 lt3
  refine (H2.out _ U1).mono ?_
  rintro e w2 ⟨rfl, u2⟩
  have U2 := U1.trans u2
  replace k1 := u2.blk k1
  replace k2 := u2.blk k2
  replace k3 := u2.blk k3
  clear u2 U1
  have lt1 := blk_lt k1
  have lt3 := blk_lt k3
  go_wp2_with fail
  clear lt1 lt3
  refine (H3.out _ U2).mono ?_
  rintro e w3 ⟨rfl, u3⟩
  have U3 := U2.trans u3
  replace k1 := u3.blk k1
  replace k2 := u3.blk k2
  replace k3 := u3.blk k3
  clear u3 U2
  have z2 := frozB k2
  have UE := (Up.set (Up.set (Up.set (Up.set (Up.set (Up.set (Up.set (Up.set (Up.set U3 (p := ⟨w.heap.size + 1, 0, none⟩) n0 (.int .i64 0)) (p := ⟨w.heap.size + 1, 1, none⟩) n0 (.slice none 0 0)) (p := ⟨w.heap.size + 1, 2, none⟩) n0 (.slice none 0 0)) (p := ⟨w.heap.size + 1, 3, none⟩) n0 (.slice none 0 0)) (p := ⟨w.heap.size + 1, 4, none⟩) n0 (.bool false)) (p := ⟨w.heap.size + 1, 5, none⟩) n0 (.bool false)) (p := ⟨w.heap.size + 1, 6, none⟩) n0 (.bool false)) (p := ⟨w.heap.size + 1, 7, none⟩) n0 (.bool false)) (p := ⟨w.heap.size + 1, 8, none⟩) n0 (.bool false))
  have c := cellB (blk_put (blk_put (blk_put (blk_put (blk_put (blk_put (blk_put (blk_put (blk_put k2 0 (.int .i64 0)) 1 (.slice none 0 0)) 2 (.slice none 0 0)) 3 (.slice none 0 0)) 4 (.bool false)) 5 (.bool false)) 6 (.bool false)) 7 (.bool false)) 8 (.bool false))
  have C := Lib.hid c
  have lt3 := blk_lt k3
  have lt2 := blk_lt k2
  clear c n0
  go_wp2_with fail
  have c := C.out
  exact bodyPost_ret (v := .tuple #[CeZ, .int .i64 20]) (by simp [results, Try.results49, go_sem, c]) rfl ⟨rfl, UE⟩
set_option maxRecDepth 100000 in
set_option maxHeartbeats 2000000 in
theorem newCellar_ok {w : World} (I : Sps w (.slice aR nR cR) rs) (IO : Ops w (.slice aO nO cO) os) (IP : Prs w (.slice aP nP cP) ps) (h1 : T.hasClk H rs = true) (h2 : (decide (os.length ≤ 6) && os.all (T.openOk H nR)) = true) (h3 : (decide (ps.length ≤ 14) && ps.all (T.pairOk H nR)) = true) : Calls Try.prog 49 #[ClV H (.slice aR nR cR) (.slice aO nO cO) (.slice aP nP cP)] w fun e w' => e = .returned (.tuple #[CeV H (.slice aR nR cR) (.slice aO nO cO) (.slice aP nP cP) false false false false false, .int .i64 0]) ∧ Up w w' := by
  have U := (((Up.refl w).alloc (.cells #[.int .i64 H, .slice aR nR cR, .slice aO nO cO, .slice aP nP cP] 26)).alloc (.cells (CeC 0 (.slice none 0 0) (.slice none 0 0) (.slice none 0 0) false false false false false) 79)).alloc (.cells (CeC H (.slice aR nR cR) (.slice aO nO cO) (.slice aP nP cP) false false false false false) 79)
  have k2 := blk_keep (.cells (CeC H (.slice aR nR cR) (.slice aO nO cO) (.slice aP nP cP) false false false false false) 79) (blk_new (w.alloc (.cells #[.int .i64 H, .slice aR nR cR, .slice aO nO cO, .slice aP nP cP] 26)) (.cells (CeC 0 (.slice none 0 0) (.slice none 0 0) (.slice none 0 0) false false false false false) 79) (w.heap.size + 1) (by simp))
  have k1 := blk_keep (.cells (CeC H (.slice aR nR cR) (.slice aO nO cO) (.slice aP nP cP) false false false false false) 79) (blk_keep (.cells (CeC 0 (.slice none 0 0) (.slice none 0 0) (.slice none 0 0) false false false false false) 79) (blk_new w (.cells #[.int .i64 H, .slice aR nR cR, .slice aO nO cO, .slice aP nP cP] 26) _ rfl))
  have k3 := blk_new ((w.alloc (.cells #[.int .i64 H, .slice aR nR cR, .slice aO nO cO, .slice aP nP cP] 26)).alloc (.cells (CeC 0 (.slice none 0 0) (.slice none 0 0) (.slice none 0 0) false false false false false) 79)) (.cells (CeC H (.slice aR nR cR) (.slice aO nO cO) (.slice aP nP cP) false false false false false) 79) (w.heap.size + 1 + 1) (by simp)
  have hl := I.max
  have hn := I.len
  have n0 : w.heap.size ≤ w.heap.size + 1 := by omega
  have H1 := Lib.hid (fun w' (up : Up w w') => hasClocks_any (H := H) (aR := aR) (aO := aO) (aP := aP) (nR := nR) (cR := cR) (nO := nO) (cO := cO) (nP := nP) (cP := cP) (b0 := false) (b1 := false) (b2 := false) (b3 := false) (b4 := false) (I.up up))
  have hH : -9223372036854775807 ≤ H ∧ H ≤ 9223372036854775807 := by have := T.hasClk_H h1; omega
  have H2 := Lib.hid (fun w' (up : Up w w') => allOpen_any (H := H) (aR := aR) (aO := aO) (aP := aP) (nR := nR) (cR := cR) (nO := nO) (cO := cO) (nP := nP) (cP := cP) (b0 := false) (b1 := false) (b2 := false) (b3 := false) (b4 := false) (by omega) hH (IO.up up) 6)
  have H3 := Lib.hid (fun w' (up : Up w w') => allPair_any (H := H) (aR := aR) (aO := aO) (aP := aP) (nR := nR) (cR := cR) (nO := nO) (cO := cO) (nP := nP) (cP := cP) (b0 := false) (b1 := false) (b2 := false) (b3 := false) (b4 := false) (by omega) hH (IP.up up) 14)
  rw [h1] at H1
  rw [h2] at H2
  rw [h3] at H3
  clear h1 h2 h3 hH hn
  go_enter Try.func49, Try.ntmps49
  go_wp2_with fail
  refine (H1.out _ U).mono ?_
  rintro e w1 ⟨rfl, u1⟩
  have U1 := U.trans u1
  replace k1 := u1.blk k1
  replace k2 := u1.blk k2
  replace k3 := u1.blk k3
  clear u1 U
  have lt1 := blk_lt k1
  have lt3 := blk_lt k3
  go_wp2_with fail
  clear lt1 lt3
  refine (H2.out _ U1).mono ?_
  rintro e w2 ⟨rfl, u2⟩
  have U2 := U1.trans u2
  replace k1 := u2.blk k1
  replace k2 := u2.blk k2
  replace k3 := u2.blk k3
  clear u2 U1
  have lt1 := blk_lt k1
  have lt3 := blk_lt k3
  go_wp2_with fail
  clear lt1 lt3
  refine (H3.out _ U2).mono ?_
  rintro e w3 ⟨rfl, u3⟩
  have U3 := U2.trans u3
  replace k1 := u3.blk k1
  replace k2 := u3.blk k2
  replace k3 := u3.blk k3
  clear u3 U2
  have z2 := frozB k2
  have UE := (Up.set (Up.set (Up.set (Up.set (Up.set (Up.set (Up.set (Up.set (Up.set U3 (p := ⟨w.heap.size + 1, 0, none⟩) n0 (.int .i64 H)) (p := ⟨w.heap.size + 1, 1, none⟩) n0 (.slice aR nR cR)) (p := ⟨w.heap.size + 1, 2, none⟩) n0 (.slice aO nO cO)) (p := ⟨w.heap.size + 1, 3, none⟩) n0 (.slice aP nP cP)) (p := ⟨w.heap.size + 1, 4, none⟩) n0 (.bool false)) (p := ⟨w.heap.size + 1, 5, none⟩) n0 (.bool false)) (p := ⟨w.heap.size + 1, 6, none⟩) n0 (.bool false)) (p := ⟨w.heap.size + 1, 7, none⟩) n0 (.bool false)) (p := ⟨w.heap.size + 1, 8, none⟩) n0 (.bool false))
  have c := cellB (blk_put (blk_put (blk_put (blk_put (blk_put (blk_put (blk_put (blk_put (blk_put k2 0 (.int .i64 H)) 1 (.slice aR nR cR)) 2 (.slice aO nO cO)) 3 (.slice aP nP cP)) 4 (.bool false)) 5 (.bool false)) 6 (.bool false)) 7 (.bool false)) 8 (.bool false))
  have C := Lib.hid c
  have lt3 := blk_lt k3
  have lt2 := blk_lt k2
  clear c n0
  go_wp2_with fail
  have c := C.out
  exact bodyPost_ret (v := .tuple #[CeV H (.slice aR nR cR) (.slice aO nO cO) (.slice aP nP cP) false false false false false, .int .i64 0]) (by simp [results, Try.results49, go_sem, c]) rfl ⟨rfl, UE⟩
theorem newCellar_yes {w : World} (I : Sps w (.slice aR nR cR) rs) (IO : Ops w (.slice aO nO cO) os) (IP : Prs w (.slice aP nP cP) ps) (h : T.valid H rs os ps = true) : Calls Try.prog 49 #[ClV H (.slice aR nR cR) (.slice aO nO cO) (.slice aP nP cP)] w fun e w' => e = .returned (.tuple #[CeV H (.slice aR nR cR) (.slice aO nO cO) (.slice aP nP cP) false false false false false, .int .i64 0]) ∧ Up w w' := by
  unfold T.valid at h
  rw [Bool.and_eq_true, Bool.and_eq_true] at h
  have hn := I.len
  rw [← hn] at h
  exact newCellar_ok I IO IP h.1 h.2.1 h.2.2
theorem newCellar_no {w : World} (I : Sps w (.slice aR nR cR) rs) (IO : Ops w (.slice aO nO cO) os) (IP : Prs w (.slice aP nP cP) ps) (h : T.valid H rs os ps = false) : Calls Try.prog 49 #[ClV H (.slice aR nR cR) (.slice aO nO cO) (.slice aP nP cP)] w fun e w' => e = .returned (.tuple #[CeZ, .int .i64 20]) ∧ Up w w' := by
  unfold T.valid at h
  have hn := I.len
  rw [← hn] at h
  cases h1 : T.hasClk H rs with
  | false => exact newCellar_no1 I IO IP h1
  | true =>
    cases h2 : (decide (os.length ≤ 6) && os.all (T.openOk H nR)) with
    | false => exact newCellar_no2 I IO IP h1 h2
    | true => exact newCellar_no3 I IO IP h1 h2 (by rw [h1, h2, Bool.true_and, Bool.true_and] at h; exact h)
end

end Go.Proofs.Ytcmdaiklkdeanaa
