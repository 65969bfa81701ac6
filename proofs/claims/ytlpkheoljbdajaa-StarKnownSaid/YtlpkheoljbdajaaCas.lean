import Derived.Test.YtlpkheoljbdajaaTrt
/- The contract of Case. -/
namespace Go.Proofs.Ytlpkheoljbdajaa
open Go.RowKit Go.Shelf
attribute [local go_sem] Oper.semAt_some

/-- a truth told as three lists -/
def T.Told3 (base : Nat) (w : World) (N nP nQ : Nat) (y : Int → Int) (vO vE vA : Value) : Prop :=
  T.Lay base w vO (T.out false y 1 N) ∧ T.Lay base w vE (T.out true y 9 nP) ∧ T.Lay base w vA (T.out false y 13 nQ)
theorem T.out_neg (b : Bool) (y : Int → Int) (a : Int) (n : Nat) : T.out b y a n = T.out (!b) (fun i => -y i) a n := by
  unfold T.out
  refine List.map_congr_left fun k _ => ?_
  cases b <;> simp
/-- what Case answers: numbers of which each lies as far to a side as it can -/
def T.CaseR (N : Nat) (nP nQ : Nat) (ts : List T.T4) (up : Bool) (base : Nat) (e : Ending) (w' : World) : Prop :=
  (e = .returned (.tuple #[.agg #[.slice none 0 0, .slice none 0 0, .slice none 0 0], .int .i64 32]) ∧ ∀ y, ¬ T.Sat true ts y) ∨
  ∃ y vO vE vA, e = .returned (.tuple #[.agg #[vO, vE, vA], .int .i64 0]) ∧ T.Told3 base w' N nP nQ y vO vE vA ∧ T.Sat true ts y ∧ y 0 = 0 ∧ ∀ z, T.Sat true ts z → ∀ i, T.Alive N nP nQ i → if up then z i - z 0 ≤ y i else y i ≤ z i - z 0
section
variable {N : Nat} {bl bh rl rh : Int} {aP aQ aL aT aC : Option Addr} {nP cP nQ cQ nL cL nT cT nC cC : Nat} {ps qs : List (Int × Int)} {ls : List T.T5}
set_option maxRecDepth 100000 in
set_option maxHeartbeats 1000000 in
theorem Case_bad {w : World} {M n : Int} {b : Bool} (I : Sps w (.slice aP nP cP) ps) (J : Sps w (.slice aQ nQ cQ) qs) (K : Lks w (.slice aL nL cL) ls) {eq : Int} (hq : T.qErr M bl bh rl rh ps qs ls 2 [n] = eq) (h0 : eq ≠ 0) :
    Calls Try.prog 30 #[BoV M bl bh rl rh (.slice aP nP cP) (.slice aQ nQ cQ) (.slice aL nL cL), .int .i64 n, .bool b] w fun e w' => e = .returned (.tuple #[.agg #[.slice none 0 0, .slice none 0 0, .slice none 0 0], .int .i64 eq]) ∧ Up w w' := by
  have HN := Lib.hid (fun w' (u : Up w w') (ac : Option Addr) (nc cc : Nat) (C : Ints w' (.slice ac nc cc) [n]) => newQuestion_bad (I.up u) (J.up u) (K.up u) C (by omega) hq h0)
  have hb : (eq != 0) = true := by rw [bne_iff_ne]; exact h0
  clear I J K hq
  go_enter Try.func30, Try.ntmps30
  go_wp2_with fail
  obtain ⟨W0, hW0⟩ : ∃ x, ((w.alloc (.cells (BoC M bl bh rl rh (.slice aP nP cP) (.slice aQ nQ cQ) (.slice aL nL cL)) 27)).alloc (.cells #[.slice none 0 0, .slice none 0 0, .slice none 0 0] 30)).alloc (.cells #[.int .i64 n] 3) = x := ⟨_, rfl⟩
  obtain ⟨q0, e0⟩ : ∃ x, w.heap.size = x := ⟨_, rfl⟩
  obtain ⟨q1, e1⟩ : ∃ x, q0 + 1 = x := ⟨_, rfl⟩
  obtain ⟨q2, e2⟩ : ∃ x, q1 + 1 = x := ⟨_, rfl⟩
  have U0 : Up w W0 := by rw [← hW0]; exact (((Up.refl w).alloc _).alloc _).alloc _
  have kR : mblk W0 q1 = some (.cells #[.slice none 0 0, .slice none 0 0, .slice none 0 0] 30 (0, 0)) := by rw [← hW0]; exact blk_keep _ (blk_new _ _ _ (by simp; omega))
  have kC : mblk W0 q2 = some (.cells #[.int .i64 n] 3 (0, 0)) := by rw [← hW0]; exact blk_new _ _ _ (by simp; omega)
  rw [hW0, e0, e1, e2]
  clear hW0
  refine (HN.out W0 U0 _ _ _ (ints1 kC)).mono ?_
  rintro e W1 ⟨rfl, u1⟩
  replace kR := u1.blk kR
  have lR := blk_lt kR
  have UW := U0.trans u1
  clear HN U0 kC u1
  have kR2 := blk_keep (.cells #[.int .i64 0, .int .i64 0, .int .i64 0, .int .i64 0, .int .i64 0, .slice none 0 0, .slice none 0 0, .slice none 0 0, .bool false, .bool false, .bool false, .bool false, .bool false, .bool false, .bool false, .bool false, .bool false, .bool false, .slice none 0 0] 90) kR
  have fR := frozB kR
  have fR2 := frozB kR2
  have cR := cellB kR
  have cR2 := cellB kR2
  have hst : (webStore (.pointer (some ⟨W1.heap.size, 0, none⟩)) WeZ).run Try.prog (W1.alloc (.cells #[.int .i64 0, .int .i64 0, .int .i64 0, .int .i64 0, .int .i64 0, .slice none 0 0, .slice none 0 0, .slice none 0 0, .bool false, .bool false, .bool false, .bool false, .bool false, .bool false, .bool false, .bool false, .bool false, .bool false, .slice none 0 0] 90)) = .ok () (W1.alloc (.cells #[.int .i64 0, .int .i64 0, .int .i64 0, .int .i64 0, .int .i64 0, .slice none 0 0, .slice none 0 0, .slice none 0 0, .bool false, .bool false, .bool false, .bool false, .bool false, .bool false, .bool false, .bool false, .bool false, .bool false, .slice none 0 0] 90)) := by
    have q := run_webStore_row (W1.alloc (.cells #[.int .i64 0, .int .i64 0, .int .i64 0, .int .i64 0, .int .i64 0, .slice none 0 0, .slice none 0 0, .slice none 0 0, .bool false, .bool false, .bool false, .bool false, .bool false, .bool false, .bool false, .bool false, .bool false, .bool false, .slice none 0 0] 90)) W1.heap.size #[.int .i64 0, .int .i64 0, .int .i64 0, .int .i64 0, .int .i64 0, .slice none 0 0, .slice none 0 0, .slice none 0 0, .bool false, .bool false, .bool false, .bool false, .bool false, .bool false, .bool false, .bool false, .bool false, .bool false, .slice none 0 0] #[.int .i64 0, .int .i64 0, .int .i64 0, .int .i64 0, .int .i64 0, .slice none 0 0, .slice none 0 0, .slice none 0 0, .bool false, .bool false, .bool false, .bool false, .bool false, .bool false, .bool false, .bool false, .bool false, .bool false, .slice none 0 0] (blk_new _ _ _ rfl) rfl ⟨rfl, by simp [Value.oneCell']⟩
    rw [setRow_new _ _ _ _ _ rfl] at q
    exact q
  go_wp2_with fail
  obtain ⟨Z, hZ⟩ : ∃ z, (((W1.setCell ⟨q1, 0, none⟩ (.slice none 0 0)).setCell ⟨q1, 1, none⟩ (.slice none 0 0)).setCell ⟨q1, 2, none⟩ (.slice none 0 0)).alloc (.cells #[.int .i64 0, .int .i64 0, .int .i64 0, .int .i64 0, .int .i64 0, .slice none 0 0, .slice none 0 0, .slice none 0 0, .bool false, .bool false, .bool false, .bool false, .bool false, .bool false, .bool false, .bool false, .bool false, .bool false, .slice none 0 0] 90) = z := ⟨_, rfl⟩
  have UZ : Up w Z := by rw [← hZ]; exact (((UW.set (p := ⟨q1, 0, none⟩) (by show w.heap.size ≤ q1; omega) _).set (p := ⟨q1, 1, none⟩) (by show w.heap.size ≤ q1; omega) _).set (p := ⟨q1, 2, none⟩) (by show w.heap.size ≤ q1; omega) _).alloc _
  have cZ : ∀ j, Z.cell? ⟨q1, j, none⟩ = (#[.slice none 0 0, .slice none 0 0, .slice none 0 0] : Array Value)[j]? := by rw [← hZ]; exact cellB (blk_keep _ (blk_put (blk_put (blk_put kR 0 _) 1 _) 2 _))
  rw [hZ]
  exact bodyPost_ret (v := .tuple #[.agg #[.slice none 0 0, .slice none 0 0, .slice none 0 0], .int .i64 eq]) (by simp [results, Try.results30, go_sem, cZ]) rfl ⟨rfl, UZ⟩
set_option maxRecDepth 100000 in
set_option maxHeartbeats 2000000 in
theorem Case_hi {w : World} {n : Int} (I : Sps w (.slice aP nP cP) ps) (J : Sps w (.slice aQ nQ cQ) qs) (K : Lks w (.slice aL nL cL) ls) (hq : T.qErr N bl bh rl rh ps qs ls 2 [n] = 0) :
    Calls Try.prog 30 #[BoV (N : Int) bl bh rl rh (.slice aP nP cP) (.slice aQ nQ cQ) (.slice aL nL cL), .int .i64 n, .bool true] w fun e w' => T.CaseR N ps.length qs.length (T.web N bl bh rl rh ps qs ls T.o0) true w.heap.size e w' ∧ Up w w' := by
  obtain ⟨hv, ha⟩ := T.qErr_ok hq
  have G := T.valid_bok hv
  have W := T.valid_web hv T.o0
  have hn1 := I.len
  have hn2 := J.len
  have n8 := G.n8
  have p4 := G.p4
  have q4 := G.q4
  have HN := Lib.hid (fun w' (u : Up w w') (ac : Option Addr) (nc cc : Nat) (C : Ints w' (.slice ac nc cc) [n]) => newQuestion_yes (I.up u) (J.up u) (K.up u) C (by omega) hv ha)
  have HF := Lib.hid (fun aT nT cT w0 w' (IT : Tis w0 (.slice aT nT cT) _) (u : Up w0 w') => farthest_up (N := (N : Int)) (bl := bl) (bh := bh) (rl := rl) (rh := rh) (aP := aP) (nP := nP) (cP := cP) (aQ := aQ) (nQ := nQ) (cQ := cQ) (aL := aL) (nL := nL) (cL := cL) (o := T.o0) IT u W.tin W.len (m := 0) (by omega))
  have HY := Lib.hid (fun cs r (h : T.FarIs true (T.web N bl bh rl rh ps qs ls T.o0) 0 cs r) => h.yes (by omega) W.tin (fun t ht => W.con 0 _ (.inl rfl) (W.ali t ht).2))
  have HC := Lib.hid (fun cs r (h : T.FarIs true (T.web N bl bh rl rh ps qs ls T.o0) 0 cs r) => h.oc W.tin W.len)
  have HW := Lib.hid W
  have HT := Lib.hid (fun (cs : Array Value) (y : Int → Int) w' (h1 : T.OC cs y) h2 => truth_up (N := N) (bl := bl) (bh := bh) (rl := rl) (rh := rh) (aP := aP) (nP := nP) (cP := cP) (aQ := aQ) (nQ := nQ) (cQ := cQ) (aL := aL) (nL := nL) (cL := cL) (o := T.o0) (w := w') n8 (by omega) (by omega) h1 h2)
  clear I J K hq hv ha G W n8 p4 q4
  subst hn1 hn2
  go_enter Try.func30, Try.ntmps30
  go_wp2_with fail
  obtain ⟨W0, hW0⟩ : ∃ x, ((w.alloc (.cells (BoC (N : Int) bl bh rl rh (.slice aP ps.length cP) (.slice aQ qs.length cQ) (.slice aL nL cL)) 27)).alloc (.cells #[.slice none 0 0, .slice none 0 0, .slice none 0 0] 30)).alloc (.cells #[.int .i64 n] 3) = x := ⟨_, rfl⟩
  obtain ⟨q0, e0⟩ : ∃ x, w.heap.size = x := ⟨_, rfl⟩
  obtain ⟨q1, e1⟩ : ∃ x, q0 + 1 = x := ⟨_, rfl⟩
  obtain ⟨q2, e2⟩ : ∃ x, q1 + 1 = x := ⟨_, rfl⟩
  have U0 : Up w W0 := by rw [← hW0]; exact (((Up.refl w).alloc _).alloc _).alloc _
  have kR : mblk W0 q1 = some (.cells #[.slice none 0 0, .slice none 0 0, .slice none 0 0] 30 (0, 0)) := by rw [← hW0]; exact blk_keep _ (blk_new _ _ _ (by simp; omega))
  have kC : mblk W0 q2 = some (.cells #[.int .i64 n] 3 (0, 0)) := by rw [← hW0]; exact blk_new _ _ _ (by simp; omega)
  rw [hW0, e0, e1, e2]
  clear hW0
  refine (HN.out W0 U0 _ _ _ (ints1 kC)).mono ?_
  rintro e W1 ⟨⟨aT, nT, cT, rfl, hT⟩, u1⟩
  replace kR := u1.blk kR
  have UW := U0.trans u1
  clear HN U0 kC u1
  obtain ⟨W2, hW2⟩ : ∃ z, W1.alloc (.cells (WeC (N : Int) bl bh rl rh (.slice aP ps.length cP) (.slice aQ qs.length cQ) (.slice aL nL cL) T.o0 (.slice aT nT cT)) 90) = z := ⟨_, rfl⟩
  obtain ⟨q8, e8⟩ : ∃ z, W1.heap.size = z := ⟨_, rfl⟩
  have u2 : Up W1 W2 := by rw [← hW2]; exact (Up.refl W1).alloc _
  have kW : mblk W2 q8 = some (.cells (WeC (N : Int) bl bh rl rh (.slice aP ps.length cP) (.slice aQ qs.length cQ) (.slice aL nL cL) T.o0 (.slice aT nT cT)) 90 (0, 0)) := by rw [← hW2]; exact blk_new _ _ _ e8.symm
  replace kR := u2.blk kR
  replace UW := UW.trans u2
  have HT2 := Lib.hid (hT.up u2)
  clear hT u2
  go_wp2_with fail
  try rw [hW2, e8]
  clear hW2
  refine (sideOf_up W2).mono ?_
  rintro e W3 ⟨rfl, u3⟩
  replace kW := u3.blk kW
  replace kR := u3.blk kR
  replace UW := UW.trans u3
  obtain ⟨W4, hW4⟩ : ∃ z, W3.alloc (.cells #[.func (.func 117) #[] #[], .int .i64 1] 108) = z := ⟨_, rfl⟩
  obtain ⟨q10, e10⟩ : ∃ z, W3.heap.size = z := ⟨_, rfl⟩
  have u4 : Up W3 W4 := by rw [← hW4]; exact (Up.refl W3).alloc _
  have kD : mblk W4 q10 = some (.cells #[.func (.func 117) #[] #[], .int .i64 1] 108 (0, 0)) := by rw [← hW4]; exact blk_new _ _ _ e10.symm
  replace kW := u4.blk kW
  replace kR := u4.blk kR
  replace UW := UW.trans u4
  have HU4 := Lib.hid (u3.trans u4)
  clear u3 u4
  go_wp2_with fail
  try rw [hW4, e10]
  clear hW4
  refine (HF.out _ _ _ _ W4 HT2.out HU4.out).mono ?_
  rintro e W5 ⟨⟨cs, r, rfl, hF⟩, u5⟩
  replace kW := u5.blk kW
  replace kR := u5.blk kR
  replace kD := u5.blk kD
  replace UW := UW.trans u5
  have hok : Ok17 cs := by
    obtain ⟨_, hO, _⟩ := HC.out cs r hF
    exact hO.one
  have hsz := Lib.hid hok.1
  have HZ := Lib.hid NZ_size
  obtain ⟨W6, hW6⟩ : ∃ z, W5.alloc (.cells cs 85) = z := ⟨_, rfl⟩
  obtain ⟨q11, e11⟩ : ∃ z, W5.heap.size = z := ⟨_, rfl⟩
  have u6 : Up W5 W6 := by rw [← hW6]; exact (Up.refl W5).alloc _
  have kN : mblk W6 q11 = some (.cells cs 85 (0, 0)) := by rw [← hW6]; exact blk_new _ _ _ e11.symm
  replace kW := u6.blk kW
  replace kR := u6.blk kR
  replace kD := u6.blk kD
  replace UW := UW.trans u6
  have hy := Lib.hid (HY.out cs r hF)
  clear u5 u6 HF HY HC hF HT2 HU4
  cases r with
  | false =>
    have HR := Lib.hid (show ∀ y, ¬ T.Sat true (T.web N bl bh rl rh ps qs ls T.o0) y by
      rcases hy.out with ⟨e, _⟩ | ⟨_, _, h⟩
      · cases e
      · exact h)
    have fR := frozB kR
    have cR := cellB kR
    have lR := blk_lt kR
    clear hy HT kW kD kN HW
    go_wp2_with fail
    try rw [hW6]
    obtain ⟨Z, hZ⟩ : ∃ z, ((W6.setCell ⟨q1, 0, none⟩ (.slice none 0 0)).setCell ⟨q1, 1, none⟩ (.slice none 0 0)).setCell ⟨q1, 2, none⟩ (.slice none 0 0) = z := ⟨_, rfl⟩
    have UZ : Up w Z := by rw [← hZ]; exact ((UW.set (p := ⟨q1, 0, none⟩) (by show w.heap.size ≤ q1; omega) _).set (p := ⟨q1, 1, none⟩) (by show w.heap.size ≤ q1; omega) _).set (p := ⟨q1, 2, none⟩) (by show w.heap.size ≤ q1; omega) _
    have cZ : ∀ j, Z.cell? ⟨q1, j, none⟩ = (#[.slice none 0 0, .slice none 0 0, .slice none 0 0] : Array Value)[j]? := by rw [← hZ]; exact cellB (blk_put (blk_put (blk_put kR 0 _) 1 _) 2 _)
    try rw [hZ]
    exact bodyPost_ret (v := .tuple #[.agg #[.slice none 0 0, .slice none 0 0, .slice none 0 0], .int .i64 32]) (by simp [results, Try.results30, go_sem, cZ]) rfl ⟨.inl ⟨rfl, HR.out⟩, UZ⟩
  | true =>
    have hd : ∃ d, T.OC cs d ∧ d 0 = 0 ∧ T.Sat true (T.web N bl bh rl rh ps qs ls T.o0) d ∧ (∀ i, T.Alive N ps.length qs.length i → -1000000000 ≤ d i ∧ d i ≤ 1000000000) ∧ ∀ y, T.Sat true (T.web N bl bh rl rh ps qs ls T.o0) y → ∀ i, T.Alive N ps.length qs.length i → y i - y 0 ≤ d i := by
      rcases hy.out with ⟨_, d, d1, d2, d3, d4, d5⟩ | ⟨e, _⟩
      · have up : ∀ i, T.Alive N ps.length qs.length i → d i ≤ 200000000 := fun i hi => by
          obtain ⟨m, hm, hR⟩ := HW.out.con 0 i (.inl rfl) hi
          have := d4 m i (by omega) hR
          omega
        refine ⟨d, d1, d2, d3, fun i hi => ⟨?_, by have := up i hi; omega⟩, fun y hs i hi => d5 y hs i (by have := up i hi; unfold T.M; omega)⟩
        obtain ⟨m, hm, hR⟩ := HW.out.con i 0 hi (.inl rfl)
        have := T.Rn.sat HW.out.tin d3 hR
        omega
      · cases e
    obtain ⟨d, hd1, hd2, hd3, hd4, hd5⟩ := hd
    have HD := Lib.hid (And.intro hd2 (And.intro hd3 hd5))
    have HTT := Lib.hid (fun w' => HT.out cs d w' hd1 hd4)
    have lR0 := blk_lt kR
    have hbl := run_bookLoad_web W6 q8 kW
    clear hd1 hd2 hd3 hd4 hd5 hy HT
    go_wp2_with fail
    try rw [hW6, e11]
    clear hW6
    refine (HTT.out _).mono ?_
    rintro e W7 ⟨⟨vO, vE, vA, rfl, hO, hE, hA⟩, u7⟩
    have kR2 := u7.blk kR
    have fR := frozB kR2
    have cR := cellB kR2
    have lR := blk_lt kR2
    have UX := UW.trans u7
    have zz := UW.size
    obtain ⟨aO, nO, cO, rfl⟩ := hO.2.2
    obtain ⟨aE, nE, cE, rfl⟩ := hE.2.2
    obtain ⟨aA, nA, cA, rfl⟩ := hA.2.2
    have HLL := Lib.hid (And.intro hO (And.intro hE hA))
    clear hO hE hA HTT kW kD kN kR u7
    go_wp2_with fail
    obtain ⟨Z, hZ⟩ : ∃ z, ((W7.setCell ⟨q1, 0, none⟩ (.slice aO nO cO)).setCell ⟨q1, 1, none⟩ (.slice aE nE cE)).setCell ⟨q1, 2, none⟩ (.slice aA nA cA) = z := ⟨_, rfl⟩
    have gZ : W7.grownBy Z (some q1) := by rw [← hZ]; exact grown_trans (grown_trans (grown_set W7 q1 0 _) (grown_set _ q1 1 _)) (grown_set _ q1 2 _)
    have cZ : ∀ j, Z.cell? ⟨q1, j, none⟩ = (#[Value.slice aO nO cO, .slice aE nE cE, .slice aA nA cA] : Array Value)[j]? := by rw [← hZ]; exact cellB (blk_put (blk_put (blk_put kR2 0 _) 1 _) 2 _)
    try rw [hZ]
    have fin : ∀ v xs, T.Lay W6.heap.size W7 v xs → T.Lay w.heap.size Z v xs := fun v xs h => ⟨h.1.keep h.2.1 lR0 gZ, fun k e => Nat.le_trans zz (h.2.1 k e), h.2.2⟩
    exact bodyPost_ret (v := .tuple #[.agg #[.slice aO nO cO, .slice aE nE cE, .slice aA nA cA], .int .i64 0]) (by simp [results, Try.results30, go_sem, cZ]) rfl ⟨.inr ⟨d, _, _, _, rfl, ⟨fin _ _ HLL.out.1, fin _ _ HLL.out.2.1, fin _ _ HLL.out.2.2⟩, HD.out.2.1, HD.out.1, fun z hz i hi => by rw [if_pos rfl]; exact HD.out.2.2 z hz i hi⟩, UX.grown gZ (fun k e => by have := Option.some.inj e; omega)⟩
set_option maxRecDepth 100000 in
set_option maxHeartbeats 2000000 in
theorem Case_lo {w : World} {n : Int} (I : Sps w (.slice aP nP cP) ps) (J : Sps w (.slice aQ nQ cQ) qs) (K : Lks w (.slice aL nL cL) ls) (hq : T.qErr N bl bh rl rh ps qs ls 2 [n] = 0) :
    Calls Try.prog 30 #[BoV (N : Int) bl bh rl rh (.slice aP nP cP) (.slice aQ nQ cQ) (.slice aL nL cL), .int .i64 n, .bool false] w fun e w' => T.CaseR N ps.length qs.length (T.web N bl bh rl rh ps qs ls T.o0) false w.heap.size e w' ∧ Up w w' := by
  obtain ⟨hv, ha⟩ := T.qErr_ok hq
  have G := T.valid_bok hv
  have W := T.valid_web hv T.o0
  have hn1 := I.len
  have hn2 := J.len
  have n8 := G.n8
  have p4 := G.p4
  have q4 := G.q4
  have HN := Lib.hid (fun w' (u : Up w w') (ac : Option Addr) (nc cc : Nat) (C : Ints w' (.slice ac nc cc) [n]) => newQuestion_yes (I.up u) (J.up u) (K.up u) C (by omega) hv ha)
  have HF := Lib.hid (fun aT nT cT w0 w' (IT : Tis w0 (.slice aT nT cT) _) (u : Up w0 w') => farthest_dn (N := (N : Int)) (bl := bl) (bh := bh) (rl := rl) (rh := rh) (aP := aP) (nP := nP) (cP := cP) (aQ := aQ) (nQ := nQ) (cQ := cQ) (aL := aL) (nL := nL) (cL := cL) (o := T.o0) IT u W.tin W.len (m := 0) (by omega))
  have HY := Lib.hid (fun cs r (h : T.FarIs false (T.web N bl bh rl rh ps qs ls T.o0) 0 cs r) => h.yes (by omega) W.tin (fun t ht => W.con 0 _ (.inl rfl) (W.ali t ht).2))
  have HC := Lib.hid (fun cs r (h : T.FarIs false (T.web N bl bh rl rh ps qs ls T.o0) 0 cs r) => h.oc W.tin W.len)
  have HW := Lib.hid W
  have HT := Lib.hid (fun (cs : Array Value) (y : Int → Int) w' (h1 : T.OC cs y) h2 => truth_dn (N := N) (bl := bl) (bh := bh) (rl := rl) (rh := rh) (aP := aP) (nP := nP) (cP := cP) (aQ := aQ) (nQ := nQ) (cQ := cQ) (aL := aL) (nL := nL) (cL := cL) (o := T.o0) (w := w') n8 (by omega) (by omega) h1 h2)
  clear I J K hq hv ha G W n8 p4 q4
  subst hn1 hn2
  go_enter Try.func30, Try.ntmps30
  go_wp2_with fail
  obtain ⟨W0, hW0⟩ : ∃ x, ((w.alloc (.cells (BoC (N : Int) bl bh rl rh (.slice aP ps.length cP) (.slice aQ qs.length cQ) (.slice aL nL cL)) 27)).alloc (.cells #[.slice none 0 0, .slice none 0 0, .slice none 0 0] 30)).alloc (.cells #[.int .i64 n] 3) = x := ⟨_, rfl⟩
  obtain ⟨q0, e0⟩ : ∃ x, w.heap.size = x := ⟨_, rfl⟩
  obtain ⟨q1, e1⟩ : ∃ x, q0 + 1 = x := ⟨_, rfl⟩
  obtain ⟨q2, e2⟩ : ∃ x, q1 + 1 = x := ⟨_, rfl⟩
  have U0 : Up w W0 := by rw [← hW0]; exact (((Up.refl w).alloc _).alloc _).alloc _
  have kR : mblk W0 q1 = some (.cells #[.slice none 0 0, .slice none 0 0, .slice none 0 0] 30 (0, 0)) := by rw [← hW0]; exact blk_keep _ (blk_new _ _ _ (by simp; omega))
  have kC : mblk W0 q2 = some (.cells #[.int .i64 n] 3 (0, 0)) := by rw [← hW0]; exact blk_new _ _ _ (by simp; omega)
  rw [hW0, e0, e1, e2]
  clear hW0
  refine (HN.out W0 U0 _ _ _ (ints1 kC)).mono ?_
  rintro e W1 ⟨⟨aT, nT, cT, rfl, hT⟩, u1⟩
  replace kR := u1.blk kR
  have UW := U0.trans u1
  clear HN U0 kC u1
  obtain ⟨W2, hW2⟩ : ∃ z, W1.alloc (.cells (WeC (N : Int) bl bh rl rh (.slice aP ps.length cP) (.slice aQ qs.length cQ) (.slice aL nL cL) T.o0 (.slice aT nT cT)) 90) = z := ⟨_, rfl⟩
  obtain ⟨q8, e8⟩ : ∃ z, W1.heap.size = z := ⟨_, rfl⟩
  have u2 : Up W1 W2 := by rw [← hW2]; exact (Up.refl W1).alloc _
  have kW : mblk W2 q8 = some (.cells (WeC (N : Int) bl bh rl rh (.slice aP ps.length cP) (.slice aQ qs.length cQ) (.slice aL nL cL) T.o0 (.slice aT nT cT)) 90 (0, 0)) := by rw [← hW2]; exact blk_new _ _ _ e8.symm
  replace kR := u2.blk kR
  replace UW := UW.trans u2
  have HT2 := Lib.hid (hT.up u2)
  clear hT u2
  go_wp2_with fail
  try rw [hW2, e8]
  clear hW2
  refine (sideOf_dn W2).mono ?_
  rintro e W3 ⟨rfl, u3⟩
  replace kW := u3.blk kW
  replace kR := u3.blk kR
  replace UW := UW.trans u3
  obtain ⟨W4, hW4⟩ : ∃ z, W3.alloc (.cells #[.func (.func 118) #[] #[], .int .i64 (-1)] 108) = z := ⟨_, rfl⟩
  obtain ⟨q10, e10⟩ : ∃ z, W3.heap.size = z := ⟨_, rfl⟩
  have u4 : Up W3 W4 := by rw [← hW4]; exact (Up.refl W3).alloc _
  have kD : mblk W4 q10 = some (.cells #[.func (.func 118) #[] #[], .int .i64 (-1)] 108 (0, 0)) := by rw [← hW4]; exact blk_new _ _ _ e10.symm
  replace kW := u4.blk kW
  replace kR := u4.blk kR
  replace UW := UW.trans u4
  have HU4 := Lib.hid (u3.trans u4)
  clear u3 u4
  go_wp2_with fail
  try rw [hW4, e10]
  clear hW4
  refine (HF.out _ _ _ _ W4 HT2.out HU4.out).mono ?_
  rintro e W5 ⟨⟨cs, r, rfl, hF⟩, u5⟩
  replace kW := u5.blk kW
  replace kR := u5.blk kR
  replace kD := u5.blk kD
  replace UW := UW.trans u5
  have hok : Ok17 cs := by
    obtain ⟨_, hO, _⟩ := HC.out cs r hF
    exact hO.one
  have hsz := Lib.hid hok.1
  have HZ := Lib.hid NZ_size
  obtain ⟨W6, hW6⟩ : ∃ z, W5.alloc (.cells cs 85) = z := ⟨_, rfl⟩
  obtain ⟨q11, e11⟩ : ∃ z, W5.heap.size = z := ⟨_, rfl⟩
  have u6 : Up W5 W6 := by rw [← hW6]; exact (Up.refl W5).alloc _
  have kN : mblk W6 q11 = some (.cells cs 85 (0, 0)) := by rw [← hW6]; exact blk_new _ _ _ e11.symm
  replace kW := u6.blk kW
  replace kR := u6.blk kR
  replace kD := u6.blk kD
  replace UW := UW.trans u6
  have hy := Lib.hid (HY.out cs r hF)
  clear u5 u6 HF HY HC hF HT2 HU4
  cases r with
  | false =>
    have HR := Lib.hid (show ∀ y, ¬ T.Sat true (T.web N bl bh rl rh ps qs ls T.o0) y by
      rcases hy.out with ⟨e, _⟩ | ⟨_, _, h⟩
      · cases e
      · exact fun y hs => h _ ((HW.out.neg y).1 hs))
    have fR := frozB kR
    have cR := cellB kR
    have lR := blk_lt kR
    clear hy HT kW kD kN HW
    go_wp2_with fail
    try rw [hW6]
    obtain ⟨Z, hZ⟩ : ∃ z, ((W6.setCell ⟨q1, 0, none⟩ (.slice none 0 0)).setCell ⟨q1, 1, none⟩ (.slice none 0 0)).setCell ⟨q1, 2, none⟩ (.slice none 0 0) = z := ⟨_, rfl⟩
    have UZ : Up w Z := by rw [← hZ]; exact ((UW.set (p := ⟨q1, 0, none⟩) (by show w.heap.size ≤ q1; omega) _).set (p := ⟨q1, 1, none⟩) (by show w.heap.size ≤ q1; omega) _).set (p := ⟨q1, 2, none⟩) (by show w.heap.size ≤ q1; omega) _
    have cZ : ∀ j, Z.cell? ⟨q1, j, none⟩ = (#[.slice none 0 0, .slice none 0 0, .slice none 0 0] : Array Value)[j]? := by rw [← hZ]; exact cellB (blk_put (blk_put (blk_put kR 0 _) 1 _) 2 _)
    try rw [hZ]
    exact bodyPost_ret (v := .tuple #[.agg #[.slice none 0 0, .slice none 0 0, .slice none 0 0], .int .i64 32]) (by simp [results, Try.results30, go_sem, cZ]) rfl ⟨.inl ⟨rfl, HR.out⟩, UZ⟩
  | true =>
    have hd : ∃ d, T.OC cs d ∧ d 0 = 0 ∧ T.Sat false (T.web N bl bh rl rh ps qs ls T.o0) d ∧ (∀ i, T.Alive N ps.length qs.length i → -1000000000 ≤ d i ∧ d i ≤ 1000000000) ∧ ∀ y, T.Sat false (T.web N bl bh rl rh ps qs ls T.o0) y → ∀ i, T.Alive N ps.length qs.length i → y i - y 0 ≤ d i := by
      rcases hy.out with ⟨_, d, d1, d2, d3, d4, d5⟩ | ⟨e, _⟩
      · have up : ∀ i, T.Alive N ps.length qs.length i → d i ≤ 200000000 := fun i hi => by
          obtain ⟨m, hm, hR⟩ := HW.out.con 0 i (.inl rfl) hi
          have := d4 m i (by omega) hR
          omega
        refine ⟨d, d1, d2, d3, fun i hi => ⟨?_, by have := up i hi; omega⟩, fun y hs i hi => d5 y hs i (by have := up i hi; unfold T.M; omega)⟩
        obtain ⟨m, hm, hR⟩ := HW.out.con i 0 hi (.inl rfl)
        have := T.Rn.sat HW.out.tin d3 hR
        omega
      · cases e
    obtain ⟨d, hd1, hd2, hd3, hd4, hd5⟩ := hd
    have HD := Lib.hid (And.intro hd2 (And.intro hd3 hd5))
    have HTT := Lib.hid (fun w' => HT.out cs d w' hd1 hd4)
    have lR0 := blk_lt kR
    have hbl := run_bookLoad_web W6 q8 kW
    clear hd1 hd2 hd3 hd4 hd5 hy HT
    go_wp2_with fail
    try rw [hW6, e11]
    clear hW6
    refine (HTT.out _).mono ?_
    rintro e W7 ⟨⟨vO, vE, vA, rfl, hO, hE, hA⟩, u7⟩
    have kR2 := u7.blk kR
    have fR := frozB kR2
    have cR := cellB kR2
    have lR := blk_lt kR2
    have UX := UW.trans u7
    have zz := UW.size
    obtain ⟨aO, nO, cO, rfl⟩ := hO.2.2
    obtain ⟨aE, nE, cE, rfl⟩ := hE.2.2
    obtain ⟨aA, nA, cA, rfl⟩ := hA.2.2
    have HLL := Lib.hid (And.intro hO (And.intro hE hA))
    clear hO hE hA HTT kW kD kN kR u7
    go_wp2_with fail
    obtain ⟨Z, hZ⟩ : ∃ z, ((W7.setCell ⟨q1, 0, none⟩ (.slice aO nO cO)).setCell ⟨q1, 1, none⟩ (.slice aE nE cE)).setCell ⟨q1, 2, none⟩ (.slice aA nA cA) = z := ⟨_, rfl⟩
    have gZ : W7.grownBy Z (some q1) := by rw [← hZ]; exact grown_trans (grown_trans (grown_set W7 q1 0 _) (grown_set _ q1 1 _)) (grown_set _ q1 2 _)
    have cZ : ∀ j, Z.cell? ⟨q1, j, none⟩ = (#[Value.slice aO nO cO, .slice aE nE cE, .slice aA nA cA] : Array Value)[j]? := by rw [← hZ]; exact cellB (blk_put (blk_put (blk_put kR2 0 _) 1 _) 2 _)
    try rw [hZ]
    have fin : ∀ v xs, T.Lay W6.heap.size W7 v xs → T.Lay w.heap.size Z v xs := fun v xs h => ⟨h.1.keep h.2.1 lR0 gZ, fun k e => Nat.le_trans zz (h.2.1 k e), h.2.2⟩
    exact bodyPost_ret (v := .tuple #[.agg #[.slice aO nO cO, .slice aE nE cE, .slice aA nA cA], .int .i64 0]) (by simp [results, Try.results30, go_sem, cZ]) rfl ⟨.inr ⟨fun i => -d i, _, _, _, rfl, ⟨(T.out_neg true d 1 N) ▸ fin _ _ HLL.out.1, (T.out_neg false d 9 ps.length) ▸ fin _ _ HLL.out.2.1, (T.out_neg true d 13 qs.length) ▸ fin _ _ HLL.out.2.2⟩, (HW.out.neg _).2 (by simpa using HD.out.2.1), by simp only [HD.out.1]; omega, fun z hz i hi => by
      rw [if_neg (by simp)]
      have q : -z i - -z 0 ≤ d i := HD.out.2.2 _ ((HW.out.neg z).1 hz) i hi
      show -d i ≤ z i - z 0
      omega⟩, UX.grown gZ (fun k e => by have := Option.some.inj e; omega)⟩
end

end Go.Proofs.Ytlpkheoljbdajaa
