import Derived.Test.YtcmdaiklkdeanaaNwb
/- The contract of newQuestion. -/
namespace Go.Proofs.Ytcmdaiklkdeanaa
open Go.RowKit Go.Shelf
attribute [local go_sem] Oper.semAt_some

/-- the web of nothing -/
abbrev WeZ : Value := WeV 0 (.slice none 0 0) (.slice none 0 0) (.slice none 0 0) false false false false false (.slice none 0 0)
/-- a valid cellar, as what it holds -/
structure T.Good (H : Nat) (rs : List (Int × Int)) (os : List (Int × Int × Int × Int)) (ps : List (Int × Int × Int × Int × Int)) : Prop where
  h1 : 1 ≤ H
  h2 : H ≤ 12
  r1 : 1 ≤ rs.length
  r2 : rs.length ≤ 5
  rsB : ∀ s ∈ rs, T.Bs 1000 s ∧ s.1 ≤ s.2
  osB : ∀ x ∈ os, (0 ≤ x.1 ∧ x.1 < rs.length) ∧ (0 ≤ x.2.1 ∧ x.2.1 < H) ∧ T.Bs 100000 x.2.2 ∧ x.2.2.1 ≤ x.2.2.2
  o6 : os.length ≤ 6
  psB : ∀ x ∈ ps, (0 ≤ x.1 ∧ x.1 ≤ H) ∧ (0 ≤ x.2.1 ∧ x.2.1 < rs.length) ∧ (-1 ≤ x.2.2.1 ∧ x.2.2.1 < rs.length) ∧ x.2.1 ≠ x.2.2.1 ∧ T.Bs 200000 x.2.2.2 ∧ x.2.2.2.1 ≤ x.2.2.2.2
  p14 : ps.length ≤ 14
theorem T.valid_good {H : Nat} {rs : List (Int × Int)} {os : List (Int × Int × Int × Int)} {ps : List (Int × Int × Int × Int × Int)} : T.valid H rs os ps = true ↔ T.Good H rs os ps := by
  have sp : ∀ (l u m : Int), S.spanOk l u m = true ↔ (T.Bs m (l, u) ∧ l ≤ u) := fun l u m => by
    rw [S.spanOk_iff]
    unfold T.Bs
    constructor
    · rintro ⟨a, b, c⟩; exact ⟨⟨⟨by omega, by omega⟩, by omega, by omega⟩, b⟩
    · rintro ⟨⟨⟨a, b⟩, c, d⟩, e⟩; exact ⟨a, e, d⟩
  unfold T.valid T.hasClk
  simp only [Bool.and_eq_true, decide_eq_true_eq, List.all_eq_true, inB_iff]
  have ro : ∀ s : Int × Int, T.rateOk s = true ↔ (T.Bs 1000 s ∧ s.1 ≤ s.2) := fun s => sp s.1 s.2 1000
  have oo : ∀ x : Int × Int × Int × Int, T.openOk H rs.length x = true ↔ (0 ≤ x.1 ∧ x.1 < rs.length) ∧ (0 ≤ x.2.1 ∧ x.2.1 < H) ∧ T.Bs 100000 x.2.2 ∧ x.2.2.1 ≤ x.2.2.2 := fun x => by
    unfold T.openOk
    rw [Bool.and_eq_true, Bool.and_eq_true, inB_iff, inB_iff, sp]
    constructor
    · rintro ⟨a, b, c⟩; exact ⟨⟨a.1, by omega⟩, ⟨b.1, by omega⟩, c⟩
    · rintro ⟨a, b, c⟩; exact ⟨⟨a.1, by omega⟩, ⟨b.1, by omega⟩, c⟩
  have po : ∀ x : Int × Int × Int × Int × Int, T.pairOk H rs.length x = true ↔ (0 ≤ x.1 ∧ x.1 ≤ H) ∧ (0 ≤ x.2.1 ∧ x.2.1 < rs.length) ∧ (-1 ≤ x.2.2.1 ∧ x.2.2.1 < rs.length) ∧ x.2.1 ≠ x.2.2.1 ∧ T.Bs 200000 x.2.2.2 ∧ x.2.2.2.1 ≤ x.2.2.2.2 := fun x => by
    unfold T.pairOk T.isTwo
    rw [Bool.and_eq_true, Bool.and_eq_true, Bool.and_eq_true, Bool.and_eq_true, Bool.or_eq_true, inB_iff, inB_iff, inB_iff, sp]
    simp only [Bool.not_eq_true', beq_eq_false_iff_ne, beq_iff_eq]
    constructor
    · rintro ⟨a, ⟨b, c, d⟩, e⟩; exact ⟨a, ⟨b.1, by omega⟩, by omega, c, e⟩
    · rintro ⟨a, b, c, d, e⟩; exact ⟨a, ⟨⟨b.1, by omega⟩, d, by omega⟩, e⟩
  constructor
  · rintro ⟨⟨⟨a1, a2⟩, a3, a4, a5⟩, ⟨b1, b2⟩, c1, c2⟩
    exact ⟨by omega, by omega, a3, a4, fun s hs => (ro s).1 (a5 s hs), fun x hx => (oo x).1 (b2 x hx), b1, fun x hx => (po x).1 (c2 x hx), c1⟩
  · rintro ⟨g1, g2, g3, g4, g5, g6, g7, g8, g9⟩
    exact ⟨⟨⟨by omega, by omega⟩, g3, g4, fun s hs => (ro s).2 (g5 s hs)⟩, ⟨g7, fun x hx => (oo x).2 (g6 x hx)⟩, g9, fun x hx => (po x).2 (g8 x hx)⟩

theorem Tis.keep {W Z : World} {q : Nat} {v : Value} {ts : List T.T6} (h : Tis W v ts) (k : mblk W q = some (.cells (WeC 0 (.slice none 0 0) (.slice none 0 0) (.slice none 0 0) false false false false false (.slice none 0 0)) 82 (0, 0))) (hg : W.grownBy Z (some q)) : Tis Z v ts := by
  obtain ⟨a, c, rfl, hc, hl, hm⟩ := h.is
  refine ⟨_, _, rfl, hc, hl, fun h0 => ?_⟩
  obtain ⟨g, off, rfl, gl, hx⟩ := hm h0
  have ni : ∀ n z, ((WeC 0 (.slice none 0 0) (.slice none 0 0) (.slice none 0 0) false false false false false (.slice none 0 0)) : Array Value)[n + 1]? ≠ some (.int .i64 z) := fun n z => by
    match n with
    | 0 | 1 | 2 | 3 | 4 | 5 | 6 | 7 | 8 => simp
    | n + 9 => simp
  have hne : g ≠ q := fun e => by
    have x := hx 0 h0 1 (by omega)
    rw [e, cellB k] at x
    exact ni _ _ x
  exact ⟨g, off, rfl, Nat.lt_of_lt_of_le gl hg.size, fun j hj i hi => (by
    have e := hg.block g gl (fun e => hne (Option.some.inj e))
    rw [show Z.cell? ⟨g, off + j * 6 + i, none⟩ = W.cell? ⟨g, off + j * 6 + i, none⟩ by simp only [World.cell?, e]]
    exact hx j hj i hi)⟩
section
variable {H : Nat} {aR aO aP aT ac ah : Option Addr} {nR cR nO cO nP cP nT cT nc cc nh ch : Nat} {b0 b1 b2 b3 b4 : Bool} {rs : List (Int × Int)} {os : List (Int × Int × Int × Int)} {ps : List (Int × Int × Int × Int × Int)} {cl hr : List Int}
set_option maxRecDepth 100000 in
theorem newQuestion_no {w : World} {Hi : Int} {vc vh : Value} (I : Sps w (.slice aR nR cR) rs) (IO : Ops w (.slice aO nO cO) os) (IP : Prs w (.slice aP nP cP) ps) (h : T.valid Hi rs os ps = false) :
    Calls Try.prog 44 #[ClV Hi (.slice aR nR cR) (.slice aO nO cO) (.slice aP nP cP), vc, vh] w fun e w' => e = .returned (.tuple #[WeZ, .int .i64 20]) ∧ Up w w' := by
  have HN := Lib.hid (fun w' (u : Up w w') => newCellar_no (I.up u) (IO.up u) (IP.up u) h)
  clear I IO IP h
  go_enter Try.func44, Try.ntmps44
  go_wp2_with fail
  obtain ⟨W0, hW0⟩ : ∃ x, (w.alloc (.cells #[.int .i64 Hi, .slice aR nR cR, .slice aO nO cO, .slice aP nP cP] 26)).alloc (.cells (WeC 0 (.slice none 0 0) (.slice none 0 0) (.slice none 0 0) false false false false false (.slice none 0 0)) 82) = x := ⟨_, rfl⟩
  obtain ⟨q0, e0⟩ : ∃ x, w.heap.size = x := ⟨_, rfl⟩
  obtain ⟨q1, e1⟩ : ∃ x, q0 + 1 = x := ⟨_, rfl⟩
  have U0 : Up w W0 := by rw [← hW0]; exact ((Up.refl w).alloc _).alloc _
  have kR : mblk W0 q1 = some (.cells (WeC 0 (.slice none 0 0) (.slice none 0 0) (.slice none 0 0) false false false false false (.slice none 0 0)) 82 (0, 0)) := by rw [← hW0]; exact blk_new _ _ _ (by simp; omega)
  rw [hW0, e0, e1]
  clear hW0
  refine (HN.out W0 U0).mono ?_
  rintro e W1 ⟨rfl, u1⟩
  replace kR := u1.blk kR
  have lR := blk_lt kR
  have UW := U0.trans u1
  clear HN U0 u1
  have kR2 := blk_keep (.cells (CeC 0 (.slice none 0 0) (.slice none 0 0) (.slice none 0 0) false false false false false) 79) kR
  have fR := frozB kR
  have fR2 := frozB kR2
  go_wp2_with fail
  obtain ⟨Z, hZ⟩ : ∃ z, ((((((((((W1.setCell ⟨q1, 0, none⟩ (.int .i64 0)).setCell ⟨q1, 1, none⟩ (.slice none 0 0)).setCell ⟨q1, 2, none⟩ (.slice none 0 0)).setCell ⟨q1, 3, none⟩ (.slice none 0 0)).setCell ⟨q1, 4, none⟩ (.bool false)).setCell ⟨q1, 5, none⟩ (.bool false)).setCell ⟨q1, 6, none⟩ (.bool false)).setCell ⟨q1, 7, none⟩ (.bool false)).setCell ⟨q1, 8, none⟩ (.bool false)).setCell ⟨q1, 9, none⟩ (.slice none 0 0)).alloc (.cells (CeC 0 (.slice none 0 0) (.slice none 0 0) (.slice none 0 0) false false false false false) 79) = z := ⟨_, rfl⟩
  have kZ := blk_keep (.cells (CeC 0 (.slice none 0 0) (.slice none 0 0) (.slice none 0 0) false false false false false) 79) (set10 kR (.int .i64 0) (.slice none 0 0) (.slice none 0 0) (.slice none 0 0) (.bool false) (.bool false) (.bool false) (.bool false) (.bool false) (.slice none 0 0))
  have UZ := (UW.grown (grown10 W1 q1 (.int .i64 0) (.slice none 0 0) (.slice none 0 0) (.slice none 0 0) (.bool false) (.bool false) (.bool false) (.bool false) (.bool false) (.slice none 0 0)) (fun k e => by have := Option.some.inj e; omega)).alloc (.cells (CeC 0 (.slice none 0 0) (.slice none 0 0) (.slice none 0 0) false false false false false) 79)
  rw [hZ] at kZ UZ ⊢
  have cZ := cellB kZ
  clear hZ
  exact bodyPost_ret (v := .tuple #[WeZ, .int .i64 20]) (by simp [results, Try.results44, go_sem, cZ]) rfl ⟨rfl, UZ⟩
set_option maxRecDepth 100000 in
theorem newQuestion_ask {w : World} (I : Sps w (.slice aR nR cR) rs) (IO : Ops w (.slice aO nO cO) os) (IP : Prs w (.slice aP nP cP) ps) (IC : Ints w (.slice ac nc cc) cl) (IH : Ints w (.slice ah nh ch) hr) (h : T.valid H rs os ps = true) (hb : (cl.all (T.clkP nR) && hr.all (T.hrP H)) = false) :
    Calls Try.prog 44 #[ClV H (.slice aR nR cR) (.slice aO nO cO) (.slice aP nP cP), .slice ac nc cc, .slice ah nh ch] w fun e w' => e = .returned (.tuple #[WeZ, .int .i64 21]) ∧ Up w w' := by
  have hR := T.valid_good.1 h
  have hn := Lib.hid I.len
  have HN := Lib.hid (fun w' (u : Up w w') => newCellar_yes (I.up u) (IO.up u) (IP.up u) h)
  have HC := Lib.hid (fun w' (u : Up w w') => allClk_any (H := (H : Int)) (aR := aR) (cR := cR) (aO := aO) (nO := nO) (cO := cO) (aP := aP) (nP := nP) (cP := cP) (b0 := false) (b1 := false) (b2 := false) (b3 := false) (b4 := false) (nR := nR) (by have := hR.r2; have := hn.out; omega) (IC.up u) nc)
  have HH := Lib.hid (fun w' (u : Up w w') => allHr_any (H := (H : Int)) (aR := aR) (cR := cR) (aO := aO) (nO := nO) (cO := cO) (aP := aP) (nP := nP) (cP := cP) (b0 := false) (b1 := false) (b2 := false) (b3 := false) (b4 := false) (nR := nR) (IH.up u) nh)
  have hcl : decide (cl.length ≤ nc) = true := decide_eq_true (by have := IC.len; omega)
  have hhl : decide (hr.length ≤ nh) = true := decide_eq_true (by have := IH.len; omega)
  rw [hcl, Bool.true_and] at HC
  rw [hhl, Bool.true_and] at HH
  clear I IO IP IC IH h hcl hhl hR
  go_enter Try.func44, Try.ntmps44
  go_wp2_with fail
  obtain ⟨W0, hW0⟩ : ∃ x, (w.alloc (.cells #[.int .i64 H, .slice aR nR cR, .slice aO nO cO, .slice aP nP cP] 26)).alloc (.cells (WeC 0 (.slice none 0 0) (.slice none 0 0) (.slice none 0 0) false false false false false (.slice none 0 0)) 82) = x := ⟨_, rfl⟩
  obtain ⟨q0, e0⟩ : ∃ x, w.heap.size = x := ⟨_, rfl⟩
  obtain ⟨q1, e1⟩ : ∃ x, q0 + 1 = x := ⟨_, rfl⟩
  have U0 : Up w W0 := by rw [← hW0]; exact ((Up.refl w).alloc _).alloc _
  have kR : mblk W0 q1 = some (.cells (WeC 0 (.slice none 0 0) (.slice none 0 0) (.slice none 0 0) false false false false false (.slice none 0 0)) 82 (0, 0)) := by rw [← hW0]; exact blk_new _ _ _ (by simp; omega)
  rw [hW0, e0, e1]
  clear hW0
  refine (HN.out W0 U0).mono ?_
  rintro e W1 ⟨rfl, u1⟩
  replace kR := u1.blk kR
  have lR := blk_lt kR
  have UW := U0.trans u1
  clear HN U0 u1
  go_wp2_with fail
  obtain ⟨W2, hW2⟩ : ∃ z, W1.alloc (.cells (CeC H (.slice aR nR cR) (.slice aO nO cO) (.slice aP nP cP) false false false false false) 79) = z := ⟨_, rfl⟩
  obtain ⟨q8, e8⟩ : ∃ z, W1.heap.size = z := ⟨_, rfl⟩
  have u2 : Up W1 W2 := by rw [← hW2]; exact (Up.refl W1).alloc _
  have kC : mblk W2 q8 = some (.cells (CeC H (.slice aR nR cR) (.slice aO nO cO) (.slice aP nP cP) false false false false false) 79 (0, 0)) := by rw [← hW2]; exact blk_new _ _ _ e8.symm
  replace kR := u2.blk kR
  replace UW := UW.trans u2
  have lC := blk_lt kC
  have lR2 := blk_lt kR
  rw [hW2, e8]
  clear hW2 u2
  cases hA : cl.all (T.clkP nR) with
  | false =>
    rw [hA] at HC
    clear hA hb HH
    refine (HC.out _ UW).mono ?_
    rintro e W3 ⟨rfl, u3⟩
    replace kR := u3.blk kR
    have fR := frozB kR
    have lR3 := blk_lt kR
    replace UW := UW.trans u3
    clear HC kC u3
    go_wp2_with fail
    obtain ⟨Z, hZ⟩ : ∃ z, ((((((((((W3.setCell ⟨q1, 0, none⟩ (.int .i64 0)).setCell ⟨q1, 1, none⟩ (.slice none 0 0)).setCell ⟨q1, 2, none⟩ (.slice none 0 0)).setCell ⟨q1, 3, none⟩ (.slice none 0 0)).setCell ⟨q1, 4, none⟩ (.bool false)).setCell ⟨q1, 5, none⟩ (.bool false)).setCell ⟨q1, 6, none⟩ (.bool false)).setCell ⟨q1, 7, none⟩ (.bool false)).setCell ⟨q1, 8, none⟩ (.bool false)).setCell ⟨q1, 9, none⟩ (.slice none 0 0)) = z := ⟨_, rfl⟩
    have kZ := set10 kR (.int .i64 0) (.slice none 0 0) (.slice none 0 0) (.slice none 0 0) (.bool false) (.bool false) (.bool false) (.bool false) (.bool false) (.slice none 0 0)
    have gZ := grown10 W3 q1 (.int .i64 0) (.slice none 0 0) (.slice none 0 0) (.slice none 0 0) (.bool false) (.bool false) (.bool false) (.bool false) (.bool false) (.slice none 0 0)
    rw [hZ] at kZ gZ ⊢
    have cZ := cellB kZ
    have UZ := (UW).grown gZ (fun k e => by have := Option.some.inj e; omega)
    clear hZ
    exact bodyPost_ret (v := .tuple #[WeZ, .int .i64 21]) (by simp [results, Try.results44, go_sem, cZ]) rfl ⟨rfl, UZ⟩
  | true =>
    rw [hA, Bool.true_and] at hb
    rw [hA] at HC
    rw [hb] at HH
    clear hA hb
    refine (HC.out _ UW).mono ?_
    rintro e W3 ⟨rfl, u3⟩
    replace kR := u3.blk kR
    replace kC := u3.blk kC
    have lR3 := blk_lt kR
    replace UW := UW.trans u3
    clear HC u3
    go_wp2_with fail
    refine (HH.out _ UW).mono ?_
    rintro e W4 ⟨rfl, u4⟩
    replace kR := u4.blk kR
    have fR := frozB kR
    have lR4 := blk_lt kR
    replace UW := UW.trans u4
    clear HH u4 kC
    go_wp2_with fail
    obtain ⟨Z, hZ⟩ : ∃ z, ((((((((((W4.setCell ⟨q1, 0, none⟩ (.int .i64 0)).setCell ⟨q1, 1, none⟩ (.slice none 0 0)).setCell ⟨q1, 2, none⟩ (.slice none 0 0)).setCell ⟨q1, 3, none⟩ (.slice none 0 0)).setCell ⟨q1, 4, none⟩ (.bool false)).setCell ⟨q1, 5, none⟩ (.bool false)).setCell ⟨q1, 6, none⟩ (.bool false)).setCell ⟨q1, 7, none⟩ (.bool false)).setCell ⟨q1, 8, none⟩ (.bool false)).setCell ⟨q1, 9, none⟩ (.slice none 0 0)) = z := ⟨_, rfl⟩
    have kZ := set10 kR (.int .i64 0) (.slice none 0 0) (.slice none 0 0) (.slice none 0 0) (.bool false) (.bool false) (.bool false) (.bool false) (.bool false) (.slice none 0 0)
    have gZ := grown10 W4 q1 (.int .i64 0) (.slice none 0 0) (.slice none 0 0) (.slice none 0 0) (.bool false) (.bool false) (.bool false) (.bool false) (.bool false) (.slice none 0 0)
    rw [hZ] at kZ gZ ⊢
    have cZ := cellB kZ
    have UZ := (UW).grown gZ (fun k e => by have := Option.some.inj e; omega)
    clear hZ
    exact bodyPost_ret (v := .tuple #[WeZ, .int .i64 21]) (by simp [results, Try.results44, go_sem, cZ]) rfl ⟨rfl, UZ⟩
set_option maxRecDepth 100000 in
theorem newQuestion_yes {w : World} (I : Sps w (.slice aR nR cR) rs) (IO : Ops w (.slice aO nO cO) os) (IP : Prs w (.slice aP nP cP) ps) (IC : Ints w (.slice ac nc cc) cl) (IH : Ints w (.slice ah nh ch) hr) (h : T.valid H rs os ps = true) (hA : cl.all (T.clkP nR) = true) (hB : hr.all (T.hrP H) = true) :
    Calls Try.prog 44 #[ClV H (.slice aR nR cR) (.slice aO nO cO) (.slice aP nP cP), .slice ac nc cc, .slice ah nh ch] w fun e w' => (∃ aT nT cT, e = .returned (.tuple #[WeV H (.slice aR nR cR) (.slice aO nO cO) (.slice aP nP cP) false false false false false (.slice aT nT cT), .int .i64 0]) ∧ Tis w' (.slice aT nT cT) (T.web nR H rs os ps false false false false false)) ∧ Up w w' := by
  have hR := T.valid_good.1 h
  have hn := Lib.hid I.len
  have HN := Lib.hid (fun w' (u : Up w w') => newCellar_yes (I.up u) (IO.up u) (IP.up u) h)
  have HC := Lib.hid (fun w' (u : Up w w') => allClk_any (H := (H : Int)) (aR := aR) (cR := cR) (aO := aO) (nO := nO) (cO := cO) (aP := aP) (nP := nP) (cP := cP) (b0 := false) (b1 := false) (b2 := false) (b3 := false) (b4 := false) (nR := nR) (by have := hR.r2; have := hn.out; omega) (IC.up u) nc)
  have HH := Lib.hid (fun w' (u : Up w w') => allHr_any (H := (H : Int)) (aR := aR) (cR := cR) (aO := aO) (nO := nO) (cO := cO) (aP := aP) (nP := nP) (cP := cP) (b0 := false) (b1 := false) (b2 := false) (b3 := false) (b4 := false) (nR := nR) (IH.up u) nh)
  have hcl : decide (cl.length ≤ nc) = true := decide_eq_true (by have := IC.len; omega)
  have hhl : decide (hr.length ≤ nh) = true := decide_eq_true (by have := IH.len; omega)
  rw [hcl, Bool.true_and] at HC
  rw [hhl, Bool.true_and] at HH
  rw [hA] at HC
  rw [hB] at HH
  have HW := Lib.hid (fun w' (u : Up w w') => newWeb_any (b0 := false) (b1 := false) (b2 := false) (b3 := false) (b4 := false) hR.h2 (by have := hR.r2; have := hn.out; omega) (I.up u) (IO.up u) (IP.up u) (fun s hs => (hR.rsB s hs).1) (fun x hx => by have q := hR.osB x hx; exact ⟨⟨q.1.1, by have := hn.out; omega⟩, q.2.1, q.2.2.1⟩) hR.o6 (fun x hx => by have q := hR.psB x hx; exact ⟨⟨q.2.1.1, by have := hn.out; omega⟩, ⟨q.2.2.1.1, by have := hn.out; omega⟩, q.2.2.2.2.1⟩) hR.p14)
  clear I IO IP IC IH h hcl hhl hR hA hB
  go_enter Try.func44, Try.ntmps44
  go_wp2_with fail
  obtain ⟨W0, hW0⟩ : ∃ x, (w.alloc (.cells #[.int .i64 H, .slice aR nR cR, .slice aO nO cO, .slice aP nP cP] 26)).alloc (.cells (WeC 0 (.slice none 0 0) (.slice none 0 0) (.slice none 0 0) false false false false false (.slice none 0 0)) 82) = x := ⟨_, rfl⟩
  obtain ⟨q0, e0⟩ : ∃ x, w.heap.size = x := ⟨_, rfl⟩
  obtain ⟨q1, e1⟩ : ∃ x, q0 + 1 = x := ⟨_, rfl⟩
  have U0 : Up w W0 := by rw [← hW0]; exact ((Up.refl w).alloc _).alloc _
  have kR : mblk W0 q1 = some (.cells (WeC 0 (.slice none 0 0) (.slice none 0 0) (.slice none 0 0) false false false false false (.slice none 0 0)) 82 (0, 0)) := by rw [← hW0]; exact blk_new _ _ _ (by simp; omega)
  rw [hW0, e0, e1]
  clear hW0
  refine (HN.out W0 U0).mono ?_
  rintro e W1 ⟨rfl, u1⟩
  replace kR := u1.blk kR
  have lR := blk_lt kR
  have UW := U0.trans u1
  clear HN U0 u1
  go_wp2_with fail
  obtain ⟨W2, hW2⟩ : ∃ z, W1.alloc (.cells (CeC H (.slice aR nR cR) (.slice aO nO cO) (.slice aP nP cP) false false false false false) 79) = z := ⟨_, rfl⟩
  obtain ⟨q8, e8⟩ : ∃ z, W1.heap.size = z := ⟨_, rfl⟩
  have u2 : Up W1 W2 := by rw [← hW2]; exact (Up.refl W1).alloc _
  have kC : mblk W2 q8 = some (.cells (CeC H (.slice aR nR cR) (.slice aO nO cO) (.slice aP nP cP) false false false false false) 79 (0, 0)) := by rw [← hW2]; exact blk_new _ _ _ e8.symm
  replace kR := u2.blk kR
  replace UW := UW.trans u2
  have lC := blk_lt kC
  have lR2 := blk_lt kR
  rw [hW2, e8]
  clear hW2 u2
  refine (HC.out _ UW).mono ?_
  rintro e W3 ⟨rfl, u3⟩
  replace kR := u3.blk kR
  replace kC := u3.blk kC
  have lR3 := blk_lt kR
  replace UW := UW.trans u3
  clear HC u3
  go_wp2_with fail
  refine (HH.out _ UW).mono ?_
  rintro e W4 ⟨rfl, u4⟩
  replace kR := u4.blk kR
  replace kC := u4.blk kC
  have lR4 := blk_lt kR
  replace UW := UW.trans u4
  clear HH u4
  go_wp2_with fail
  refine (HW.out _ UW).mono ?_
  rintro e W5 ⟨⟨aT, nT, cT, rfl, hT⟩, u5⟩
  replace kR := u5.blk kR
  have fR := frozB kR
  have lR5 := blk_lt kR
  replace UW := UW.trans u5
  clear HW u5 kC
  go_wp2_with fail
  obtain ⟨Z, hZ⟩ : ∃ z, ((((((((((W5.setCell ⟨q1, 0, none⟩ (.int .i64 H)).setCell ⟨q1, 1, none⟩ (.slice aR nR cR)).setCell ⟨q1, 2, none⟩ (.slice aO nO cO)).setCell ⟨q1, 3, none⟩ (.slice aP nP cP)).setCell ⟨q1, 4, none⟩ (.bool false)).setCell ⟨q1, 5, none⟩ (.bool false)).setCell ⟨q1, 6, none⟩ (.bool false)).setCell ⟨q1, 7, none⟩ (.bool false)).setCell ⟨q1, 8, none⟩ (.bool false)).setCell ⟨q1, 9, none⟩ (.slice aT nT cT)) = z := ⟨_, rfl⟩
  have kZ := set10 kR (.int .i64 H) (.slice aR nR cR) (.slice aO nO cO) (.slice aP nP cP) (.bool false) (.bool false) (.bool false) (.bool false) (.bool false) (.slice aT nT cT)
  have gZ := grown10 W5 q1 (.int .i64 H) (.slice aR nR cR) (.slice aO nO cO) (.slice aP nP cP) (.bool false) (.bool false) (.bool false) (.bool false) (.bool false) (.slice aT nT cT)
  rw [hZ] at kZ gZ ⊢
  have cZ := cellB kZ
  have UZ := (UW).grown gZ (fun k e => by have := Option.some.inj e; omega)
  clear hZ
  exact bodyPost_ret (v := .tuple #[WeV H (.slice aR nR cR) (.slice aO nO cO) (.slice aP nP cP) false false false false false (.slice aT nT cT), .int .i64 0]) (by simp [results, Try.results44, go_sem, cZ]) rfl ⟨⟨aT, nT, cT, rfl, Tis.keep hT kR gZ⟩, UZ⟩
end

end Go.Proofs.Ytcmdaiklkdeanaa
