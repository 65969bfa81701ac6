import Derived.Test.YtlpkheoljbdajaaAp3
import Derived.Test.YtlpkheoljbdajaaBkE
import Derived.Test.YtlpkheoljbdajaaHeQ
import Derived.Test.YtlpkheoljbdajaaHst
/- The contract of the laws' narrowed. -/
namespace Go.Proofs.Ytlpkheoljbdajaa
open Go.RowKit Go.Shelf
attribute [local go_sem] Oper.semAt_some

theorem T.mergeRows {P : Prop} (R : World → Nat → Nat → Option Addr → Nat → Option Addr → Nat → Prop) {G : World → Nat → Nat → Option Addr → Nat → Option Addr → Nat → Prop} (h1 : Hid (∀ w' b c s t u v, R w' b c s t u v → G w' b c s t u v) → P) (h2 : ∀ w' b c s t u v, R w' b c s t u v → G w' b c s t u v) : P := h1 (Lib.hid h2)
theorem put8_same {w : World} {p : Nat} {a0 a1 a2 a3 a4 a5 a6 a7 : Value} {t : TypeId} {fr : Nat × Nat} (h : mblk w p = some (.cells #[a0, a1, a2, a3, a4, a5, a6, a7] t fr)) (v0 v1 v2 v3 v4 v5 v6 v7 : Value) : mblk ((((((((w.setCell ⟨p, 0, none⟩ v0).setCell ⟨p, 1, none⟩ v1).setCell ⟨p, 2, none⟩ v2).setCell ⟨p, 3, none⟩ v3).setCell ⟨p, 4, none⟩ v4).setCell ⟨p, 5, none⟩ v5).setCell ⟨p, 6, none⟩ v6).setCell ⟨p, 7, none⟩ v7) p = some (.cells #[v0, v1, v2, v3, v4, v5, v6, v7] t fr) := by
  have q := blk_put (blk_put (blk_put (blk_put (blk_put (blk_put (blk_put (blk_put h 0 v0) 1 v1) 2 v2) 3 v3) 4 v4) 5 v5) 6 v6) 7 v7
  simpa using q
theorem put8_other (w : World) {p n : Nat} (hn : n ≠ p) (v0 v1 v2 v3 v4 v5 v6 v7 : Value) : mblk ((((((((w.setCell ⟨p, 0, none⟩ v0).setCell ⟨p, 1, none⟩ v1).setCell ⟨p, 2, none⟩ v2).setCell ⟨p, 3, none⟩ v3).setCell ⟨p, 4, none⟩ v4).setCell ⟨p, 5, none⟩ v5).setCell ⟨p, 6, none⟩ v6).setCell ⟨p, 7, none⟩ v7) n = mblk w n := by
  rw [blk_set _ _ _ _ hn, blk_set _ _ _ _ hn, blk_set _ _ _ _ hn, blk_set _ _ _ _ hn, blk_set _ _ _ _ hn, blk_set _ _ _ _ hn, blk_set _ _ _ _ hn, blk_set _ _ _ _ hn]
theorem Up.put8 {w w' : World} (h : Up w w') {p : Nat} (hb : w.heap.size ≤ p) (v0 v1 v2 v3 v4 v5 v6 v7 : Value) : Up w ((((((((w'.setCell ⟨p, 0, none⟩ v0).setCell ⟨p, 1, none⟩ v1).setCell ⟨p, 2, none⟩ v2).setCell ⟨p, 3, none⟩ v3).setCell ⟨p, 4, none⟩ v4).setCell ⟨p, 5, none⟩ v5).setCell ⟨p, 6, none⟩ v6).setCell ⟨p, 7, none⟩ v7) :=
  ((((((((h.set (p := ⟨p, 0, none⟩) hb v0).set (p := ⟨p, 1, none⟩) hb v1).set (p := ⟨p, 2, none⟩) hb v2).set (p := ⟨p, 3, none⟩) hb v3).set (p := ⟨p, 4, none⟩) hb v4).set (p := ⟨p, 5, none⟩) hb v5).set (p := ⟨p, 6, none⟩) hb v6).set (p := ⟨p, 7, none⟩) hb v7)
/-- a list in memory stays where its block does -/
theorem Tab.keepB {α : Type} {k : Nat} {enc : α → Nat → Int} {d : α} {W W' : World} {v : Value} {xs : List α} (I : Tab k enc d W v xs) (hs : W.heap.size ≤ W'.heap.size) (h : ∀ g, v.ownBlock = some g → mblk W' g = mblk W g) : Tab k enc d W' v xs := by
  obtain ⟨a, c', e, h1, h2, hm⟩ := I.is
  refine ⟨a, c', e, h1, h2, fun q => ?_⟩
  obtain ⟨g, off, ga, gl, hx⟩ := hm q
  subst ga e
  refine ⟨g, off, rfl, by omega, fun j hj i hi => ?_⟩
  rw [← hx j hj i hi]
  have e3 : W'.heap[g]? = W.heap[g]? := h g rfl
  simp only [World.cell?, e3]
section
variable {bl bh rl rh : Int} {aP aQ aL : Option Addr} {nP cP nQ cQ nL cL : Nat} {ps qs : List (Int × Int)} {ls : List T.T5}
set_option maxRecDepth 100000 in
set_option maxHeartbeats 4000000 in
set_option linter.unusedSimpArgs false in
theorem l_narrowed_p {M n : Int} {kk : Nat} {w : World} (I : Sps w (.slice aP nP cP) ps) (J : Sps w (.slice aQ nQ cQ) qs) (K : Lks w (.slice aL nL cL) ls) (hkk : kk < ps.length) (h4 : ps.length ≤ 4) (h5 : qs.length ≤ 4) :
    Calls Try.prog 44 #[BoV M bl bh rl rh (.slice aP nP cP) (.slice aQ nQ cQ) (.slice aL nL cL), .int .i64 kk, .int .i64 (-1), .int .i64 n] w fun e w' => (∃ a c a' c', e = .returned (BoV M bl bh rl rh (.slice a nP c) (.slice a' nQ c') (.slice aL nL cL)) ∧ Sps w' (.slice a nP c) (ps.set kk (n, n)) ∧ Sps w' (.slice a' nQ c') qs) ∧ Up w w' := by
  have hmx : Try.prog.follows .mixedOrders = true := by kernel_rfl
  have hn := I.len
  have hno := J.len
  have hnp := K.len
  subst hn hno hnp
  have HI := Lib.hid (fun w' (u : Up w w') => I.up u)
  have HJ := Lib.hid (fun w' (u : Up w w') => J.up u)
  have HTo := Lib.hid (fun l h w => B_To_any l h w)
  have ikk : (kk : Int) < (ps.length : Int) := by omega
  have dk : decide ((kk : Int) ≥ 0) = true := decide_eq_true (by omega)
  have ik0 : (0 : Int) ≤ (kk : Int) := by omega
  clear I J K
  go_enter Try.func44, Try.ntmps44
  obtain ⟨q0, e0⟩ : ∃ x, w.heap.size = x := ⟨_, rfl⟩
  have U := (((Up.refl w).alloc (.cells (BoC M bl bh rl rh (.slice aP ps.length cP) (.slice aQ qs.length cQ) (.slice aL ls.length cL)) 27)).alloc (.cells #[.int .i64 0, .int .i64 0, .int .i64 0, .int .i64 0, .int .i64 0, .slice none 0 0, .slice none 0 0, .slice none 0 0] 27)).alloc (.cells (BoC M bl bh rl rh (.slice aP ps.length cP) (.slice aQ qs.length cQ) (.slice aL ls.length cL)) 27)
  have kC := blk_keep (.cells (BoC M bl bh rl rh (.slice aP ps.length cP) (.slice aQ qs.length cQ) (.slice aL ls.length cL)) 27) (blk_keep (.cells #[.int .i64 0, .int .i64 0, .int .i64 0, .int .i64 0, .int .i64 0, .slice none 0 0, .slice none 0 0, .slice none 0 0] 27) (blk_new w (.cells (BoC M bl bh rl rh (.slice aP ps.length cP) (.slice aQ qs.length cQ) (.slice aL ls.length cL)) 27) q0 e0.symm))
  have kZ := blk_keep (.cells (BoC M bl bh rl rh (.slice aP ps.length cP) (.slice aQ qs.length cQ) (.slice aL ls.length cL)) 27) (blk_new (w.alloc (.cells (BoC M bl bh rl rh (.slice aP ps.length cP) (.slice aQ qs.length cQ) (.slice aL ls.length cL)) 27)) (.cells #[.int .i64 0, .int .i64 0, .int .i64 0, .int .i64 0, .int .i64 0, .slice none 0 0, .slice none 0 0, .slice none 0 0] 27) (q0 + 1) (by simp [e0]))
  have kX := blk_new ((w.alloc (.cells (BoC M bl bh rl rh (.slice aP ps.length cP) (.slice aQ qs.length cQ) (.slice aL ls.length cL)) 27)).alloc (.cells #[.int .i64 0, .int .i64 0, .int .i64 0, .int .i64 0, .int .i64 0, .slice none 0 0, .slice none 0 0, .slice none 0 0] 27)) (.cells (BoC M bl bh rl rh (.slice aP ps.length cP) (.slice aQ qs.length cQ) (.slice aL ls.length cL)) 27) (q0 + 1 + 1) (by simp [e0])
  go_wp2_with fail
  obtain ⟨X0, hX0⟩ : ∃ z, (((w.alloc (.cells (BoC M bl bh rl rh (.slice aP ps.length cP) (.slice aQ qs.length cQ) (.slice aL ls.length cL)) 27)).alloc (.cells #[.int .i64 0, .int .i64 0, .int .i64 0, .int .i64 0, .int .i64 0, .slice none 0 0, .slice none 0 0, .slice none 0 0] 27)).alloc (.cells (BoC M bl bh rl rh (.slice aP ps.length cP) (.slice aQ qs.length cQ) (.slice aL ls.length cL)) 27)) = z := ⟨_, rfl⟩
  rw [hX0] at U kC kZ kX
  try rw [hX0]
  clear hX0
  apply T.mergeRows (fun w' bP bQ sP tP sQ tQ => Up w w' ∧ mblk w' (q0) = some (.cells (BoC M bl bh rl rh (.slice aP ps.length cP) (.slice aQ qs.length cQ) (.slice aL ls.length cL)) 27 (0, 0)) ∧ mblk w' (q0 + 1) = some (.cells #[.int .i64 0, .int .i64 0, .int .i64 0, .int .i64 0, .int .i64 0, .slice none 0 0, .slice none 0 0, .slice none 0 0] 27 (0, 0)) ∧ mblk w' (q0 + 1 + 1) = some (.cells (BoC M bl bh rl rh (.slice sP ps.length tP) (.slice sQ qs.length tQ) (.slice aL ls.length cL)) 27 (0, 0)) ∧ Hid (w'.ownsRow bP 23 2 (.slice sP ps.length tP) ps.length (T.flat 2 T.encS ps)) ∧ Hid (w'.ownsRow bQ 23 2 (.slice sQ qs.length tQ) qs.length (T.flat 2 T.encS qs)) ∧ Hid (∀ g, Value.ownBlock (.slice sP ps.length tP) = some g → Value.ownBlock (.slice sQ qs.length tQ) = some g → False) ∧ q0 + 1 + 1 < bP ∧ q0 + 1 + 1 < bQ)
  · intro HKey
    refine (wpIn_wide (n := 5)).1 ?_
    refine wpIn_nrm ?_
    refine regionG (fun w' => Up w w' ∧ mblk w' (q0) = some (.cells (BoC M bl bh rl rh (.slice aP ps.length cP) (.slice aQ qs.length cQ) (.slice aL ls.length cL)) 27 (0, 0)) ∧ mblk w' (q0 + 1) = some (.cells #[.int .i64 0, .int .i64 0, .int .i64 0, .int .i64 0, .int .i64 0, .slice none 0 0, .slice none 0 0, .slice none 0 0] 27 (0, 0))) 11 hmx ⟨U.drew, (by rw [blk_drew]; exact kC), (by rw [blk_drew]; exact kZ)⟩ (fun hHeld hCl => ?_)
    refine takeG (i := 1) (d := (some 12)) (v := ?v1) rfl rfl (by kernel_rfl) (by kernel_rfl) (by decide) hCl (by kernel_rfl) (by kernel_rfl) (by kernel_rfl) (fun _ _ _ h => h) (by rfl) ?hy1 (fun _ _ _ => trivial) (by assumption) (fun hCl' => ?_)
    case hy1 => ((intro w hSw; (try dsimp only at hSw); (try go_split_ands); go_simp); try with_reducible rfl)
    simp only [Act.put, List.setIfInBounds_toArray, List.set_cons_zero, List.set_cons_succ]
    replace hCl := hCl'; clear hCl'
    refine takeG (i := 5) (d := (some 16)) (v := ?v2) rfl rfl (by kernel_rfl) (by kernel_rfl) (by decide) hCl (by kernel_rfl) (by kernel_rfl) (by kernel_rfl) (fun _ _ _ h => h) (by rfl) ?hy2 (fun _ _ _ => trivial) (by assumption) (fun hCl' => ?_)
    case hy2 => ((intro w hSw; (try dsimp only at hSw); (try go_split_ands); go_simp); try with_reducible rfl)
    simp only [Act.put, List.setIfInBounds_toArray, List.set_cons_zero, List.set_cons_succ]
    replace hCl := hCl'; clear hCl'
    refine takeG (i := 2) (d := (some 13)) (v := ?v3) rfl rfl (by kernel_rfl) (by kernel_rfl) (by decide) hCl (by kernel_rfl) (by kernel_rfl) (by kernel_rfl) (fun _ _ _ h => h) (by rfl) ?hy3 (fun _ _ _ => trivial) (by assumption) (fun hCl' => ?_)
    case hy3 => ((intro w hSw; (try dsimp only at hSw); (try go_split_ands); go_simp); try with_reducible rfl)
    simp only [Act.put, List.setIfInBounds_toArray, List.set_cons_zero, List.set_cons_succ]
    replace hCl := hCl'; clear hCl'
    refine takeG (i := 6) (d := (some 17)) (v := ?v4) rfl rfl (by kernel_rfl) (by kernel_rfl) (by decide) hCl (by kernel_rfl) (by kernel_rfl) (by kernel_rfl) (fun _ _ _ h => h) (by rfl) ?hy4 (fun _ _ _ => trivial) (by assumption) (fun hCl' => ?_)
    case hy4 => ((intro w hSw; (try dsimp only at hSw); (try go_split_ands); go_simp); try with_reducible rfl)
    simp only [Act.put, List.setIfInBounds_toArray, List.set_cons_zero, List.set_cons_succ]
    replace hCl := hCl'; clear hCl'
    clear hHeld
    refine nextG2 (i := 0) (j := 4) (by kernel_rfl) rfl rfl (by rfl) (by rfl) hCl ?_ ?_
    · skip
      refine (fun K hK => ?_)
      go_simp
      have A1 : Up X0 (X0.alloc (.cells #[] 23)).drew := Up.drew (Up.alloc (Up.refl X0) _)
      have e1 : X0.heap.size ≤ (X0.alloc (.cells #[] 23)).drew.heap.size := by have := Up.size (Up.drew (Up.alloc (Up.refl X0) (.cells #[] 23))); exact this
      have kx1 : mblk (X0.alloc (.cells #[] 23)).drew (q0 + 1 + 1) = some (.cells (BoC M bl bh rl rh (.slice aP ps.length cP) (.slice aQ qs.length cQ) (.slice aL ls.length cL)) 27 (0, 0)) := by rw [blk_drew]; exact blk_keep (.cells #[] 23) kX
      have lx1 := blk_lt kX
      have RP1 := row_up (World.ownsRow_lit (base := X0.heap.size) (e := 23) (size := 2) X0 #[] 0 (Nat.le_refl _) (by unfold maxLen; omega) rfl) (Up.refl _).drew
      obtain ⟨bP, hqP⟩ : ∃ q, X0.heap.size = q := ⟨_, rfl⟩
      obtain ⟨X1, hX⟩ : ∃ X, (X0.alloc (.cells #[] 23)).drew = X := ⟨_, rfl⟩
      rw [hX] at A1 e1 kx1 RP1
      rw [hqP] at e1 lx1 RP1
      have zP : bP < X1.heap.size := (RP1.lt bP rfl).2
      try rw [hX]
      try rw [hqP]
      refine hK.out _ _ ⟨U.trans A1, Up.blk A1 kC, Up.blk A1 kZ⟩ (fun _ hCl => ?_)
      clear hK K hX
      try dsimp only [List.getElem_toArray, List.getElem_cons_succ, List.getElem_cons_zero]
      try simp only [Act.put, List.setIfInBounds_toArray, List.set_cons_zero, List.set_cons_succ]
      refine nextG2 (i := 3) (j := 4) (by kernel_rfl) rfl rfl (by rfl) (by rfl) hCl ?_ ?_
      · skip
        refine (fun K hK => ?_)
        refine T.opIn_app3 (ys := []) T.elS (.tmp 11) (.tmp 13) rfl (HI.out _ (U.trans A1)) rfl bP _ 0 rfl RP1 (by omega) (by omega) (by omega) ?_
        intro vP X2 RP2 hg2 hv2
        rw [Nat.zero_add, List.nil_append] at RP2
        obtain ⟨sP, tP, rfl, _, _⟩ := row_val RP2
        have A2 := Up.grown A1 hg2 (fun k e => by have := row_base RP1 k e; omega)
        have e2 := hg2.size
        have kx2 := grown_blk hg2 kx1 (row_block RP1 (by omega))
        refine hK.out _ _ ⟨U.trans A2, Up.blk A2 kC, Up.blk A2 kZ⟩ (fun _ hCl => ?_)
        clear hK K
        try dsimp only [List.getElem_toArray, List.getElem_cons_succ, List.getElem_cons_zero]
        try simp only [Act.put, List.setIfInBounds_toArray, List.set_cons_zero, List.set_cons_succ]
        refine takeG (i := 8) (d := (some 19)) (v := ?v5) rfl rfl (by kernel_rfl) (by kernel_rfl) (by decide) hCl (by kernel_rfl) (by kernel_rfl) (by kernel_rfl) (fun _ _ _ h => h) (by rfl) ?hy5 (fun _ _ _ => trivial) (by assumption) (fun hCl' => ?_)
        case hy5 => ((intro w hSw; (try dsimp only at hSw); (try go_split_ands); go_simp); try with_reducible rfl)
        simp only [Act.put, List.setIfInBounds_toArray, List.set_cons_zero, List.set_cons_succ]
        replace hCl := hCl'; clear hCl'
        refine nextG (i := 4) (by kernel_rfl) rfl (by rfl) hCl (fun K hK => ?_)
        go_simp
        have A3 : Up X0 (X2.alloc (.cells #[] 23)) := (Up.alloc A2 _)
        have e3 : X2.heap.size ≤ (X2.alloc (.cells #[] 23)).heap.size := by have := Up.size ((Up.alloc (Up.refl X2) (.cells #[] 23))); exact this
        have kx3 : mblk (X2.alloc (.cells #[] 23)) (q0 + 1 + 1) = some (.cells (BoC M bl bh rl rh (.slice aP ps.length cP) (.slice aQ qs.length cQ) (.slice aL ls.length cL)) 27 (0, 0)) := by exact blk_keep (.cells #[] 23) kx2
        have lx3 := blk_lt kx2
        have RQ3 := World.ownsRow_lit (base := X2.heap.size) (e := 23) (size := 2) X2 #[] 0 (Nat.le_refl _) (by unfold maxLen; omega) rfl
        have RP3 := World.ownsRow.alloc RP2 (.cells #[] 23)
        have LP3 := fun k e => (RP2.lt k e).2
        obtain ⟨bQ, hqQ⟩ : ∃ q, X2.heap.size = q := ⟨_, rfl⟩
        obtain ⟨X3, hX⟩ : ∃ X, (X2.alloc (.cells #[] 23)) = X := ⟨_, rfl⟩
        rw [hX] at A3 e3 kx3 RQ3 RP3
        rw [hqQ] at e3 lx3 RQ3 LP3
        have zQ : bQ < X3.heap.size := (RQ3.lt bQ rfl).2
        have zP2 : bP ≤ X3.heap.size := by omega
        have ap3 : ∀ g, Value.ownBlock (.slice sP ps.length tP) = some g → Value.ownBlock (.slice (some ⟨bQ, 0, none⟩) 0 0) = some g → False := fun g h1 h2 => by have a := LP3 g h1; have b : bQ = g := Option.some.inj h2; omega
        try rw [hX]
        try rw [hqQ]
        refine hK.out _ _ ⟨U.trans A3, Up.blk A3 kC, Up.blk A3 kZ⟩ (fun _ hCl => ?_)
        clear hK K hX
        try dsimp only [List.getElem_toArray, List.getElem_cons_succ, List.getElem_cons_zero]
        try simp only [Act.put, List.setIfInBounds_toArray, List.set_cons_zero, List.set_cons_succ]
        refine nextG (i := 7) (by kernel_rfl) rfl (by rfl) hCl (fun K hK => ?_)
        refine T.opIn_app3 (ys := []) T.elS (.tmp 15) (.tmp 17) rfl (HJ.out _ (U.trans A3)) rfl bQ _ 0 rfl RQ3 (by omega) (by omega) (by omega) ?_
        intro vQ X4 RQ4 hg4 hv4
        rw [Nat.zero_add, List.nil_append] at RQ4
        obtain ⟨sQ, tQ, rfl, _, _⟩ := row_val RQ4
        have A4 := Up.grown A3 hg4 (fun k e => by have := row_base RQ3 k e; omega)
        have e4 := hg4.size
        have kx4 := grown_blk hg4 kx3 (row_block RQ3 (by omega))
        have RP4 := row_keep RP3 hg4 (fun g e h => ap3 g e h.symm)
        have ap4 : ∀ g, Value.ownBlock (.slice sP ps.length tP) = some g → Value.ownBlock (.slice sQ qs.length tQ) = some g → False := fun g h1 h2 => by
          rcases hv4 with e | e
          · exact ap3 g h1 (e.symm.trans h2)
          · have a : X3.heap.size = g := Option.some.inj (e.symm.trans h2)
            have b := (RP3.lt g h1).2
            omega
        refine hK.out _ _ ⟨U.trans A4, Up.blk A4 kC, Up.blk A4 kZ⟩ (fun _ hCl => ?_)
        clear hK K
        try dsimp only [List.getElem_toArray, List.getElem_cons_succ, List.getElem_cons_zero]
        try simp only [Act.put, List.setIfInBounds_toArray, List.set_cons_zero, List.set_cons_succ]
        have UL := U.trans A4
        have tkC := Up.blk A4 kC
        have tkZ := Up.blk A4 kZ
        have zf := frozB kx4
        refine nextG (i := 9) (by kernel_rfl) rfl (by rfl) hCl (fun K hK => ?_)
        go_simp
        obtain ⟨Y0, hY⟩ : ∃ X, X4.setCell ⟨q0 + 1 + 1, 5, none⟩ (.slice sP ps.length tP) = X := ⟨_, rfl⟩
        have UY0 : Up w Y0 := by rw [← hY]; exact UL.set (p := ⟨q0 + 1 + 1, 5, none⟩) (show w.heap.size ≤ q0 + 1 + 1 by omega) _
        have kY0 : mblk Y0 (q0 + 1 + 1) = some (.cells (BoC M bl bh rl rh (.slice sP ps.length tP) (.slice aQ qs.length cQ) (.slice aL ls.length cL)) 27 (0, 0)) := by rw [← hY]; exact blk_put kx4 5 _
        have tkC0 : mblk Y0 (q0) = some (.cells (BoC M bl bh rl rh (.slice aP ps.length cP) (.slice aQ qs.length cQ) (.slice aL ls.length cL)) 27 (0, 0)) := by rw [← hY, blk_set _ _ _ _ (by show q0 ≠ q0 + 1 + 1; omega)]; exact tkC
        have tkZ0 : mblk Y0 (q0 + 1) = some (.cells #[.int .i64 0, .int .i64 0, .int .i64 0, .int .i64 0, .int .i64 0, .slice none 0 0, .slice none 0 0, .slice none 0 0] 27 (0, 0)) := by rw [← hY, blk_set _ _ _ _ (by show q0 + 1 ≠ q0 + 1 + 1; omega)]; exact tkZ
        have SP0 := row_other RP4 (grown_set X4 (q0 + 1 + 1) 5 (.slice sP ps.length tP)) (row_block RP4 (show q0 + 1 + 1 < bP by omega))
        have SQ0 := row_other RQ4 (grown_set X4 (q0 + 1 + 1) 5 (.slice sP ps.length tP)) (row_block RQ4 (show q0 + 1 + 1 < bQ by omega))
        rw [hY] at SP0 SQ0
        try rw [hY]
        refine hK.out _ _ ⟨UY0, tkC0, tkZ0⟩ (fun _ hCl => ?_)
        clear hK K hY zf
        try dsimp only [List.getElem_toArray, List.getElem_cons_succ, List.getElem_cons_zero]
        try simp only [Act.put, List.setIfInBounds_toArray, List.set_cons_zero, List.set_cons_succ]
        clear UL
        have UL := UY0
        refine takeG (i := 10) (d := (some 20)) (v := ?v8) rfl rfl (by kernel_rfl) (by kernel_rfl) (by decide) hCl (by kernel_rfl) (by kernel_rfl) (by kernel_rfl) (fun _ _ _ h => h) (by rfl) ?hy8 (fun _ _ _ => trivial) (by assumption) (fun hCl' => ?_)
        case hy8 => ((intro w hSw; (try dsimp only at hSw); (try go_split_ands); go_simp); try with_reducible rfl)
        simp only [Act.put, List.setIfInBounds_toArray, List.set_cons_zero, List.set_cons_succ]
        replace hCl := hCl'; clear hCl'
        have zf := frozB kY0
        clear hCl
        refine lastG (i := 11) (by kernel_rfl) rfl (by rfl) (by decide) (fun K hK => ?_)
        go_simp
        obtain ⟨Y1, hY⟩ : ∃ X, Y0.setCell ⟨q0 + 1 + 1, 6, none⟩ (.slice sQ qs.length tQ) = X := ⟨_, rfl⟩
        have UY1 : Up w Y1 := by rw [← hY]; exact UL.set (p := ⟨q0 + 1 + 1, 6, none⟩) (show w.heap.size ≤ q0 + 1 + 1 by omega) _
        have kY1 : mblk Y1 (q0 + 1 + 1) = some (.cells (BoC M bl bh rl rh (.slice sP ps.length tP) (.slice sQ qs.length tQ) (.slice aL ls.length cL)) 27 (0, 0)) := by rw [← hY]; exact blk_put kY0 6 _
        have tkC1 : mblk Y1 (q0) = some (.cells (BoC M bl bh rl rh (.slice aP ps.length cP) (.slice aQ qs.length cQ) (.slice aL ls.length cL)) 27 (0, 0)) := by rw [← hY, blk_set _ _ _ _ (by show q0 ≠ q0 + 1 + 1; omega)]; exact tkC0
        have tkZ1 : mblk Y1 (q0 + 1) = some (.cells #[.int .i64 0, .int .i64 0, .int .i64 0, .int .i64 0, .int .i64 0, .slice none 0 0, .slice none 0 0, .slice none 0 0] 27 (0, 0)) := by rw [← hY, blk_set _ _ _ _ (by show q0 + 1 ≠ q0 + 1 + 1; omega)]; exact tkZ0
        have SP1 := row_other SP0 (grown_set Y0 (q0 + 1 + 1) 6 (.slice sQ qs.length tQ)) (row_block SP0 (show q0 + 1 + 1 < bP by omega))
        have SQ1 := row_other SQ0 (grown_set Y0 (q0 + 1 + 1) 6 (.slice sQ qs.length tQ)) (row_block SQ0 (show q0 + 1 + 1 < bQ by omega))
        rw [hY] at SP1 SQ1
        try rw [hY]
        refine hK.out _ _ ?_
        clear hK K hY zf
        clear UL
        have UL := UY1
        refine doneG (by kernel_rfl) ?_ _
        refine S.nrm_intro ?_
        exact HKey.out _ bP bQ sP tP sQ tQ ⟨UL, tkC1, tkZ1, kY1, Lib.hid SP1, Lib.hid SQ1, Lib.hid ap4, by omega, by omega⟩
      · skip
        refine (fun K hK => ?_)
        go_simp
        have A2 : Up X0 (X1.alloc (.cells #[] 23)) := (Up.alloc A1 _)
        have e2 : X1.heap.size ≤ (X1.alloc (.cells #[] 23)).heap.size := by have := Up.size ((Up.alloc (Up.refl X1) (.cells #[] 23))); exact this
        have kx2 : mblk (X1.alloc (.cells #[] 23)) (q0 + 1 + 1) = some (.cells (BoC M bl bh rl rh (.slice aP ps.length cP) (.slice aQ qs.length cQ) (.slice aL ls.length cL)) 27 (0, 0)) := by exact blk_keep (.cells #[] 23) kx1
        have lx2 := blk_lt kx1
        have RQ2 := World.ownsRow_lit (base := X1.heap.size) (e := 23) (size := 2) X1 #[] 0 (Nat.le_refl _) (by unfold maxLen; omega) rfl
        have RP2 := World.ownsRow.alloc RP1 (.cells #[] 23)
        have LP2 := fun k e => (RP1.lt k e).2
        obtain ⟨bQ, hqQ⟩ : ∃ q, X1.heap.size = q := ⟨_, rfl⟩
        obtain ⟨X2, hX⟩ : ∃ X, (X1.alloc (.cells #[] 23)) = X := ⟨_, rfl⟩
        rw [hX] at A2 e2 kx2 RQ2 RP2
        rw [hqQ] at e2 lx2 RQ2 LP2
        have zQ : bQ < X2.heap.size := (RQ2.lt bQ rfl).2
        have zP2 : bP ≤ X2.heap.size := by omega
        have ap2 : ∀ g, Value.ownBlock (.slice (some ⟨bP, 0, none⟩) 0 0) = some g → Value.ownBlock (.slice (some ⟨bQ, 0, none⟩) 0 0) = some g → False := fun g h1 h2 => by have a := LP2 g h1; have b : bQ = g := Option.some.inj h2; omega
        try rw [hX]
        try rw [hqQ]
        refine hK.out _ _ ⟨U.trans A2, Up.blk A2 kC, Up.blk A2 kZ⟩ (fun _ hCl => ?_)
        clear hK K hX
        try dsimp only [List.getElem_toArray, List.getElem_cons_succ, List.getElem_cons_zero]
        try simp only [Act.put, List.setIfInBounds_toArray, List.set_cons_zero, List.set_cons_succ]
        refine nextG (i := 3) (by kernel_rfl) rfl (by rfl) hCl (fun K hK => ?_)
        refine T.opIn_app3 (ys := []) T.elS (.tmp 11) (.tmp 13) rfl (HI.out _ (U.trans A2)) rfl bP _ 0 rfl RP2 (by omega) (by omega) (by omega) ?_
        intro vP X3 RP3 hg3 hv3
        rw [Nat.zero_add, List.nil_append] at RP3
        obtain ⟨sP, tP, rfl, _, _⟩ := row_val RP3
        have A3 := Up.grown A2 hg3 (fun k e => by have := row_base RP2 k e; omega)
        have e3 := hg3.size
        have kx3 := grown_blk hg3 kx2 (row_block RP2 (by omega))
        have RQ3 := row_keep RQ2 hg3 (fun g e h => ap2 g h.symm e)
        have ap3 : ∀ g, Value.ownBlock (.slice sP ps.length tP) = some g → Value.ownBlock (.slice (some ⟨bQ, 0, none⟩) 0 0) = some g → False := fun g h1 h2 => by
          rcases hv3 with e | e
          · exact ap2 g (e.symm.trans h1) h2
          · have a : X2.heap.size = g := Option.some.inj (e.symm.trans h1)
            have b := (RQ2.lt g h2).2
            omega
        refine hK.out _ _ ⟨U.trans A3, Up.blk A3 kC, Up.blk A3 kZ⟩ (fun _ hCl => ?_)
        clear hK K
        try dsimp only [List.getElem_toArray, List.getElem_cons_succ, List.getElem_cons_zero]
        try simp only [Act.put, List.setIfInBounds_toArray, List.set_cons_zero, List.set_cons_succ]
        refine takeG (i := 8) (d := (some 19)) (v := ?v10) rfl rfl (by kernel_rfl) (by kernel_rfl) (by decide) hCl (by kernel_rfl) (by kernel_rfl) (by kernel_rfl) (fun _ _ _ h => h) (by rfl) ?hy10 (fun _ _ _ => trivial) (by assumption) (fun hCl' => ?_)
        case hy10 => ((intro w hSw; (try dsimp only at hSw); (try go_split_ands); go_simp); try with_reducible rfl)
        simp only [Act.put, List.setIfInBounds_toArray, List.set_cons_zero, List.set_cons_succ]
        replace hCl := hCl'; clear hCl'
        refine nextG (i := 7) (by kernel_rfl) rfl (by rfl) hCl (fun K hK => ?_)
        refine T.opIn_app3 (ys := []) T.elS (.tmp 15) (.tmp 17) rfl (HJ.out _ (U.trans A3)) rfl bQ _ 0 rfl RQ3 (by omega) (by omega) (by omega) ?_
        intro vQ X4 RQ4 hg4 hv4
        rw [Nat.zero_add, List.nil_append] at RQ4
        obtain ⟨sQ, tQ, rfl, _, _⟩ := row_val RQ4
        have A4 := Up.grown A3 hg4 (fun k e => by have := row_base RQ3 k e; omega)
        have e4 := hg4.size
        have kx4 := grown_blk hg4 kx3 (row_block RQ3 (by omega))
        have RP4 := row_keep RP3 hg4 (fun g e h => ap3 g e h.symm)
        have ap4 : ∀ g, Value.ownBlock (.slice sP ps.length tP) = some g → Value.ownBlock (.slice sQ qs.length tQ) = some g → False := fun g h1 h2 => by
          rcases hv4 with e | e
          · exact ap3 g h1 (e.symm.trans h2)
          · have a : X3.heap.size = g := Option.some.inj (e.symm.trans h2)
            have b := (RP3.lt g h1).2
            omega
        refine hK.out _ _ ⟨U.trans A4, Up.blk A4 kC, Up.blk A4 kZ⟩ (fun _ hCl => ?_)
        clear hK K
        try dsimp only [List.getElem_toArray, List.getElem_cons_succ, List.getElem_cons_zero]
        try simp only [Act.put, List.setIfInBounds_toArray, List.set_cons_zero, List.set_cons_succ]
        have UL := U.trans A4
        have tkC := Up.blk A4 kC
        have tkZ := Up.blk A4 kZ
        have zf := frozB kx4
        refine nextG (i := 9) (by kernel_rfl) rfl (by rfl) hCl (fun K hK => ?_)
        go_simp
        obtain ⟨Y0, hY⟩ : ∃ X, X4.setCell ⟨q0 + 1 + 1, 5, none⟩ (.slice sP ps.length tP) = X := ⟨_, rfl⟩
        have UY0 : Up w Y0 := by rw [← hY]; exact UL.set (p := ⟨q0 + 1 + 1, 5, none⟩) (show w.heap.size ≤ q0 + 1 + 1 by omega) _
        have kY0 : mblk Y0 (q0 + 1 + 1) = some (.cells (BoC M bl bh rl rh (.slice sP ps.length tP) (.slice aQ qs.length cQ) (.slice aL ls.length cL)) 27 (0, 0)) := by rw [← hY]; exact blk_put kx4 5 _
        have tkC0 : mblk Y0 (q0) = some (.cells (BoC M bl bh rl rh (.slice aP ps.length cP) (.slice aQ qs.length cQ) (.slice aL ls.length cL)) 27 (0, 0)) := by rw [← hY, blk_set _ _ _ _ (by show q0 ≠ q0 + 1 + 1; omega)]; exact tkC
        have tkZ0 : mblk Y0 (q0 + 1) = some (.cells #[.int .i64 0, .int .i64 0, .int .i64 0, .int .i64 0, .int .i64 0, .slice none 0 0, .slice none 0 0, .slice none 0 0] 27 (0, 0)) := by rw [← hY, blk_set _ _ _ _ (by show q0 + 1 ≠ q0 + 1 + 1; omega)]; exact tkZ
        have SP0 := row_other RP4 (grown_set X4 (q0 + 1 + 1) 5 (.slice sP ps.length tP)) (row_block RP4 (show q0 + 1 + 1 < bP by omega))
        have SQ0 := row_other RQ4 (grown_set X4 (q0 + 1 + 1) 5 (.slice sP ps.length tP)) (row_block RQ4 (show q0 + 1 + 1 < bQ by omega))
        rw [hY] at SP0 SQ0
        try rw [hY]
        refine hK.out _ _ ⟨UY0, tkC0, tkZ0⟩ (fun _ hCl => ?_)
        clear hK K hY zf
        try dsimp only [List.getElem_toArray, List.getElem_cons_succ, List.getElem_cons_zero]
        try simp only [Act.put, List.setIfInBounds_toArray, List.set_cons_zero, List.set_cons_succ]
        clear UL
        have UL := UY0
        refine takeG (i := 10) (d := (some 20)) (v := ?v12) rfl rfl (by kernel_rfl) (by kernel_rfl) (by decide) hCl (by kernel_rfl) (by kernel_rfl) (by kernel_rfl) (fun _ _ _ h => h) (by rfl) ?hy12 (fun _ _ _ => trivial) (by assumption) (fun hCl' => ?_)
        case hy12 => ((intro w hSw; (try dsimp only at hSw); (try go_split_ands); go_simp); try with_reducible rfl)
        simp only [Act.put, List.setIfInBounds_toArray, List.set_cons_zero, List.set_cons_succ]
        replace hCl := hCl'; clear hCl'
        have zf := frozB kY0
        clear hCl
        refine lastG (i := 11) (by kernel_rfl) rfl (by rfl) (by decide) (fun K hK => ?_)
        go_simp
        obtain ⟨Y1, hY⟩ : ∃ X, Y0.setCell ⟨q0 + 1 + 1, 6, none⟩ (.slice sQ qs.length tQ) = X := ⟨_, rfl⟩
        have UY1 : Up w Y1 := by rw [← hY]; exact UL.set (p := ⟨q0 + 1 + 1, 6, none⟩) (show w.heap.size ≤ q0 + 1 + 1 by omega) _
        have kY1 : mblk Y1 (q0 + 1 + 1) = some (.cells (BoC M bl bh rl rh (.slice sP ps.length tP) (.slice sQ qs.length tQ) (.slice aL ls.length cL)) 27 (0, 0)) := by rw [← hY]; exact blk_put kY0 6 _
        have tkC1 : mblk Y1 (q0) = some (.cells (BoC M bl bh rl rh (.slice aP ps.length cP) (.slice aQ qs.length cQ) (.slice aL ls.length cL)) 27 (0, 0)) := by rw [← hY, blk_set _ _ _ _ (by show q0 ≠ q0 + 1 + 1; omega)]; exact tkC0
        have tkZ1 : mblk Y1 (q0 + 1) = some (.cells #[.int .i64 0, .int .i64 0, .int .i64 0, .int .i64 0, .int .i64 0, .slice none 0 0, .slice none 0 0, .slice none 0 0] 27 (0, 0)) := by rw [← hY, blk_set _ _ _ _ (by show q0 + 1 ≠ q0 + 1 + 1; omega)]; exact tkZ0
        have SP1 := row_other SP0 (grown_set Y0 (q0 + 1 + 1) 6 (.slice sQ qs.length tQ)) (row_block SP0 (show q0 + 1 + 1 < bP by omega))
        have SQ1 := row_other SQ0 (grown_set Y0 (q0 + 1 + 1) 6 (.slice sQ qs.length tQ)) (row_block SQ0 (show q0 + 1 + 1 < bQ by omega))
        rw [hY] at SP1 SQ1
        try rw [hY]
        refine hK.out _ _ ?_
        clear hK K hY zf
        clear UL
        have UL := UY1
        refine doneG (by kernel_rfl) ?_ _
        refine S.nrm_intro ?_
        exact HKey.out _ bP bQ sP tP sQ tQ ⟨UL, tkC1, tkZ1, kY1, Lib.hid SP1, Lib.hid SQ1, Lib.hid ap4, by omega, by omega⟩
    · skip
      refine (fun K hK => ?_)
      go_simp
      have A1 : Up X0 (X0.alloc (.cells #[] 23)).drew := Up.drew (Up.alloc (Up.refl X0) _)
      have e1 : X0.heap.size ≤ (X0.alloc (.cells #[] 23)).drew.heap.size := by have := Up.size (Up.drew (Up.alloc (Up.refl X0) (.cells #[] 23))); exact this
      have kx1 : mblk (X0.alloc (.cells #[] 23)).drew (q0 + 1 + 1) = some (.cells (BoC M bl bh rl rh (.slice aP ps.length cP) (.slice aQ qs.length cQ) (.slice aL ls.length cL)) 27 (0, 0)) := by rw [blk_drew]; exact blk_keep (.cells #[] 23) kX
      have lx1 := blk_lt kX
      have RQ1 := row_up (World.ownsRow_lit (base := X0.heap.size) (e := 23) (size := 2) X0 #[] 0 (Nat.le_refl _) (by unfold maxLen; omega) rfl) (Up.refl _).drew
      obtain ⟨bQ, hqQ⟩ : ∃ q, X0.heap.size = q := ⟨_, rfl⟩
      obtain ⟨X1, hX⟩ : ∃ X, (X0.alloc (.cells #[] 23)).drew = X := ⟨_, rfl⟩
      rw [hX] at A1 e1 kx1 RQ1
      rw [hqQ] at e1 lx1 RQ1
      have zQ : bQ < X1.heap.size := (RQ1.lt bQ rfl).2
      try rw [hX]
      try rw [hqQ]
      refine hK.out _ _ ⟨U.trans A1, Up.blk A1 kC, Up.blk A1 kZ⟩ (fun _ hCl => ?_)
      clear hK K hX
      try dsimp only [List.getElem_toArray, List.getElem_cons_succ, List.getElem_cons_zero]
      try simp only [Act.put, List.setIfInBounds_toArray, List.set_cons_zero, List.set_cons_succ]
      refine nextG (i := 0) (by kernel_rfl) rfl (by rfl) hCl (fun K hK => ?_)
      go_simp
      have A2 : Up X0 (X1.alloc (.cells #[] 23)) := (Up.alloc A1 _)
      have e2 : X1.heap.size ≤ (X1.alloc (.cells #[] 23)).heap.size := by have := Up.size ((Up.alloc (Up.refl X1) (.cells #[] 23))); exact this
      have kx2 : mblk (X1.alloc (.cells #[] 23)) (q0 + 1 + 1) = some (.cells (BoC M bl bh rl rh (.slice aP ps.length cP) (.slice aQ qs.length cQ) (.slice aL ls.length cL)) 27 (0, 0)) := by exact blk_keep (.cells #[] 23) kx1
      have lx2 := blk_lt kx1
      have RP2 := World.ownsRow_lit (base := X1.heap.size) (e := 23) (size := 2) X1 #[] 0 (Nat.le_refl _) (by unfold maxLen; omega) rfl
      have RQ2 := World.ownsRow.alloc RQ1 (.cells #[] 23)
      have LQ2 := fun k e => (RQ1.lt k e).2
      obtain ⟨bP, hqP⟩ : ∃ q, X1.heap.size = q := ⟨_, rfl⟩
      obtain ⟨X2, hX⟩ : ∃ X, (X1.alloc (.cells #[] 23)) = X := ⟨_, rfl⟩
      rw [hX] at A2 e2 kx2 RP2 RQ2
      rw [hqP] at e2 lx2 RP2 LQ2
      have zP : bP < X2.heap.size := (RP2.lt bP rfl).2
      have zQ2 : bQ ≤ X2.heap.size := by omega
      have ap2 : ∀ g, Value.ownBlock (.slice (some ⟨bP, 0, none⟩) 0 0) = some g → Value.ownBlock (.slice (some ⟨bQ, 0, none⟩) 0 0) = some g → False := fun g h1 h2 => by have a := LQ2 g h2; have b : bP = g := Option.some.inj h1; omega
      try rw [hX]
      try rw [hqP]
      refine hK.out _ _ ⟨U.trans A2, Up.blk A2 kC, Up.blk A2 kZ⟩ (fun _ hCl => ?_)
      clear hK K hX
      try dsimp only [List.getElem_toArray, List.getElem_cons_succ, List.getElem_cons_zero]
      try simp only [Act.put, List.setIfInBounds_toArray, List.set_cons_zero, List.set_cons_succ]
      refine nextG (i := 3) (by kernel_rfl) rfl (by rfl) hCl (fun K hK => ?_)
      refine T.opIn_app3 (ys := []) T.elS (.tmp 11) (.tmp 13) rfl (HI.out _ (U.trans A2)) rfl bP _ 0 rfl RP2 (by omega) (by omega) (by omega) ?_
      intro vP X3 RP3 hg3 hv3
      rw [Nat.zero_add, List.nil_append] at RP3
      obtain ⟨sP, tP, rfl, _, _⟩ := row_val RP3
      have A3 := Up.grown A2 hg3 (fun k e => by have := row_base RP2 k e; omega)
      have e3 := hg3.size
      have kx3 := grown_blk hg3 kx2 (row_block RP2 (by omega))
      have RQ3 := row_keep RQ2 hg3 (fun g e h => ap2 g h.symm e)
      have ap3 : ∀ g, Value.ownBlock (.slice sP ps.length tP) = some g → Value.ownBlock (.slice (some ⟨bQ, 0, none⟩) 0 0) = some g → False := fun g h1 h2 => by
        rcases hv3 with e | e
        · exact ap2 g (e.symm.trans h1) h2
        · have a : X2.heap.size = g := Option.some.inj (e.symm.trans h1)
          have b := (RQ2.lt g h2).2
          omega
      refine hK.out _ _ ⟨U.trans A3, Up.blk A3 kC, Up.blk A3 kZ⟩ (fun _ hCl => ?_)
      clear hK K
      try dsimp only [List.getElem_toArray, List.getElem_cons_succ, List.getElem_cons_zero]
      try simp only [Act.put, List.setIfInBounds_toArray, List.set_cons_zero, List.set_cons_succ]
      refine takeG (i := 8) (d := (some 19)) (v := ?v15) rfl rfl (by kernel_rfl) (by kernel_rfl) (by decide) hCl (by kernel_rfl) (by kernel_rfl) (by kernel_rfl) (fun _ _ _ h => h) (by rfl) ?hy15 (fun _ _ _ => trivial) (by assumption) (fun hCl' => ?_)
      case hy15 => ((intro w hSw; (try dsimp only at hSw); (try go_split_ands); go_simp); try with_reducible rfl)
      simp only [Act.put, List.setIfInBounds_toArray, List.set_cons_zero, List.set_cons_succ]
      replace hCl := hCl'; clear hCl'
      refine nextG (i := 7) (by kernel_rfl) rfl (by rfl) hCl (fun K hK => ?_)
      refine T.opIn_app3 (ys := []) T.elS (.tmp 15) (.tmp 17) rfl (HJ.out _ (U.trans A3)) rfl bQ _ 0 rfl RQ3 (by omega) (by omega) (by omega) ?_
      intro vQ X4 RQ4 hg4 hv4
      rw [Nat.zero_add, List.nil_append] at RQ4
      obtain ⟨sQ, tQ, rfl, _, _⟩ := row_val RQ4
      have A4 := Up.grown A3 hg4 (fun k e => by have := row_base RQ3 k e; omega)
      have e4 := hg4.size
      have kx4 := grown_blk hg4 kx3 (row_block RQ3 (by omega))
      have RP4 := row_keep RP3 hg4 (fun g e h => ap3 g e h.symm)
      have ap4 : ∀ g, Value.ownBlock (.slice sP ps.length tP) = some g → Value.ownBlock (.slice sQ qs.length tQ) = some g → False := fun g h1 h2 => by
        rcases hv4 with e | e
        · exact ap3 g h1 (e.symm.trans h2)
        · have a : X3.heap.size = g := Option.some.inj (e.symm.trans h2)
          have b := (RP3.lt g h1).2
          omega
      refine hK.out _ _ ⟨U.trans A4, Up.blk A4 kC, Up.blk A4 kZ⟩ (fun _ hCl => ?_)
      clear hK K
      try dsimp only [List.getElem_toArray, List.getElem_cons_succ, List.getElem_cons_zero]
      try simp only [Act.put, List.setIfInBounds_toArray, List.set_cons_zero, List.set_cons_succ]
      have UL := U.trans A4
      have tkC := Up.blk A4 kC
      have tkZ := Up.blk A4 kZ
      have zf := frozB kx4
      refine nextG (i := 9) (by kernel_rfl) rfl (by rfl) hCl (fun K hK => ?_)
      go_simp
      obtain ⟨Y0, hY⟩ : ∃ X, X4.setCell ⟨q0 + 1 + 1, 5, none⟩ (.slice sP ps.length tP) = X := ⟨_, rfl⟩
      have UY0 : Up w Y0 := by rw [← hY]; exact UL.set (p := ⟨q0 + 1 + 1, 5, none⟩) (show w.heap.size ≤ q0 + 1 + 1 by omega) _
      have kY0 : mblk Y0 (q0 + 1 + 1) = some (.cells (BoC M bl bh rl rh (.slice sP ps.length tP) (.slice aQ qs.length cQ) (.slice aL ls.length cL)) 27 (0, 0)) := by rw [← hY]; exact blk_put kx4 5 _
      have tkC0 : mblk Y0 (q0) = some (.cells (BoC M bl bh rl rh (.slice aP ps.length cP) (.slice aQ qs.length cQ) (.slice aL ls.length cL)) 27 (0, 0)) := by rw [← hY, blk_set _ _ _ _ (by show q0 ≠ q0 + 1 + 1; omega)]; exact tkC
      have tkZ0 : mblk Y0 (q0 + 1) = some (.cells #[.int .i64 0, .int .i64 0, .int .i64 0, .int .i64 0, .int .i64 0, .slice none 0 0, .slice none 0 0, .slice none 0 0] 27 (0, 0)) := by rw [← hY, blk_set _ _ _ _ (by show q0 + 1 ≠ q0 + 1 + 1; omega)]; exact tkZ
      have SP0 := row_other RP4 (grown_set X4 (q0 + 1 + 1) 5 (.slice sP ps.length tP)) (row_block RP4 (show q0 + 1 + 1 < bP by omega))
      have SQ0 := row_other RQ4 (grown_set X4 (q0 + 1 + 1) 5 (.slice sP ps.length tP)) (row_block RQ4 (show q0 + 1 + 1 < bQ by omega))
      rw [hY] at SP0 SQ0
      try rw [hY]
      refine hK.out _ _ ⟨UY0, tkC0, tkZ0⟩ (fun _ hCl => ?_)
      clear hK K hY zf
      try dsimp only [List.getElem_toArray, List.getElem_cons_succ, List.getElem_cons_zero]
      try simp only [Act.put, List.setIfInBounds_toArray, List.set_cons_zero, List.set_cons_succ]
      clear UL
      have UL := UY0
      refine takeG (i := 10) (d := (some 20)) (v := ?v17) rfl rfl (by kernel_rfl) (by kernel_rfl) (by decide) hCl (by kernel_rfl) (by kernel_rfl) (by kernel_rfl) (fun _ _ _ h => h) (by rfl) ?hy17 (fun _ _ _ => trivial) (by assumption) (fun hCl' => ?_)
      case hy17 => ((intro w hSw; (try dsimp only at hSw); (try go_split_ands); go_simp); try with_reducible rfl)
      simp only [Act.put, List.setIfInBounds_toArray, List.set_cons_zero, List.set_cons_succ]
      replace hCl := hCl'; clear hCl'
      have zf := frozB kY0
      clear hCl
      refine lastG (i := 11) (by kernel_rfl) rfl (by rfl) (by decide) (fun K hK => ?_)
      go_simp
      obtain ⟨Y1, hY⟩ : ∃ X, Y0.setCell ⟨q0 + 1 + 1, 6, none⟩ (.slice sQ qs.length tQ) = X := ⟨_, rfl⟩
      have UY1 : Up w Y1 := by rw [← hY]; exact UL.set (p := ⟨q0 + 1 + 1, 6, none⟩) (show w.heap.size ≤ q0 + 1 + 1 by omega) _
      have kY1 : mblk Y1 (q0 + 1 + 1) = some (.cells (BoC M bl bh rl rh (.slice sP ps.length tP) (.slice sQ qs.length tQ) (.slice aL ls.length cL)) 27 (0, 0)) := by rw [← hY]; exact blk_put kY0 6 _
      have tkC1 : mblk Y1 (q0) = some (.cells (BoC M bl bh rl rh (.slice aP ps.length cP) (.slice aQ qs.length cQ) (.slice aL ls.length cL)) 27 (0, 0)) := by rw [← hY, blk_set _ _ _ _ (by show q0 ≠ q0 + 1 + 1; omega)]; exact tkC0
      have tkZ1 : mblk Y1 (q0 + 1) = some (.cells #[.int .i64 0, .int .i64 0, .int .i64 0, .int .i64 0, .int .i64 0, .slice none 0 0, .slice none 0 0, .slice none 0 0] 27 (0, 0)) := by rw [← hY, blk_set _ _ _ _ (by show q0 + 1 ≠ q0 + 1 + 1; omega)]; exact tkZ0
      have SP1 := row_other SP0 (grown_set Y0 (q0 + 1 + 1) 6 (.slice sQ qs.length tQ)) (row_block SP0 (show q0 + 1 + 1 < bP by omega))
      have SQ1 := row_other SQ0 (grown_set Y0 (q0 + 1 + 1) 6 (.slice sQ qs.length tQ)) (row_block SQ0 (show q0 + 1 + 1 < bQ by omega))
      rw [hY] at SP1 SQ1
      try rw [hY]
      refine hK.out _ _ ?_
      clear hK K hY zf
      clear UL
      have UL := UY1
      refine doneG (by kernel_rfl) ?_ _
      refine S.nrm_intro ?_
      exact HKey.out _ bP bQ sP tP sQ tQ ⟨UL, tkC1, tkZ1, kY1, Lib.hid SP1, Lib.hid SQ1, Lib.hid ap4, by omega, by omega⟩
  clear U kC kZ kX
  rintro Z1 bP bQ sP tP sQ tQ ⟨U, kC, kZ, kX, HPr, HQr, HAP, gP, gQ⟩
  obtain ⟨g2, c2, cur, eg2, hg2, kg, hc2, hm2, hz2⟩ := row_open HPr.out (by omega)
  injection eg2 with ea2 eb2 ec2
  subst ea2
  replace ec2 := ec2.symm
  subst ec2
  have IX2 : Tab 2 T.encS (0, 0) Z1 (.slice (some ⟨g2, 0, none⟩) ps.length c2) ps := Tab.of_row HPr.out (by decide) (by omega)
  have HAo := Lib.hid (fun (e : Value.ownBlock (.slice sQ qs.length tQ) = some g2) => HAP.out g2 rfl e)
  have dkC : q0 < g2 := by omega
  have dkZ : q0 + 1 < g2 := by omega
  have dkX : q0 + 1 + 1 < g2 := by omega
  have gw2 : w.heap.size ≤ g2 := by omega
  obtain ⟨⟨r0, r1⟩, hss⟩ : ∃ s, ps.getD kk (0, 0) = s := ⟨_, rfl⟩
  have g0 := Tab.at0 IX2 hkk 0 (by omega)
  have g1 := Tab.at0 IX2 hkk 1 (by omega)
  rw [hss] at g0 g1
  rw [Nat.add_zero] at g0
  replace g0 : Z1.cell? ⟨g2, kk * 2, none⟩ = some (.int .i64 r0) := g0
  replace g1 : Z1.cell? ⟨g2, kk * 2 + 1, none⟩ = some (.int .i64 r1) := g1
  have HU := Lib.hid U
  have lg2 : g2 < Z1.heap.size := blk_lt kg
  have Fg := Lib.hid (fun w (u : Up Z1 w) => cellB (u.blk kg))
  clear HPr HAP hss
  go_wp2_with fail
  have F3 := Lib.hid (fun w (u : Up Z1 w) => cellB (u.blk kC))
  have F4 := Lib.hid (fun w (u : Up Z1 w) => cellB (u.blk kZ))
  have F5 := Lib.hid (fun w (u : Up Z1 w) => cellB (u.blk kX))
  refine (wpIn_wide (n := 5)).1 ?_
  refine wpIn_nrm ?_
  refine T.regionQ (fun w' => Up Z1 w') 7 1 hmx (by kernel_rfl) (by kernel_rfl) ((Up.refl Z1).drew) (fun hCl => ?_)
  refine T.qT 0 (some 23) ?v19 rfl rfl hCl ?hy19 (fun hCl' => ?_)
  case hy19 => (intro w hSw; refine T.qVal ?_ hSw; (try dsimp only [List.getElem_toArray, List.getElem_cons_succ, List.getElem_cons_zero]); go_simp; try with_reducible rfl)
  simp only [Act.put, List.setIfInBounds_toArray, List.set_cons_zero, List.set_cons_succ]; replace hCl := hCl'; clear hCl'
  refine T.qT 2 (some 25) ?v20 rfl rfl hCl ?hy20 (fun hCl' => ?_)
  case hy20 => (intro w hSw; refine T.qVal ?_ hSw; (try dsimp only [List.getElem_toArray, List.getElem_cons_succ, List.getElem_cons_zero]); go_simp; try with_reducible rfl)
  simp only [Act.put, List.setIfInBounds_toArray, List.set_cons_zero, List.set_cons_succ]; replace hCl := hCl'; clear hCl'
  refine T.qT 3 (some 26) ?v21 rfl rfl hCl ?hy21 (fun hCl' => ?_)
  case hy21 => (intro w hSw; refine T.qVal ?_ hSw; (try dsimp only [List.getElem_toArray, List.getElem_cons_succ, List.getElem_cons_zero]); go_simp; try with_reducible rfl)
  simp only [Act.put, List.setIfInBounds_toArray, List.set_cons_zero, List.set_cons_succ]; replace hCl := hCl'; clear hCl'
  refine T.qT 4 (some 27) ?v22 rfl rfl hCl ?hy22 (fun hCl' => ?_)
  case hy22 => (intro w hSw; refine T.qVal ?_ hSw; (try dsimp only [List.getElem_toArray, List.getElem_cons_succ, List.getElem_cons_zero]); go_simp; try with_reducible rfl)
  simp only [Act.put, List.setIfInBounds_toArray, List.set_cons_zero, List.set_cons_succ]; replace hCl := hCl'; clear hCl'
  refine T.qT 1 (some 24) ?v23 rfl rfl hCl ?hy23 (fun hCl' => ?_)
  case hy23 => (intro w hSw; refine T.qVal ?_ hSw; (have fF3 := F3.out w hSw; have fF4 := F4.out w hSw; have fF5 := F5.out w hSw; have fFg := Fg.out w hSw); (try dsimp only [List.getElem_toArray, List.getElem_cons_succ, List.getElem_cons_zero]); go_simp; try with_reducible rfl)
  simp only [Act.put, List.setIfInBounds_toArray, List.set_cons_zero, List.set_cons_succ]; replace hCl := hCl'; clear hCl'
  refine T.qT 5 (some 28) ((SpV n n)) rfl rfl hCl ?hy24 (fun hCl' => ?_)
  case hy24 => (intro w hSw; (have fF3 := F3.out w hSw; have fF4 := F4.out w hSw; have fF5 := F5.out w hSw; have fFg := Fg.out w hSw); (try dsimp only [List.getElem_toArray, List.getElem_cons_succ, List.getElem_cons_zero]); go_simp; (refine (callsIn_wide.2 (HTo.out _ _ w)).mono ?_; rintro e w3 ⟨rfl, u3⟩; exact ⟨rfl, hSw.trans u3⟩))
  simp only [Act.put, List.setIfInBounds_toArray, List.set_cons_zero, List.set_cons_succ]
  replace hCl := hCl'; clear hCl'
  refine T.qT 6 (some 29) ?v25 rfl rfl hCl ?hy25 (fun hCl' => ?_)
  case hy25 => (intro w hSw; refine T.qVal ?_ hSw; (try dsimp only [List.getElem_toArray, List.getElem_cons_succ, List.getElem_cons_zero]); go_simp; try with_reducible rfl)
  simp only [Act.put, List.setIfInBounds_toArray, List.set_cons_zero, List.set_cons_succ]; replace hCl := hCl'; clear hCl'
  refine T.tail_intro (by kernel_rfl) (fun Y2 hY2 => ?_)
  replace kg := hY2.blk kg
  replace g0 := (hY2.facts.1 g2 _ lg2).trans g0
  replace g1 := (hY2.facts.1 g2 _ lg2).trans g1
  replace IX2 := IX2.up hY2
  have HQr := Lib.hid (row_up HQr.out hY2)
  have zg := frozB kg
  have n01 : ¬ kk * 2 = kk * 2 + 1 := by omega
  clear Fg
  replace U := U.trans hY2
  replace kC := hY2.blk kC
  replace kZ := hY2.blk kZ
  replace kX := hY2.blk kX
  clear F3 F4 F5 hY2
  refine lastG (i := 7) (by kernel_rfl) rfl (by rfl) (by decide) (fun K hK => ?_)
  go_simp
  refine hK.out _ _ ?_
  clear hK K
  refine doneG (by kernel_rfl) ?_ _
  refine S.nrm_intro ?_
  have IX3 := Tab.put2 (a := n) (b := n) (x := (n, n)) IX2 kg (by omega) hkk rfl rfl
  have U5 := ((U.set (p := ⟨g2, kk * 2, none⟩) (show w.heap.size ≤ g2 by omega) (.int .i64 n)).set (p := ⟨g2, kk * 2 + 1, none⟩) (show w.heap.size ≤ g2 by omega) (.int .i64 n))
  have jkC : mblk ((Y2.setCell ⟨g2, kk * 2, none⟩ (.int .i64 n)).setCell ⟨g2, kk * 2 + 1, none⟩ (.int .i64 n)) (q0) = some (.cells (BoC M bl bh rl rh (.slice aP ps.length cP) (.slice aQ qs.length cQ) (.slice aL ls.length cL)) 27 (0, 0)) := by rw [blk_set _ _ _ _ (by show q0 ≠ g2; omega), blk_set _ _ _ _ (by show q0 ≠ g2; omega)]; exact kC
  have jkZ : mblk ((Y2.setCell ⟨g2, kk * 2, none⟩ (.int .i64 n)).setCell ⟨g2, kk * 2 + 1, none⟩ (.int .i64 n)) (q0 + 1) = some (.cells #[.int .i64 0, .int .i64 0, .int .i64 0, .int .i64 0, .int .i64 0, .slice none 0 0, .slice none 0 0, .slice none 0 0] 27 (0, 0)) := by rw [blk_set _ _ _ _ (by show q0 + 1 ≠ g2; omega), blk_set _ _ _ _ (by show q0 + 1 ≠ g2; omega)]; exact kZ
  have jkX : mblk ((Y2.setCell ⟨g2, kk * 2, none⟩ (.int .i64 n)).setCell ⟨g2, kk * 2 + 1, none⟩ (.int .i64 n)) (q0 + 1 + 1) = some (.cells (BoC M bl bh rl rh (.slice (some ⟨g2, 0, none⟩) ps.length c2) (.slice sQ qs.length tQ) (.slice aL ls.length cL)) 27 (0, 0)) := by rw [blk_set _ _ _ _ (by show q0 + 1 + 1 ≠ g2; omega), blk_set _ _ _ _ (by show q0 + 1 + 1 ≠ g2; omega)]; exact kX
  obtain ⟨W6, hW6⟩ : ∃ z, ((Y2.setCell ⟨g2, kk * 2, none⟩ (.int .i64 n)).setCell ⟨g2, kk * 2 + 1, none⟩ (.int .i64 n)) = z := ⟨_, rfl⟩
  rw [hW6] at IX3 U5 jkC jkZ jkX
  try rw [hW6]
  have HR2 : W6.ownsRow bQ 23 2 (.slice sQ qs.length tQ) qs.length (T.flat 2 T.encS qs) := by
    rw [← hW6]
    exact row_keep (row_keep HQr.out (grown_set Y2 g2 (kk * 2) (.int .i64 n)) (fun g e h => HAo.out (e.trans h))) (grown_set (Y2.setCell ⟨g2, kk * 2, none⟩ (.int .i64 n)) g2 (kk * 2 + 1) (.int .i64 n)) (fun g e h => HAo.out (e.trans h))
  clear HQr
  have HQr := Lib.hid HR2
  clear HR2
  clear kC kZ kX U HU zg n01 g0 g1 kg IX2 lg2 HAo
  have U := U5
  have kC := jkC
  have kZ := jkZ
  have kX := jkX
  clear U5 jkC jkZ jkX
  have zz := frozB kZ
  have HIP := Lib.hid (show Sps ((((((((W6.setCell ⟨q0 + 1, 0, none⟩ (.int .i64 M)).setCell ⟨q0 + 1, 1, none⟩ (.int .i64 bl)).setCell ⟨q0 + 1, 2, none⟩ (.int .i64 bh)).setCell ⟨q0 + 1, 3, none⟩ (.int .i64 rl)).setCell ⟨q0 + 1, 4, none⟩ (.int .i64 rh)).setCell ⟨q0 + 1, 5, none⟩ (.slice (some ⟨g2, 0, none⟩) ps.length c2)).setCell ⟨q0 + 1, 6, none⟩ (.slice sQ qs.length tQ)).setCell ⟨q0 + 1, 7, none⟩ (.slice aL ls.length cL)) (.slice (some ⟨g2, 0, none⟩) ps.length c2) (ps.set kk (n, n)) from Tab.keepB IX3 (by simp [World.setCell]) (fun g e => put8_other W6 (by have : g2 = g := Option.some.inj e; omega) (.int .i64 M) (.int .i64 bl) (.int .i64 bh) (.int .i64 rl) (.int .i64 rh) (.slice (some ⟨g2, 0, none⟩) ps.length c2) (.slice sQ qs.length tQ) (.slice aL ls.length cL)))
  have HIQ := Lib.hid (show Sps ((((((((W6.setCell ⟨q0 + 1, 0, none⟩ (.int .i64 M)).setCell ⟨q0 + 1, 1, none⟩ (.int .i64 bl)).setCell ⟨q0 + 1, 2, none⟩ (.int .i64 bh)).setCell ⟨q0 + 1, 3, none⟩ (.int .i64 rl)).setCell ⟨q0 + 1, 4, none⟩ (.int .i64 rh)).setCell ⟨q0 + 1, 5, none⟩ (.slice (some ⟨g2, 0, none⟩) ps.length c2)).setCell ⟨q0 + 1, 6, none⟩ (.slice sQ qs.length tQ)).setCell ⟨q0 + 1, 7, none⟩ (.slice aL ls.length cL)) (.slice sQ qs.length tQ) qs from Tab.keepB (Tab.of_row HQr.out (by decide) (by omega)) (by simp [World.setCell]) (fun g e => put8_other W6 (by have := row_base HQr.out g e; omega) (.int .i64 M) (.int .i64 bl) (.int .i64 bh) (.int .i64 rl) (.int .i64 rh) (.slice (some ⟨g2, 0, none⟩) ps.length c2) (.slice sQ qs.length tQ) (.slice aL ls.length cL)))
  have KZ := Lib.hid (show mblk ((((((((W6.setCell ⟨q0 + 1, 0, none⟩ (.int .i64 M)).setCell ⟨q0 + 1, 1, none⟩ (.int .i64 bl)).setCell ⟨q0 + 1, 2, none⟩ (.int .i64 bh)).setCell ⟨q0 + 1, 3, none⟩ (.int .i64 rl)).setCell ⟨q0 + 1, 4, none⟩ (.int .i64 rh)).setCell ⟨q0 + 1, 5, none⟩ (.slice (some ⟨g2, 0, none⟩) ps.length c2)).setCell ⟨q0 + 1, 6, none⟩ (.slice sQ qs.length tQ)).setCell ⟨q0 + 1, 7, none⟩ (.slice aL ls.length cL)) (q0 + 1) = some (.cells (BoC M bl bh rl rh (.slice (some ⟨g2, 0, none⟩) ps.length c2) (.slice sQ qs.length tQ) (.slice aL ls.length cL)) 27 (0, 0)) from put8_same kZ (.int .i64 M) (.int .i64 bl) (.int .i64 bh) (.int .i64 rl) (.int .i64 rh) (.slice (some ⟨g2, 0, none⟩) ps.length c2) (.slice sQ qs.length tQ) (.slice aL ls.length cL))
  have UZ := Lib.hid (Up.put8 U (show w.heap.size ≤ q0 + 1 by omega) (.int .i64 M) (.int .i64 bl) (.int .i64 bh) (.int .i64 rl) (.int .i64 rh) (.slice (some ⟨g2, 0, none⟩) ps.length c2) (.slice sQ qs.length tQ) (.slice aL ls.length cL))
  try clear hW6
  clear IX3 HQr HI HJ HTo
  go_wp2_with fail
  have cc := cellB KZ.out
  exact bodyPost_ret (v := BoV M bl bh rl rh (.slice (some ⟨g2, 0, none⟩) ps.length c2) (.slice sQ qs.length tQ) (.slice aL ls.length cL)) (by simp [results, Try.results44, go_sem, cc]) rfl ⟨⟨_, _, _, _, rfl, HIP.out, HIQ.out⟩, UZ.out⟩
set_option maxRecDepth 100000 in
set_option maxHeartbeats 4000000 in
set_option linter.unusedSimpArgs false in
theorem l_narrowed_q {M n : Int} {kk : Nat} {w : World} (I : Sps w (.slice aP nP cP) ps) (J : Sps w (.slice aQ nQ cQ) qs) (K : Lks w (.slice aL nL cL) ls) (hkk : kk < qs.length) (h4 : ps.length ≤ 4) (h5 : qs.length ≤ 4) :
    Calls Try.prog 44 #[BoV M bl bh rl rh (.slice aP nP cP) (.slice aQ nQ cQ) (.slice aL nL cL), .int .i64 (-1), .int .i64 kk, .int .i64 n] w fun e w' => (∃ a c a' c', e = .returned (BoV M bl bh rl rh (.slice a nP c) (.slice a' nQ c') (.slice aL nL cL)) ∧ Sps w' (.slice a nP c) ps ∧ Sps w' (.slice a' nQ c') (qs.set kk (n, n))) ∧ Up w w' := by
  have hmx : Try.prog.follows .mixedOrders = true := by kernel_rfl
  have hn := I.len
  have hno := J.len
  have hnp := K.len
  subst hn hno hnp
  have HI := Lib.hid (fun w' (u : Up w w') => I.up u)
  have HJ := Lib.hid (fun w' (u : Up w w') => J.up u)
  have HTo := Lib.hid (fun l h w => B_To_any l h w)
  have ikk : (kk : Int) < (qs.length : Int) := by omega
  have dk : decide ((kk : Int) ≥ 0) = true := decide_eq_true (by omega)
  have ik0 : (0 : Int) ≤ (kk : Int) := by omega
  clear I J K
  go_enter Try.func44, Try.ntmps44
  obtain ⟨q0, e0⟩ : ∃ x, w.heap.size = x := ⟨_, rfl⟩
  have U := (((Up.refl w).alloc (.cells (BoC M bl bh rl rh (.slice aP ps.length cP) (.slice aQ qs.length cQ) (.slice aL ls.length cL)) 27)).alloc (.cells #[.int .i64 0, .int .i64 0, .int .i64 0, .int .i64 0, .int .i64 0, .slice none 0 0, .slice none 0 0, .slice none 0 0] 27)).alloc (.cells (BoC M bl bh rl rh (.slice aP ps.length cP) (.slice aQ qs.length cQ) (.slice aL ls.length cL)) 27)
  have kC := blk_keep (.cells (BoC M bl bh rl rh (.slice aP ps.length cP) (.slice aQ qs.length cQ) (.slice aL ls.length cL)) 27) (blk_keep (.cells #[.int .i64 0, .int .i64 0, .int .i64 0, .int .i64 0, .int .i64 0, .slice none 0 0, .slice none 0 0, .slice none 0 0] 27) (blk_new w (.cells (BoC M bl bh rl rh (.slice aP ps.length cP) (.slice aQ qs.length cQ) (.slice aL ls.length cL)) 27) q0 e0.symm))
  have kZ := blk_keep (.cells (BoC M bl bh rl rh (.slice aP ps.length cP) (.slice aQ qs.length cQ) (.slice aL ls.length cL)) 27) (blk_new (w.alloc (.cells (BoC M bl bh rl rh (.slice aP ps.length cP) (.slice aQ qs.length cQ) (.slice aL ls.length cL)) 27)) (.cells #[.int .i64 0, .int .i64 0, .int .i64 0, .int .i64 0, .int .i64 0, .slice none 0 0, .slice none 0 0, .slice none 0 0] 27) (q0 + 1) (by simp [e0]))
  have kX := blk_new ((w.alloc (.cells (BoC M bl bh rl rh (.slice aP ps.length cP) (.slice aQ qs.length cQ) (.slice aL ls.length cL)) 27)).alloc (.cells #[.int .i64 0, .int .i64 0, .int .i64 0, .int .i64 0, .int .i64 0, .slice none 0 0, .slice none 0 0, .slice none 0 0] 27)) (.cells (BoC M bl bh rl rh (.slice aP ps.length cP) (.slice aQ qs.length cQ) (.slice aL ls.length cL)) 27) (q0 + 1 + 1) (by simp [e0])
  go_wp2_with fail
  obtain ⟨X0, hX0⟩ : ∃ z, (((w.alloc (.cells (BoC M bl bh rl rh (.slice aP ps.length cP) (.slice aQ qs.length cQ) (.slice aL ls.length cL)) 27)).alloc (.cells #[.int .i64 0, .int .i64 0, .int .i64 0, .int .i64 0, .int .i64 0, .slice none 0 0, .slice none 0 0, .slice none 0 0] 27)).alloc (.cells (BoC M bl bh rl rh (.slice aP ps.length cP) (.slice aQ qs.length cQ) (.slice aL ls.length cL)) 27)) = z := ⟨_, rfl⟩
  rw [hX0] at U kC kZ kX
  try rw [hX0]
  clear hX0
  apply T.mergeRows (fun w' bP bQ sP tP sQ tQ => Up w w' ∧ mblk w' (q0) = some (.cells (BoC M bl bh rl rh (.slice aP ps.length cP) (.slice aQ qs.length cQ) (.slice aL ls.length cL)) 27 (0, 0)) ∧ mblk w' (q0 + 1) = some (.cells #[.int .i64 0, .int .i64 0, .int .i64 0, .int .i64 0, .int .i64 0, .slice none 0 0, .slice none 0 0, .slice none 0 0] 27 (0, 0)) ∧ mblk w' (q0 + 1 + 1) = some (.cells (BoC M bl bh rl rh (.slice sP ps.length tP) (.slice sQ qs.length tQ) (.slice aL ls.length cL)) 27 (0, 0)) ∧ Hid (w'.ownsRow bP 23 2 (.slice sP ps.length tP) ps.length (T.flat 2 T.encS ps)) ∧ Hid (w'.ownsRow bQ 23 2 (.slice sQ qs.length tQ) qs.length (T.flat 2 T.encS qs)) ∧ Hid (∀ g, Value.ownBlock (.slice sP ps.length tP) = some g → Value.ownBlock (.slice sQ qs.length tQ) = some g → False) ∧ q0 + 1 + 1 < bP ∧ q0 + 1 + 1 < bQ)
  · intro HKey
    refine (wpIn_wide (n := 5)).1 ?_
    refine wpIn_nrm ?_
    refine regionG (fun w' => Up w w' ∧ mblk w' (q0) = some (.cells (BoC M bl bh rl rh (.slice aP ps.length cP) (.slice aQ qs.length cQ) (.slice aL ls.length cL)) 27 (0, 0)) ∧ mblk w' (q0 + 1) = some (.cells #[.int .i64 0, .int .i64 0, .int .i64 0, .int .i64 0, .int .i64 0, .slice none 0 0, .slice none 0 0, .slice none 0 0] 27 (0, 0))) 11 hmx ⟨U.drew, (by rw [blk_drew]; exact kC), (by rw [blk_drew]; exact kZ)⟩ (fun hHeld hCl => ?_)
    refine takeG (i := 1) (d := (some 12)) (v := ?v26) rfl rfl (by kernel_rfl) (by kernel_rfl) (by decide) hCl (by kernel_rfl) (by kernel_rfl) (by kernel_rfl) (fun _ _ _ h => h) (by rfl) ?hy26 (fun _ _ _ => trivial) (by assumption) (fun hCl' => ?_)
    case hy26 => ((intro w hSw; (try dsimp only at hSw); (try go_split_ands); go_simp); try with_reducible rfl)
    simp only [Act.put, List.setIfInBounds_toArray, List.set_cons_zero, List.set_cons_succ]
    replace hCl := hCl'; clear hCl'
    refine takeG (i := 5) (d := (some 16)) (v := ?v27) rfl rfl (by kernel_rfl) (by kernel_rfl) (by decide) hCl (by kernel_rfl) (by kernel_rfl) (by kernel_rfl) (fun _ _ _ h => h) (by rfl) ?hy27 (fun _ _ _ => trivial) (by assumption) (fun hCl' => ?_)
    case hy27 => ((intro w hSw; (try dsimp only at hSw); (try go_split_ands); go_simp); try with_reducible rfl)
    simp only [Act.put, List.setIfInBounds_toArray, List.set_cons_zero, List.set_cons_succ]
    replace hCl := hCl'; clear hCl'
    refine takeG (i := 2) (d := (some 13)) (v := ?v28) rfl rfl (by kernel_rfl) (by kernel_rfl) (by decide) hCl (by kernel_rfl) (by kernel_rfl) (by kernel_rfl) (fun _ _ _ h => h) (by rfl) ?hy28 (fun _ _ _ => trivial) (by assumption) (fun hCl' => ?_)
    case hy28 => ((intro w hSw; (try dsimp only at hSw); (try go_split_ands); go_simp); try with_reducible rfl)
    simp only [Act.put, List.setIfInBounds_toArray, List.set_cons_zero, List.set_cons_succ]
    replace hCl := hCl'; clear hCl'
    refine takeG (i := 6) (d := (some 17)) (v := ?v29) rfl rfl (by kernel_rfl) (by kernel_rfl) (by decide) hCl (by kernel_rfl) (by kernel_rfl) (by kernel_rfl) (fun _ _ _ h => h) (by rfl) ?hy29 (fun _ _ _ => trivial) (by assumption) (fun hCl' => ?_)
    case hy29 => ((intro w hSw; (try dsimp only at hSw); (try go_split_ands); go_simp); try with_reducible rfl)
    simp only [Act.put, List.setIfInBounds_toArray, List.set_cons_zero, List.set_cons_succ]
    replace hCl := hCl'; clear hCl'
    clear hHeld
    refine nextG2 (i := 0) (j := 4) (by kernel_rfl) rfl rfl (by rfl) (by rfl) hCl ?_ ?_
    · skip
      refine (fun K hK => ?_)
      go_simp
      have A1 : Up X0 (X0.alloc (.cells #[] 23)).drew := Up.drew (Up.alloc (Up.refl X0) _)
      have e1 : X0.heap.size ≤ (X0.alloc (.cells #[] 23)).drew.heap.size := by have := Up.size (Up.drew (Up.alloc (Up.refl X0) (.cells #[] 23))); exact this
      have kx1 : mblk (X0.alloc (.cells #[] 23)).drew (q0 + 1 + 1) = some (.cells (BoC M bl bh rl rh (.slice aP ps.length cP) (.slice aQ qs.length cQ) (.slice aL ls.length cL)) 27 (0, 0)) := by rw [blk_drew]; exact blk_keep (.cells #[] 23) kX
      have lx1 := blk_lt kX
      have RP1 := row_up (World.ownsRow_lit (base := X0.heap.size) (e := 23) (size := 2) X0 #[] 0 (Nat.le_refl _) (by unfold maxLen; omega) rfl) (Up.refl _).drew
      obtain ⟨bP, hqP⟩ : ∃ q, X0.heap.size = q := ⟨_, rfl⟩
      obtain ⟨X1, hX⟩ : ∃ X, (X0.alloc (.cells #[] 23)).drew = X := ⟨_, rfl⟩
      rw [hX] at A1 e1 kx1 RP1
      rw [hqP] at e1 lx1 RP1
      have zP : bP < X1.heap.size := (RP1.lt bP rfl).2
      try rw [hX]
      try rw [hqP]
      refine hK.out _ _ ⟨U.trans A1, Up.blk A1 kC, Up.blk A1 kZ⟩ (fun _ hCl => ?_)
      clear hK K hX
      try dsimp only [List.getElem_toArray, List.getElem_cons_succ, List.getElem_cons_zero]
      try simp only [Act.put, List.setIfInBounds_toArray, List.set_cons_zero, List.set_cons_succ]
      refine nextG2 (i := 3) (j := 4) (by kernel_rfl) rfl rfl (by rfl) (by rfl) hCl ?_ ?_
      · skip
        refine (fun K hK => ?_)
        refine T.opIn_app3 (ys := []) T.elS (.tmp 11) (.tmp 13) rfl (HI.out _ (U.trans A1)) rfl bP _ 0 rfl RP1 (by omega) (by omega) (by omega) ?_
        intro vP X2 RP2 hg2 hv2
        rw [Nat.zero_add, List.nil_append] at RP2
        obtain ⟨sP, tP, rfl, _, _⟩ := row_val RP2
        have A2 := Up.grown A1 hg2 (fun k e => by have := row_base RP1 k e; omega)
        have e2 := hg2.size
        have kx2 := grown_blk hg2 kx1 (row_block RP1 (by omega))
        refine hK.out _ _ ⟨U.trans A2, Up.blk A2 kC, Up.blk A2 kZ⟩ (fun _ hCl => ?_)
        clear hK K
        try dsimp only [List.getElem_toArray, List.getElem_cons_succ, List.getElem_cons_zero]
        try simp only [Act.put, List.setIfInBounds_toArray, List.set_cons_zero, List.set_cons_succ]
        refine takeG (i := 8) (d := (some 19)) (v := ?v30) rfl rfl (by kernel_rfl) (by kernel_rfl) (by decide) hCl (by kernel_rfl) (by kernel_rfl) (by kernel_rfl) (fun _ _ _ h => h) (by rfl) ?hy30 (fun _ _ _ => trivial) (by assumption) (fun hCl' => ?_)
        case hy30 => ((intro w hSw; (try dsimp only at hSw); (try go_split_ands); go_simp); try with_reducible rfl)
        simp only [Act.put, List.setIfInBounds_toArray, List.set_cons_zero, List.set_cons_succ]
        replace hCl := hCl'; clear hCl'
        refine nextG (i := 4) (by kernel_rfl) rfl (by rfl) hCl (fun K hK => ?_)
        go_simp
        have A3 : Up X0 (X2.alloc (.cells #[] 23)) := (Up.alloc A2 _)
        have e3 : X2.heap.size ≤ (X2.alloc (.cells #[] 23)).heap.size := by have := Up.size ((Up.alloc (Up.refl X2) (.cells #[] 23))); exact this
        have kx3 : mblk (X2.alloc (.cells #[] 23)) (q0 + 1 + 1) = some (.cells (BoC M bl bh rl rh (.slice aP ps.length cP) (.slice aQ qs.length cQ) (.slice aL ls.length cL)) 27 (0, 0)) := by exact blk_keep (.cells #[] 23) kx2
        have lx3 := blk_lt kx2
        have RQ3 := World.ownsRow_lit (base := X2.heap.size) (e := 23) (size := 2) X2 #[] 0 (Nat.le_refl _) (by unfold maxLen; omega) rfl
        have RP3 := World.ownsRow.alloc RP2 (.cells #[] 23)
        have LP3 := fun k e => (RP2.lt k e).2
        obtain ⟨bQ, hqQ⟩ : ∃ q, X2.heap.size = q := ⟨_, rfl⟩
        obtain ⟨X3, hX⟩ : ∃ X, (X2.alloc (.cells #[] 23)) = X := ⟨_, rfl⟩
        rw [hX] at A3 e3 kx3 RQ3 RP3
        rw [hqQ] at e3 lx3 RQ3 LP3
        have zQ : bQ < X3.heap.size := (RQ3.lt bQ rfl).2
        have zP2 : bP ≤ X3.heap.size := by omega
        have ap3 : ∀ g, Value.ownBlock (.slice sP ps.length tP) = some g → Value.ownBlock (.slice (some ⟨bQ, 0, none⟩) 0 0) = some g → False := fun g h1 h2 => by have a := LP3 g h1; have b : bQ = g := Option.some.inj h2; omega
        try rw [hX]
        try rw [hqQ]
        refine hK.out _ _ ⟨U.trans A3, Up.blk A3 kC, Up.blk A3 kZ⟩ (fun _ hCl => ?_)
        clear hK K hX
        try dsimp only [List.getElem_toArray, List.getElem_cons_succ, List.getElem_cons_zero]
        try simp only [Act.put, List.setIfInBounds_toArray, List.set_cons_zero, List.set_cons_succ]
        refine nextG (i := 7) (by kernel_rfl) rfl (by rfl) hCl (fun K hK => ?_)
        refine T.opIn_app3 (ys := []) T.elS (.tmp 15) (.tmp 17) rfl (HJ.out _ (U.trans A3)) rfl bQ _ 0 rfl RQ3 (by omega) (by omega) (by omega) ?_
        intro vQ X4 RQ4 hg4 hv4
        rw [Nat.zero_add, List.nil_append] at RQ4
        obtain ⟨sQ, tQ, rfl, _, _⟩ := row_val RQ4
        have A4 := Up.grown A3 hg4 (fun k e => by have := row_base RQ3 k e; omega)
        have e4 := hg4.size
        have kx4 := grown_blk hg4 kx3 (row_block RQ3 (by omega))
        have RP4 := row_keep RP3 hg4 (fun g e h => ap3 g e h.symm)
        have ap4 : ∀ g, Value.ownBlock (.slice sP ps.length tP) = some g → Value.ownBlock (.slice sQ qs.length tQ) = some g → False := fun g h1 h2 => by
          rcases hv4 with e | e
          · exact ap3 g h1 (e.symm.trans h2)
          · have a : X3.heap.size = g := Option.some.inj (e.symm.trans h2)
            have b := (RP3.lt g h1).2
            omega
        refine hK.out _ _ ⟨U.trans A4, Up.blk A4 kC, Up.blk A4 kZ⟩ (fun _ hCl => ?_)
        clear hK K
        try dsimp only [List.getElem_toArray, List.getElem_cons_succ, List.getElem_cons_zero]
        try simp only [Act.put, List.setIfInBounds_toArray, List.set_cons_zero, List.set_cons_succ]
        have UL := U.trans A4
        have tkC := Up.blk A4 kC
        have tkZ := Up.blk A4 kZ
        have zf := frozB kx4
        refine nextG (i := 9) (by kernel_rfl) rfl (by rfl) hCl (fun K hK => ?_)
        go_simp
        obtain ⟨Y0, hY⟩ : ∃ X, X4.setCell ⟨q0 + 1 + 1, 5, none⟩ (.slice sP ps.length tP) = X := ⟨_, rfl⟩
        have UY0 : Up w Y0 := by rw [← hY]; exact UL.set (p := ⟨q0 + 1 + 1, 5, none⟩) (show w.heap.size ≤ q0 + 1 + 1 by omega) _
        have kY0 : mblk Y0 (q0 + 1 + 1) = some (.cells (BoC M bl bh rl rh (.slice sP ps.length tP) (.slice aQ qs.length cQ) (.slice aL ls.length cL)) 27 (0, 0)) := by rw [← hY]; exact blk_put kx4 5 _
        have tkC0 : mblk Y0 (q0) = some (.cells (BoC M bl bh rl rh (.slice aP ps.length cP) (.slice aQ qs.length cQ) (.slice aL ls.length cL)) 27 (0, 0)) := by rw [← hY, blk_set _ _ _ _ (by show q0 ≠ q0 + 1 + 1; omega)]; exact tkC
        have tkZ0 : mblk Y0 (q0 + 1) = some (.cells #[.int .i64 0, .int .i64 0, .int .i64 0, .int .i64 0, .int .i64 0, .slice none 0 0, .slice none 0 0, .slice none 0 0] 27 (0, 0)) := by rw [← hY, blk_set _ _ _ _ (by show q0 + 1 ≠ q0 + 1 + 1; omega)]; exact tkZ
        have SP0 := row_other RP4 (grown_set X4 (q0 + 1 + 1) 5 (.slice sP ps.length tP)) (row_block RP4 (show q0 + 1 + 1 < bP by omega))
        have SQ0 := row_other RQ4 (grown_set X4 (q0 + 1 + 1) 5 (.slice sP ps.length tP)) (row_block RQ4 (show q0 + 1 + 1 < bQ by omega))
        rw [hY] at SP0 SQ0
        try rw [hY]
        refine hK.out _ _ ⟨UY0, tkC0, tkZ0⟩ (fun _ hCl => ?_)
        clear hK K hY zf
        try dsimp only [List.getElem_toArray, List.getElem_cons_succ, List.getElem_cons_zero]
        try simp only [Act.put, List.setIfInBounds_toArray, List.set_cons_zero, List.set_cons_succ]
        clear UL
        have UL := UY0
        refine takeG (i := 10) (d := (some 20)) (v := ?v33) rfl rfl (by kernel_rfl) (by kernel_rfl) (by decide) hCl (by kernel_rfl) (by kernel_rfl) (by kernel_rfl) (fun _ _ _ h => h) (by rfl) ?hy33 (fun _ _ _ => trivial) (by assumption) (fun hCl' => ?_)
        case hy33 => ((intro w hSw; (try dsimp only at hSw); (try go_split_ands); go_simp); try with_reducible rfl)
        simp only [Act.put, List.setIfInBounds_toArray, List.set_cons_zero, List.set_cons_succ]
        replace hCl := hCl'; clear hCl'
        have zf := frozB kY0
        clear hCl
        refine lastG (i := 11) (by kernel_rfl) rfl (by rfl) (by decide) (fun K hK => ?_)
        go_simp
        obtain ⟨Y1, hY⟩ : ∃ X, Y0.setCell ⟨q0 + 1 + 1, 6, none⟩ (.slice sQ qs.length tQ) = X := ⟨_, rfl⟩
        have UY1 : Up w Y1 := by rw [← hY]; exact UL.set (p := ⟨q0 + 1 + 1, 6, none⟩) (show w.heap.size ≤ q0 + 1 + 1 by omega) _
        have kY1 : mblk Y1 (q0 + 1 + 1) = some (.cells (BoC M bl bh rl rh (.slice sP ps.length tP) (.slice sQ qs.length tQ) (.slice aL ls.length cL)) 27 (0, 0)) := by rw [← hY]; exact blk_put kY0 6 _
        have tkC1 : mblk Y1 (q0) = some (.cells (BoC M bl bh rl rh (.slice aP ps.length cP) (.slice aQ qs.length cQ) (.slice aL ls.length cL)) 27 (0, 0)) := by rw [← hY, blk_set _ _ _ _ (by show q0 ≠ q0 + 1 + 1; omega)]; exact tkC0
        have tkZ1 : mblk Y1 (q0 + 1) = some (.cells #[.int .i64 0, .int .i64 0, .int .i64 0, .int .i64 0, .int .i64 0, .slice none 0 0, .slice none 0 0, .slice none 0 0] 27 (0, 0)) := by rw [← hY, blk_set _ _ _ _ (by show q0 + 1 ≠ q0 + 1 + 1; omega)]; exact tkZ0
        have SP1 := row_other SP0 (grown_set Y0 (q0 + 1 + 1) 6 (.slice sQ qs.length tQ)) (row_block SP0 (show q0 + 1 + 1 < bP by omega))
        have SQ1 := row_other SQ0 (grown_set Y0 (q0 + 1 + 1) 6 (.slice sQ qs.length tQ)) (row_block SQ0 (show q0 + 1 + 1 < bQ by omega))
        rw [hY] at SP1 SQ1
        try rw [hY]
        refine hK.out _ _ ?_
        clear hK K hY zf
        clear UL
        have UL := UY1
        refine doneG (by kernel_rfl) ?_ _
        refine S.nrm_intro ?_
        exact HKey.out _ bP bQ sP tP sQ tQ ⟨UL, tkC1, tkZ1, kY1, Lib.hid SP1, Lib.hid SQ1, Lib.hid ap4, by omega, by omega⟩
      · skip
        refine (fun K hK => ?_)
        go_simp
        have A2 : Up X0 (X1.alloc (.cells #[] 23)) := (Up.alloc A1 _)
        have e2 : X1.heap.size ≤ (X1.alloc (.cells #[] 23)).heap.size := by have := Up.size ((Up.alloc (Up.refl X1) (.cells #[] 23))); exact this
        have kx2 : mblk (X1.alloc (.cells #[] 23)) (q0 + 1 + 1) = some (.cells (BoC M bl bh rl rh (.slice aP ps.length cP) (.slice aQ qs.length cQ) (.slice aL ls.length cL)) 27 (0, 0)) := by exact blk_keep (.cells #[] 23) kx1
        have lx2 := blk_lt kx1
        have RQ2 := World.ownsRow_lit (base := X1.heap.size) (e := 23) (size := 2) X1 #[] 0 (Nat.le_refl _) (by unfold maxLen; omega) rfl
        have RP2 := World.ownsRow.alloc RP1 (.cells #[] 23)
        have LP2 := fun k e => (RP1.lt k e).2
        obtain ⟨bQ, hqQ⟩ : ∃ q, X1.heap.size = q := ⟨_, rfl⟩
        obtain ⟨X2, hX⟩ : ∃ X, (X1.alloc (.cells #[] 23)) = X := ⟨_, rfl⟩
        rw [hX] at A2 e2 kx2 RQ2 RP2
        rw [hqQ] at e2 lx2 RQ2 LP2
        have zQ : bQ < X2.heap.size := (RQ2.lt bQ rfl).2
        have zP2 : bP ≤ X2.heap.size := by omega
        have ap2 : ∀ g, Value.ownBlock (.slice (some ⟨bP, 0, none⟩) 0 0) = some g → Value.ownBlock (.slice (some ⟨bQ, 0, none⟩) 0 0) = some g → False := fun g h1 h2 => by have a := LP2 g h1; have b : bQ = g := Option.some.inj h2; omega
        try rw [hX]
        try rw [hqQ]
        refine hK.out _ _ ⟨U.trans A2, Up.blk A2 kC, Up.blk A2 kZ⟩ (fun _ hCl => ?_)
        clear hK K hX
        try dsimp only [List.getElem_toArray, List.getElem_cons_succ, List.getElem_cons_zero]
        try simp only [Act.put, List.setIfInBounds_toArray, List.set_cons_zero, List.set_cons_succ]
        refine nextG (i := 3) (by kernel_rfl) rfl (by rfl) hCl (fun K hK => ?_)
        refine T.opIn_app3 (ys := []) T.elS (.tmp 11) (.tmp 13) rfl (HI.out _ (U.trans A2)) rfl bP _ 0 rfl RP2 (by omega) (by omega) (by omega) ?_
        intro vP X3 RP3 hg3 hv3
        rw [Nat.zero_add, List.nil_append] at RP3
        obtain ⟨sP, tP, rfl, _, _⟩ := row_val RP3
        have A3 := Up.grown A2 hg3 (fun k e => by have := row_base RP2 k e; omega)
        have e3 := hg3.size
        have kx3 := grown_blk hg3 kx2 (row_block RP2 (by omega))
        have RQ3 := row_keep RQ2 hg3 (fun g e h => ap2 g h.symm e)
        have ap3 : ∀ g, Value.ownBlock (.slice sP ps.length tP) = some g → Value.ownBlock (.slice (some ⟨bQ, 0, none⟩) 0 0) = some g → False := fun g h1 h2 => by
          rcases hv3 with e | e
          · exact ap2 g (e.symm.trans h1) h2
          · have a : X2.heap.size = g := Option.some.inj (e.symm.trans h1)
            have b := (RQ2.lt g h2).2
            omega
        refine hK.out _ _ ⟨U.trans A3, Up.blk A3 kC, Up.blk A3 kZ⟩ (fun _ hCl => ?_)
        clear hK K
        try dsimp only [List.getElem_toArray, List.getElem_cons_succ, List.getElem_cons_zero]
        try simp only [Act.put, List.setIfInBounds_toArray, List.set_cons_zero, List.set_cons_succ]
        refine takeG (i := 8) (d := (some 19)) (v := ?v35) rfl rfl (by kernel_rfl) (by kernel_rfl) (by decide) hCl (by kernel_rfl) (by kernel_rfl) (by kernel_rfl) (fun _ _ _ h => h) (by rfl) ?hy35 (fun _ _ _ => trivial) (by assumption) (fun hCl' => ?_)
        case hy35 => ((intro w hSw; (try dsimp only at hSw); (try go_split_ands); go_simp); try with_reducible rfl)
        simp only [Act.put, List.setIfInBounds_toArray, List.set_cons_zero, List.set_cons_succ]
        replace hCl := hCl'; clear hCl'
        refine nextG (i := 7) (by kernel_rfl) rfl (by rfl) hCl (fun K hK => ?_)
        refine T.opIn_app3 (ys := []) T.elS (.tmp 15) (.tmp 17) rfl (HJ.out _ (U.trans A3)) rfl bQ _ 0 rfl RQ3 (by omega) (by omega) (by omega) ?_
        intro vQ X4 RQ4 hg4 hv4
        rw [Nat.zero_add, List.nil_append] at RQ4
        obtain ⟨sQ, tQ, rfl, _, _⟩ := row_val RQ4
        have A4 := Up.grown A3 hg4 (fun k e => by have := row_base RQ3 k e; omega)
        have e4 := hg4.size
        have kx4 := grown_blk hg4 kx3 (row_block RQ3 (by omega))
        have RP4 := row_keep RP3 hg4 (fun g e h => ap3 g e h.symm)
        have ap4 : ∀ g, Value.ownBlock (.slice sP ps.length tP) = some g → Value.ownBlock (.slice sQ qs.length tQ) = some g → False := fun g h1 h2 => by
          rcases hv4 with e | e
          · exact ap3 g h1 (e.symm.trans h2)
          · have a : X3.heap.size = g := Option.some.inj (e.symm.trans h2)
            have b := (RP3.lt g h1).2
            omega
        refine hK.out _ _ ⟨U.trans A4, Up.blk A4 kC, Up.blk A4 kZ⟩ (fun _ hCl => ?_)
        clear hK K
        try dsimp only [List.getElem_toArray, List.getElem_cons_succ, List.getElem_cons_zero]
        try simp only [Act.put, List.setIfInBounds_toArray, List.set_cons_zero, List.set_cons_succ]
        have UL := U.trans A4
        have tkC := Up.blk A4 kC
        have tkZ := Up.blk A4 kZ
        have zf := frozB kx4
        refine nextG (i := 9) (by kernel_rfl) rfl (by rfl) hCl (fun K hK => ?_)
        go_simp
        obtain ⟨Y0, hY⟩ : ∃ X, X4.setCell ⟨q0 + 1 + 1, 5, none⟩ (.slice sP ps.length tP) = X := ⟨_, rfl⟩
        have UY0 : Up w Y0 := by rw [← hY]; exact UL.set (p := ⟨q0 + 1 + 1, 5, none⟩) (show w.heap.size ≤ q0 + 1 + 1 by omega) _
        have kY0 : mblk Y0 (q0 + 1 + 1) = some (.cells (BoC M bl bh rl rh (.slice sP ps.length tP) (.slice aQ qs.length cQ) (.slice aL ls.length cL)) 27 (0, 0)) := by rw [← hY]; exact blk_put kx4 5 _
        have tkC0 : mblk Y0 (q0) = some (.cells (BoC M bl bh rl rh (.slice aP ps.length cP) (.slice aQ qs.length cQ) (.slice aL ls.length cL)) 27 (0, 0)) := by rw [← hY, blk_set _ _ _ _ (by show q0 ≠ q0 + 1 + 1; omega)]; exact tkC
        have tkZ0 : mblk Y0 (q0 + 1) = some (.cells #[.int .i64 0, .int .i64 0, .int .i64 0, .int .i64 0, .int .i64 0, .slice none 0 0, .slice none 0 0, .slice none 0 0] 27 (0, 0)) := by rw [← hY, blk_set _ _ _ _ (by show q0 + 1 ≠ q0 + 1 + 1; omega)]; exact tkZ
        have SP0 := row_other RP4 (grown_set X4 (q0 + 1 + 1) 5 (.slice sP ps.length tP)) (row_block RP4 (show q0 + 1 + 1 < bP by omega))
        have SQ0 := row_other RQ4 (grown_set X4 (q0 + 1 + 1) 5 (.slice sP ps.length tP)) (row_block RQ4 (show q0 + 1 + 1 < bQ by omega))
        rw [hY] at SP0 SQ0
        try rw [hY]
        refine hK.out _ _ ⟨UY0, tkC0, tkZ0⟩ (fun _ hCl => ?_)
        clear hK K hY zf
        try dsimp only [List.getElem_toArray, List.getElem_cons_succ, List.getElem_cons_zero]
        try simp only [Act.put, List.setIfInBounds_toArray, List.set_cons_zero, List.set_cons_succ]
        clear UL
        have UL := UY0
        refine takeG (i := 10) (d := (some 20)) (v := ?v37) rfl rfl (by kernel_rfl) (by kernel_rfl) (by decide) hCl (by kernel_rfl) (by kernel_rfl) (by kernel_rfl) (fun _ _ _ h => h) (by rfl) ?hy37 (fun _ _ _ => trivial) (by assumption) (fun hCl' => ?_)
        case hy37 => ((intro w hSw; (try dsimp only at hSw); (try go_split_ands); go_simp); try with_reducible rfl)
        simp only [Act.put, List.setIfInBounds_toArray, List.set_cons_zero, List.set_cons_succ]
        replace hCl := hCl'; clear hCl'
        have zf := frozB kY0
        clear hCl
        refine lastG (i := 11) (by kernel_rfl) rfl (by rfl) (by decide) (fun K hK => ?_)
        go_simp
        obtain ⟨Y1, hY⟩ : ∃ X, Y0.setCell ⟨q0 + 1 + 1, 6, none⟩ (.slice sQ qs.length tQ) = X := ⟨_, rfl⟩
        have UY1 : Up w Y1 := by rw [← hY]; exact UL.set (p := ⟨q0 + 1 + 1, 6, none⟩) (show w.heap.size ≤ q0 + 1 + 1 by omega) _
        have kY1 : mblk Y1 (q0 + 1 + 1) = some (.cells (BoC M bl bh rl rh (.slice sP ps.length tP) (.slice sQ qs.length tQ) (.slice aL ls.length cL)) 27 (0, 0)) := by rw [← hY]; exact blk_put kY0 6 _
        have tkC1 : mblk Y1 (q0) = some (.cells (BoC M bl bh rl rh (.slice aP ps.length cP) (.slice aQ qs.length cQ) (.slice aL ls.length cL)) 27 (0, 0)) := by rw [← hY, blk_set _ _ _ _ (by show q0 ≠ q0 + 1 + 1; omega)]; exact tkC0
        have tkZ1 : mblk Y1 (q0 + 1) = some (.cells #[.int .i64 0, .int .i64 0, .int .i64 0, .int .i64 0, .int .i64 0, .slice none 0 0, .slice none 0 0, .slice none 0 0] 27 (0, 0)) := by rw [← hY, blk_set _ _ _ _ (by show q0 + 1 ≠ q0 + 1 + 1; omega)]; exact tkZ0
        have SP1 := row_other SP0 (grown_set Y0 (q0 + 1 + 1) 6 (.slice sQ qs.length tQ)) (row_block SP0 (show q0 + 1 + 1 < bP by omega))
        have SQ1 := row_other SQ0 (grown_set Y0 (q0 + 1 + 1) 6 (.slice sQ qs.length tQ)) (row_block SQ0 (show q0 + 1 + 1 < bQ by omega))
        rw [hY] at SP1 SQ1
        try rw [hY]
        refine hK.out _ _ ?_
        clear hK K hY zf
        clear UL
        have UL := UY1
        refine doneG (by kernel_rfl) ?_ _
        refine S.nrm_intro ?_
        exact HKey.out _ bP bQ sP tP sQ tQ ⟨UL, tkC1, tkZ1, kY1, Lib.hid SP1, Lib.hid SQ1, Lib.hid ap4, by omega, by omega⟩
    · skip
      refine (fun K hK => ?_)
      go_simp
      have A1 : Up X0 (X0.alloc (.cells #[] 23)).drew := Up.drew (Up.alloc (Up.refl X0) _)
      have e1 : X0.heap.size ≤ (X0.alloc (.cells #[] 23)).drew.heap.size := by have := Up.size (Up.drew (Up.alloc (Up.refl X0) (.cells #[] 23))); exact this
      have kx1 : mblk (X0.alloc (.cells #[] 23)).drew (q0 + 1 + 1) = some (.cells (BoC M bl bh rl rh (.slice aP ps.length cP) (.slice aQ qs.length cQ) (.slice aL ls.length cL)) 27 (0, 0)) := by rw [blk_drew]; exact blk_keep (.cells #[] 23) kX
      have lx1 := blk_lt kX
      have RQ1 := row_up (World.ownsRow_lit (base := X0.heap.size) (e := 23) (size := 2) X0 #[] 0 (Nat.le_refl _) (by unfold maxLen; omega) rfl) (Up.refl _).drew
      obtain ⟨bQ, hqQ⟩ : ∃ q, X0.heap.size = q := ⟨_, rfl⟩
      obtain ⟨X1, hX⟩ : ∃ X, (X0.alloc (.cells #[] 23)).drew = X := ⟨_, rfl⟩
      rw [hX] at A1 e1 kx1 RQ1
      rw [hqQ] at e1 lx1 RQ1
      have zQ : bQ < X1.heap.size := (RQ1.lt bQ rfl).2
      try rw [hX]
      try rw [hqQ]
      refine hK.out _ _ ⟨U.trans A1, Up.blk A1 kC, Up.blk A1 kZ⟩ (fun _ hCl => ?_)
      clear hK K hX
      try dsimp only [List.getElem_toArray, List.getElem_cons_succ, List.getElem_cons_zero]
      try simp only [Act.put, List.setIfInBounds_toArray, List.set_cons_zero, List.set_cons_succ]
      refine nextG (i := 0) (by kernel_rfl) rfl (by rfl) hCl (fun K hK => ?_)
      go_simp
      have A2 : Up X0 (X1.alloc (.cells #[] 23)) := (Up.alloc A1 _)
      have e2 : X1.heap.size ≤ (X1.alloc (.cells #[] 23)).heap.size := by have := Up.size ((Up.alloc (Up.refl X1) (.cells #[] 23))); exact this
      have kx2 : mblk (X1.alloc (.cells #[] 23)) (q0 + 1 + 1) = some (.cells (BoC M bl bh rl rh (.slice aP ps.length cP) (.slice aQ qs.length cQ) (.slice aL ls.length cL)) 27 (0, 0)) := by exact blk_keep (.cells #[] 23) kx1
      have lx2 := blk_lt kx1
      have RP2 := World.ownsRow_lit (base := X1.heap.size) (e := 23) (size := 2) X1 #[] 0 (Nat.le_refl _) (by unfold maxLen; omega) rfl
      have RQ2 := World.ownsRow.alloc RQ1 (.cells #[] 23)
      have LQ2 := fun k e => (RQ1.lt k e).2
      obtain ⟨bP, hqP⟩ : ∃ q, X1.heap.size = q := ⟨_, rfl⟩
      obtain ⟨X2, hX⟩ : ∃ X, (X1.alloc (.cells #[] 23)) = X := ⟨_, rfl⟩
      rw [hX] at A2 e2 kx2 RP2 RQ2
      rw [hqP] at e2 lx2 RP2 LQ2
      have zP : bP < X2.heap.size := (RP2.lt bP rfl).2
      have zQ2 : bQ ≤ X2.heap.size := by omega
      have ap2 : ∀ g, Value.ownBlock (.slice (some ⟨bP, 0, none⟩) 0 0) = some g → Value.ownBlock (.slice (some ⟨bQ, 0, none⟩) 0 0) = some g → False := fun g h1 h2 => by have a := LQ2 g h2; have b : bP = g := Option.some.inj h1; omega
      try rw [hX]
      try rw [hqP]
      refine hK.out _ _ ⟨U.trans A2, Up.blk A2 kC, Up.blk A2 kZ⟩ (fun _ hCl => ?_)
      clear hK K hX
      try dsimp only [List.getElem_toArray, List.getElem_cons_succ, List.getElem_cons_zero]
      try simp only [Act.put, List.setIfInBounds_toArray, List.set_cons_zero, List.set_cons_succ]
      refine nextG (i := 3) (by kernel_rfl) rfl (by rfl) hCl (fun K hK => ?_)
      refine T.opIn_app3 (ys := []) T.elS (.tmp 11) (.tmp 13) rfl (HI.out _ (U.trans A2)) rfl bP _ 0 rfl RP2 (by omega) (by omega) (by omega) ?_
      intro vP X3 RP3 hg3 hv3
      rw [Nat.zero_add, List.nil_append] at RP3
      obtain ⟨sP, tP, rfl, _, _⟩ := row_val RP3
      have A3 := Up.grown A2 hg3 (fun k e => by have := row_base RP2 k e; omega)
      have e3 := hg3.size
      have kx3 := grown_blk hg3 kx2 (row_block RP2 (by omega))
      have RQ3 := row_keep RQ2 hg3 (fun g e h => ap2 g h.symm e)
      have ap3 : ∀ g, Value.ownBlock (.slice sP ps.length tP) = some g → Value.ownBlock (.slice (some ⟨bQ, 0, none⟩) 0 0) = some g → False := fun g h1 h2 => by
        rcases hv3 with e | e
        · exact ap2 g (e.symm.trans h1) h2
        · have a : X2.heap.size = g := Option.some.inj (e.symm.trans h1)
          have b := (RQ2.lt g h2).2
          omega
      refine hK.out _ _ ⟨U.trans A3, Up.blk A3 kC, Up.blk A3 kZ⟩ (fun _ hCl => ?_)
      clear hK K
      try dsimp only [List.getElem_toArray, List.getElem_cons_succ, List.getElem_cons_zero]
      try simp only [Act.put, List.setIfInBounds_toArray, List.set_cons_zero, List.set_cons_succ]
      refine takeG (i := 8) (d := (some 19)) (v := ?v40) rfl rfl (by kernel_rfl) (by kernel_rfl) (by decide) hCl (by kernel_rfl) (by kernel_rfl) (by kernel_rfl) (fun _ _ _ h => h) (by rfl) ?hy40 (fun _ _ _ => trivial) (by assumption) (fun hCl' => ?_)
      case hy40 => ((intro w hSw; (try dsimp only at hSw); (try go_split_ands); go_simp); try with_reducible rfl)
      simp only [Act.put, List.setIfInBounds_toArray, List.set_cons_zero, List.set_cons_succ]
      replace hCl := hCl'; clear hCl'
      refine nextG (i := 7) (by kernel_rfl) rfl (by rfl) hCl (fun K hK => ?_)
      refine T.opIn_app3 (ys := []) T.elS (.tmp 15) (.tmp 17) rfl (HJ.out _ (U.trans A3)) rfl bQ _ 0 rfl RQ3 (by omega) (by omega) (by omega) ?_
      intro vQ X4 RQ4 hg4 hv4
      rw [Nat.zero_add, List.nil_append] at RQ4
      obtain ⟨sQ, tQ, rfl, _, _⟩ := row_val RQ4
      have A4 := Up.grown A3 hg4 (fun k e => by have := row_base RQ3 k e; omega)
      have e4 := hg4.size
      have kx4 := grown_blk hg4 kx3 (row_block RQ3 (by omega))
      have RP4 := row_keep RP3 hg4 (fun g e h => ap3 g e h.symm)
      have ap4 : ∀ g, Value.ownBlock (.slice sP ps.length tP) = some g → Value.ownBlock (.slice sQ qs.length tQ) = some g → False := fun g h1 h2 => by
        rcases hv4 with e | e
        · exact ap3 g h1 (e.symm.trans h2)
        · have a : X3.heap.size = g := Option.some.inj (e.symm.trans h2)
          have b := (RP3.lt g h1).2
          omega
      refine hK.out _ _ ⟨U.trans A4, Up.blk A4 kC, Up.blk A4 kZ⟩ (fun _ hCl => ?_)
      clear hK K
      try dsimp only [List.getElem_toArray, List.getElem_cons_succ, List.getElem_cons_zero]
      try simp only [Act.put, List.setIfInBounds_toArray, List.set_cons_zero, List.set_cons_succ]
      have UL := U.trans A4
      have tkC := Up.blk A4 kC
      have tkZ := Up.blk A4 kZ
      have zf := frozB kx4
      refine nextG (i := 9) (by kernel_rfl) rfl (by rfl) hCl (fun K hK => ?_)
      go_simp
      obtain ⟨Y0, hY⟩ : ∃ X, X4.setCell ⟨q0 + 1 + 1, 5, none⟩ (.slice sP ps.length tP) = X := ⟨_, rfl⟩
      have UY0 : Up w Y0 := by rw [← hY]; exact UL.set (p := ⟨q0 + 1 + 1, 5, none⟩) (show w.heap.size ≤ q0 + 1 + 1 by omega) _
      have kY0 : mblk Y0 (q0 + 1 + 1) = some (.cells (BoC M bl bh rl rh (.slice sP ps.length tP) (.slice aQ qs.length cQ) (.slice aL ls.length cL)) 27 (0, 0)) := by rw [← hY]; exact blk_put kx4 5 _
      have tkC0 : mblk Y0 (q0) = some (.cells (BoC M bl bh rl rh (.slice aP ps.length cP) (.slice aQ qs.length cQ) (.slice aL ls.length cL)) 27 (0, 0)) := by rw [← hY, blk_set _ _ _ _ (by show q0 ≠ q0 + 1 + 1; omega)]; exact tkC
      have tkZ0 : mblk Y0 (q0 + 1) = some (.cells #[.int .i64 0, .int .i64 0, .int .i64 0, .int .i64 0, .int .i64 0, .slice none 0 0, .slice none 0 0, .slice none 0 0] 27 (0, 0)) := by rw [← hY, blk_set _ _ _ _ (by show q0 + 1 ≠ q0 + 1 + 1; omega)]; exact tkZ
      have SP0 := row_other RP4 (grown_set X4 (q0 + 1 + 1) 5 (.slice sP ps.length tP)) (row_block RP4 (show q0 + 1 + 1 < bP by omega))
      have SQ0 := row_other RQ4 (grown_set X4 (q0 + 1 + 1) 5 (.slice sP ps.length tP)) (row_block RQ4 (show q0 + 1 + 1 < bQ by omega))
      rw [hY] at SP0 SQ0
      try rw [hY]
      refine hK.out _ _ ⟨UY0, tkC0, tkZ0⟩ (fun _ hCl => ?_)
      clear hK K hY zf
      try dsimp only [List.getElem_toArray, List.getElem_cons_succ, List.getElem_cons_zero]
      try simp only [Act.put, List.setIfInBounds_toArray, List.set_cons_zero, List.set_cons_succ]
      clear UL
      have UL := UY0
      refine takeG (i := 10) (d := (some 20)) (v := ?v42) rfl rfl (by kernel_rfl) (by kernel_rfl) (by decide) hCl (by kernel_rfl) (by kernel_rfl) (by kernel_rfl) (fun _ _ _ h => h) (by rfl) ?hy42 (fun _ _ _ => trivial) (by assumption) (fun hCl' => ?_)
      case hy42 => ((intro w hSw; (try dsimp only at hSw); (try go_split_ands); go_simp); try with_reducible rfl)
      simp only [Act.put, List.setIfInBounds_toArray, List.set_cons_zero, List.set_cons_succ]
      replace hCl := hCl'; clear hCl'
      have zf := frozB kY0
      clear hCl
      refine lastG (i := 11) (by kernel_rfl) rfl (by rfl) (by decide) (fun K hK => ?_)
      go_simp
      obtain ⟨Y1, hY⟩ : ∃ X, Y0.setCell ⟨q0 + 1 + 1, 6, none⟩ (.slice sQ qs.length tQ) = X := ⟨_, rfl⟩
      have UY1 : Up w Y1 := by rw [← hY]; exact UL.set (p := ⟨q0 + 1 + 1, 6, none⟩) (show w.heap.size ≤ q0 + 1 + 1 by omega) _
      have kY1 : mblk Y1 (q0 + 1 + 1) = some (.cells (BoC M bl bh rl rh (.slice sP ps.length tP) (.slice sQ qs.length tQ) (.slice aL ls.length cL)) 27 (0, 0)) := by rw [← hY]; exact blk_put kY0 6 _
      have tkC1 : mblk Y1 (q0) = some (.cells (BoC M bl bh rl rh (.slice aP ps.length cP) (.slice aQ qs.length cQ) (.slice aL ls.length cL)) 27 (0, 0)) := by rw [← hY, blk_set _ _ _ _ (by show q0 ≠ q0 + 1 + 1; omega)]; exact tkC0
      have tkZ1 : mblk Y1 (q0 + 1) = some (.cells #[.int .i64 0, .int .i64 0, .int .i64 0, .int .i64 0, .int .i64 0, .slice none 0 0, .slice none 0 0, .slice none 0 0] 27 (0, 0)) := by rw [← hY, blk_set _ _ _ _ (by show q0 + 1 ≠ q0 + 1 + 1; omega)]; exact tkZ0
      have SP1 := row_other SP0 (grown_set Y0 (q0 + 1 + 1) 6 (.slice sQ qs.length tQ)) (row_block SP0 (show q0 + 1 + 1 < bP by omega))
      have SQ1 := row_other SQ0 (grown_set Y0 (q0 + 1 + 1) 6 (.slice sQ qs.length tQ)) (row_block SQ0 (show q0 + 1 + 1 < bQ by omega))
      rw [hY] at SP1 SQ1
      try rw [hY]
      refine hK.out _ _ ?_
      clear hK K hY zf
      clear UL
      have UL := UY1
      refine doneG (by kernel_rfl) ?_ _
      refine S.nrm_intro ?_
      exact HKey.out _ bP bQ sP tP sQ tQ ⟨UL, tkC1, tkZ1, kY1, Lib.hid SP1, Lib.hid SQ1, Lib.hid ap4, by omega, by omega⟩
  clear U kC kZ kX
  rintro Z1 bP bQ sP tP sQ tQ ⟨U, kC, kZ, kX, HPr, HQr, HAP, gP, gQ⟩
  obtain ⟨g2, c2, cur, eg2, hg2, kg, hc2, hm2, hz2⟩ := row_open HQr.out (by omega)
  injection eg2 with ea2 eb2 ec2
  subst ea2
  replace ec2 := ec2.symm
  subst ec2
  have IX2 : Tab 2 T.encS (0, 0) Z1 (.slice (some ⟨g2, 0, none⟩) qs.length c2) qs := Tab.of_row HQr.out (by decide) (by omega)
  have HAo := Lib.hid (fun (e : Value.ownBlock (.slice sP ps.length tP) = some g2) => HAP.out g2 e rfl)
  have dkC : q0 < g2 := by omega
  have dkZ : q0 + 1 < g2 := by omega
  have dkX : q0 + 1 + 1 < g2 := by omega
  have gw2 : w.heap.size ≤ g2 := by omega
  obtain ⟨⟨r0, r1⟩, hss⟩ : ∃ s, qs.getD kk (0, 0) = s := ⟨_, rfl⟩
  have g0 := Tab.at0 IX2 hkk 0 (by omega)
  have g1 := Tab.at0 IX2 hkk 1 (by omega)
  rw [hss] at g0 g1
  rw [Nat.add_zero] at g0
  replace g0 : Z1.cell? ⟨g2, kk * 2, none⟩ = some (.int .i64 r0) := g0
  replace g1 : Z1.cell? ⟨g2, kk * 2 + 1, none⟩ = some (.int .i64 r1) := g1
  have HU := Lib.hid U
  have lg2 : g2 < Z1.heap.size := blk_lt kg
  have Fg := Lib.hid (fun w (u : Up Z1 w) => cellB (u.blk kg))
  clear HQr HAP hss
  go_wp2_with fail
  have F3 := Lib.hid (fun w (u : Up Z1 w) => cellB (u.blk kC))
  have F4 := Lib.hid (fun w (u : Up Z1 w) => cellB (u.blk kZ))
  have F5 := Lib.hid (fun w (u : Up Z1 w) => cellB (u.blk kX))
  refine (wpIn_wide (n := 5)).1 ?_
  refine wpIn_nrm ?_
  refine T.regionQ (fun w' => Up Z1 w') 7 1 hmx (by kernel_rfl) (by kernel_rfl) ((Up.refl Z1).drew) (fun hCl => ?_)
  refine T.qT 0 (some 32) ?v44 rfl rfl hCl ?hy44 (fun hCl' => ?_)
  case hy44 => (intro w hSw; refine T.qVal ?_ hSw; (try dsimp only [List.getElem_toArray, List.getElem_cons_succ, List.getElem_cons_zero]); go_simp; try with_reducible rfl)
  simp only [Act.put, List.setIfInBounds_toArray, List.set_cons_zero, List.set_cons_succ]; replace hCl := hCl'; clear hCl'
  refine T.qT 2 (some 34) ?v45 rfl rfl hCl ?hy45 (fun hCl' => ?_)
  case hy45 => (intro w hSw; refine T.qVal ?_ hSw; (try dsimp only [List.getElem_toArray, List.getElem_cons_succ, List.getElem_cons_zero]); go_simp; try with_reducible rfl)
  simp only [Act.put, List.setIfInBounds_toArray, List.set_cons_zero, List.set_cons_succ]; replace hCl := hCl'; clear hCl'
  refine T.qT 3 (some 35) ?v46 rfl rfl hCl ?hy46 (fun hCl' => ?_)
  case hy46 => (intro w hSw; refine T.qVal ?_ hSw; (try dsimp only [List.getElem_toArray, List.getElem_cons_succ, List.getElem_cons_zero]); go_simp; try with_reducible rfl)
  simp only [Act.put, List.setIfInBounds_toArray, List.set_cons_zero, List.set_cons_succ]; replace hCl := hCl'; clear hCl'
  refine T.qT 4 (some 36) ?v47 rfl rfl hCl ?hy47 (fun hCl' => ?_)
  case hy47 => (intro w hSw; refine T.qVal ?_ hSw; (try dsimp only [List.getElem_toArray, List.getElem_cons_succ, List.getElem_cons_zero]); go_simp; try with_reducible rfl)
  simp only [Act.put, List.setIfInBounds_toArray, List.set_cons_zero, List.set_cons_succ]; replace hCl := hCl'; clear hCl'
  refine T.qT 1 (some 33) ?v48 rfl rfl hCl ?hy48 (fun hCl' => ?_)
  case hy48 => (intro w hSw; refine T.qVal ?_ hSw; (have fF3 := F3.out w hSw; have fF4 := F4.out w hSw; have fF5 := F5.out w hSw; have fFg := Fg.out w hSw); (try dsimp only [List.getElem_toArray, List.getElem_cons_succ, List.getElem_cons_zero]); go_simp; try with_reducible rfl)
  simp only [Act.put, List.setIfInBounds_toArray, List.set_cons_zero, List.set_cons_succ]; replace hCl := hCl'; clear hCl'
  refine T.qT 5 (some 37) ((SpV n n)) rfl rfl hCl ?hy49 (fun hCl' => ?_)
  case hy49 => (intro w hSw; (have fF3 := F3.out w hSw; have fF4 := F4.out w hSw; have fF5 := F5.out w hSw; have fFg := Fg.out w hSw); (try dsimp only [List.getElem_toArray, List.getElem_cons_succ, List.getElem_cons_zero]); go_simp; (refine (callsIn_wide.2 (HTo.out _ _ w)).mono ?_; rintro e w3 ⟨rfl, u3⟩; exact ⟨rfl, hSw.trans u3⟩))
  simp only [Act.put, List.setIfInBounds_toArray, List.set_cons_zero, List.set_cons_succ]
  replace hCl := hCl'; clear hCl'
  refine T.qT 6 (some 38) ?v50 rfl rfl hCl ?hy50 (fun hCl' => ?_)
  case hy50 => (intro w hSw; refine T.qVal ?_ hSw; (try dsimp only [List.getElem_toArray, List.getElem_cons_succ, List.getElem_cons_zero]); go_simp; try with_reducible rfl)
  simp only [Act.put, List.setIfInBounds_toArray, List.set_cons_zero, List.set_cons_succ]; replace hCl := hCl'; clear hCl'
  refine T.tail_intro (by kernel_rfl) (fun Y2 hY2 => ?_)
  replace kg := hY2.blk kg
  replace g0 := (hY2.facts.1 g2 _ lg2).trans g0
  replace g1 := (hY2.facts.1 g2 _ lg2).trans g1
  replace IX2 := IX2.up hY2
  have HPr := Lib.hid (row_up HPr.out hY2)
  have zg := frozB kg
  have n01 : ¬ kk * 2 = kk * 2 + 1 := by omega
  clear Fg
  replace U := U.trans hY2
  replace kC := hY2.blk kC
  replace kZ := hY2.blk kZ
  replace kX := hY2.blk kX
  clear F3 F4 F5 hY2
  refine lastG (i := 7) (by kernel_rfl) rfl (by rfl) (by decide) (fun K hK => ?_)
  go_simp
  refine hK.out _ _ ?_
  clear hK K
  refine doneG (by kernel_rfl) ?_ _
  refine S.nrm_intro ?_
  have IX3 := Tab.put2 (a := n) (b := n) (x := (n, n)) IX2 kg (by omega) hkk rfl rfl
  have U5 := ((U.set (p := ⟨g2, kk * 2, none⟩) (show w.heap.size ≤ g2 by omega) (.int .i64 n)).set (p := ⟨g2, kk * 2 + 1, none⟩) (show w.heap.size ≤ g2 by omega) (.int .i64 n))
  have jkC : mblk ((Y2.setCell ⟨g2, kk * 2, none⟩ (.int .i64 n)).setCell ⟨g2, kk * 2 + 1, none⟩ (.int .i64 n)) (q0) = some (.cells (BoC M bl bh rl rh (.slice aP ps.length cP) (.slice aQ qs.length cQ) (.slice aL ls.length cL)) 27 (0, 0)) := by rw [blk_set _ _ _ _ (by show q0 ≠ g2; omega), blk_set _ _ _ _ (by show q0 ≠ g2; omega)]; exact kC
  have jkZ : mblk ((Y2.setCell ⟨g2, kk * 2, none⟩ (.int .i64 n)).setCell ⟨g2, kk * 2 + 1, none⟩ (.int .i64 n)) (q0 + 1) = some (.cells #[.int .i64 0, .int .i64 0, .int .i64 0, .int .i64 0, .int .i64 0, .slice none 0 0, .slice none 0 0, .slice none 0 0] 27 (0, 0)) := by rw [blk_set _ _ _ _ (by show q0 + 1 ≠ g2; omega), blk_set _ _ _ _ (by show q0 + 1 ≠ g2; omega)]; exact kZ
  have jkX : mblk ((Y2.setCell ⟨g2, kk * 2, none⟩ (.int .i64 n)).setCell ⟨g2, kk * 2 + 1, none⟩ (.int .i64 n)) (q0 + 1 + 1) = some (.cells (BoC M bl bh rl rh (.slice sP ps.length tP) (.slice (some ⟨g2, 0, none⟩) qs.length c2) (.slice aL ls.length cL)) 27 (0, 0)) := by rw [blk_set _ _ _ _ (by show q0 + 1 + 1 ≠ g2; omega), blk_set _ _ _ _ (by show q0 + 1 + 1 ≠ g2; omega)]; exact kX
  obtain ⟨W6, hW6⟩ : ∃ z, ((Y2.setCell ⟨g2, kk * 2, none⟩ (.int .i64 n)).setCell ⟨g2, kk * 2 + 1, none⟩ (.int .i64 n)) = z := ⟨_, rfl⟩
  rw [hW6] at IX3 U5 jkC jkZ jkX
  try rw [hW6]
  have HR2 : W6.ownsRow bP 23 2 (.slice sP ps.length tP) ps.length (T.flat 2 T.encS ps) := by
    rw [← hW6]
    exact row_keep (row_keep HPr.out (grown_set Y2 g2 (kk * 2) (.int .i64 n)) (fun g e h => HAo.out (e.trans h))) (grown_set (Y2.setCell ⟨g2, kk * 2, none⟩ (.int .i64 n)) g2 (kk * 2 + 1) (.int .i64 n)) (fun g e h => HAo.out (e.trans h))
  clear HPr
  have HPr := Lib.hid HR2
  clear HR2
  clear kC kZ kX U HU zg n01 g0 g1 kg IX2 lg2 HAo
  have U := U5
  have kC := jkC
  have kZ := jkZ
  have kX := jkX
  clear U5 jkC jkZ jkX
  have zz := frozB kZ
  have HIP := Lib.hid (show Sps ((((((((W6.setCell ⟨q0 + 1, 0, none⟩ (.int .i64 M)).setCell ⟨q0 + 1, 1, none⟩ (.int .i64 bl)).setCell ⟨q0 + 1, 2, none⟩ (.int .i64 bh)).setCell ⟨q0 + 1, 3, none⟩ (.int .i64 rl)).setCell ⟨q0 + 1, 4, none⟩ (.int .i64 rh)).setCell ⟨q0 + 1, 5, none⟩ (.slice sP ps.length tP)).setCell ⟨q0 + 1, 6, none⟩ (.slice (some ⟨g2, 0, none⟩) qs.length c2)).setCell ⟨q0 + 1, 7, none⟩ (.slice aL ls.length cL)) (.slice sP ps.length tP) ps from Tab.keepB (Tab.of_row HPr.out (by decide) (by omega)) (by simp [World.setCell]) (fun g e => put8_other W6 (by have := row_base HPr.out g e; omega) (.int .i64 M) (.int .i64 bl) (.int .i64 bh) (.int .i64 rl) (.int .i64 rh) (.slice sP ps.length tP) (.slice (some ⟨g2, 0, none⟩) qs.length c2) (.slice aL ls.length cL)))
  have HIQ := Lib.hid (show Sps ((((((((W6.setCell ⟨q0 + 1, 0, none⟩ (.int .i64 M)).setCell ⟨q0 + 1, 1, none⟩ (.int .i64 bl)).setCell ⟨q0 + 1, 2, none⟩ (.int .i64 bh)).setCell ⟨q0 + 1, 3, none⟩ (.int .i64 rl)).setCell ⟨q0 + 1, 4, none⟩ (.int .i64 rh)).setCell ⟨q0 + 1, 5, none⟩ (.slice sP ps.length tP)).setCell ⟨q0 + 1, 6, none⟩ (.slice (some ⟨g2, 0, none⟩) qs.length c2)).setCell ⟨q0 + 1, 7, none⟩ (.slice aL ls.length cL)) (.slice (some ⟨g2, 0, none⟩) qs.length c2) (qs.set kk (n, n)) from Tab.keepB IX3 (by simp [World.setCell]) (fun g e => put8_other W6 (by have : g2 = g := Option.some.inj e; omega) (.int .i64 M) (.int .i64 bl) (.int .i64 bh) (.int .i64 rl) (.int .i64 rh) (.slice sP ps.length tP) (.slice (some ⟨g2, 0, none⟩) qs.length c2) (.slice aL ls.length cL)))
  have KZ := Lib.hid (show mblk ((((((((W6.setCell ⟨q0 + 1, 0, none⟩ (.int .i64 M)).setCell ⟨q0 + 1, 1, none⟩ (.int .i64 bl)).setCell ⟨q0 + 1, 2, none⟩ (.int .i64 bh)).setCell ⟨q0 + 1, 3, none⟩ (.int .i64 rl)).setCell ⟨q0 + 1, 4, none⟩ (.int .i64 rh)).setCell ⟨q0 + 1, 5, none⟩ (.slice sP ps.length tP)).setCell ⟨q0 + 1, 6, none⟩ (.slice (some ⟨g2, 0, none⟩) qs.length c2)).setCell ⟨q0 + 1, 7, none⟩ (.slice aL ls.length cL)) (q0 + 1) = some (.cells (BoC M bl bh rl rh (.slice sP ps.length tP) (.slice (some ⟨g2, 0, none⟩) qs.length c2) (.slice aL ls.length cL)) 27 (0, 0)) from put8_same kZ (.int .i64 M) (.int .i64 bl) (.int .i64 bh) (.int .i64 rl) (.int .i64 rh) (.slice sP ps.length tP) (.slice (some ⟨g2, 0, none⟩) qs.length c2) (.slice aL ls.length cL))
  have UZ := Lib.hid (Up.put8 U (show w.heap.size ≤ q0 + 1 by omega) (.int .i64 M) (.int .i64 bl) (.int .i64 bh) (.int .i64 rl) (.int .i64 rh) (.slice sP ps.length tP) (.slice (some ⟨g2, 0, none⟩) qs.length c2) (.slice aL ls.length cL))
  try clear hW6
  clear IX3 HPr HI HJ HTo
  go_wp2_with fail
  have cc := cellB KZ.out
  exact bodyPost_ret (v := BoV M bl bh rl rh (.slice sP ps.length tP) (.slice (some ⟨g2, 0, none⟩) qs.length c2) (.slice aL ls.length cL)) (by simp [results, Try.results44, go_sem, cc]) rfl ⟨⟨_, _, _, _, rfl, HIP.out, HIQ.out⟩, UZ.out⟩
end

end Go.Proofs.Ytlpkheoljbdajaa
