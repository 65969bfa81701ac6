import Derived.Test.YtlpkheoljbdajaaRfS
import Derived.Test.YtlpkheoljbdajaaHeQ
import Derived.Test.YtlpkheoljbdajaaRfM
/- The contract of the reference's Between. -/
namespace Go.Proofs.Ytlpkheoljbdajaa
open Go.RowKit Go.Shelf
attribute [local go_sem] Oper.semAt_some
section
variable {bl bh rl rh : Int} {aP aQ aL : Option Addr} {nP cP nQ cQ nL cL : Nat} {ps qs : List (Int × Int)} {ls : List T.T5}
set_option maxRecDepth 100000 in
set_option maxHeartbeats 2000000 in
set_option linter.unusedSimpArgs false in
theorem r_Between_any {w : World} {M n j l h e : Int} (I : Sps w (.slice aP nP cP) ps) (J : Sps w (.slice aQ nQ cQ) qs) (K : Lks w (.slice aL nL cL) ls) (hq : (T.qErr M bl bh rl rh ps qs ls 2 [n, j] ≠ 0 ∧ e = T.qErr M bl bh rl rh ps qs ls 2 [n, j] ∧ l = 0 ∧ h = 0) ∨ (T.qErr M bl bh rl rh ps qs ls 2 [n, j] = 0 ∧ ∀ N : Nat, M = N → T.Tells (T.Tr N bl bh rl rh ps qs ls) (1 + n) (1 + j) l h e)) :
    Calls Try.prog 22 #[BoV M bl bh rl rh (.slice aP nP cP) (.slice aQ nQ cQ) (.slice aL nL cL), .int .i64 n, .int .i64 j] w fun e' w' => e' = .returned (.tuple #[SpV l h, .int .i64 e]) ∧ Up w w' := by
  have hmx : Try.prog.follows .mixedOrders = true := by kernel_rfl
  have hn := I.len
  have hno := J.len
  have hnp := K.len
  have mP := I.max
  have mQ := J.max
  subst hn hno hnp
  obtain ⟨q0, e0⟩ : ∃ x, w.heap.size = x := ⟨_, rfl⟩
  have U := ((Up.refl w).alloc (.cells (BoC M bl bh rl rh (.slice aP ps.length cP) (.slice aQ qs.length cQ) (.slice aL ls.length cL)) 27)).alloc (.cells #[.int .i64 0, .int .i64 0] 23)
  have kB := blk_keep (.cells #[.int .i64 0, .int .i64 0] 23) (blk_new w (.cells (BoC M bl bh rl rh (.slice aP ps.length cP) (.slice aQ qs.length cQ) (.slice aL ls.length cL)) 27) q0 e0.symm)
  have kZ := blk_new (w.alloc (.cells (BoC M bl bh rl rh (.slice aP ps.length cP) (.slice aQ qs.length cQ) (.slice aL ls.length cL)) 27)) (.cells #[.int .i64 0, .int .i64 0] 23) (q0 + 1) (by simp [e0])
  have HI := Lib.hid (fun w' (u : Up w w') => I.up u)
  have HJ := Lib.hid (fun w' (u : Up w w') => J.up u)
  have HK := Lib.hid (fun w' (u : Up w w') => K.up u)
  unfold T.qErr at hq
  clear I J K
  obtain ⟨lm, hlm⟩ : ∃ x, IntKind.i64.wrap (M - 1) = x := ⟨_, rfl⟩
  have hcase : (((T.valid M bl bh rl rh ps qs ls = false ∧ e = 30) ∨ (T.valid M bl bh rl rh ps qs ls = true ∧ (inB n 0 lm && inB j 0 lm) = false ∧ e = 31)) ∧ l = 0 ∧ h = 0 ∧ e ≠ 0) ∨ (T.valid M bl bh rl rh ps qs ls = true ∧ (inB n 0 lm && inB j 0 lm) = true ∧ ∀ N : Nat, M = N → T.Tells (T.Tr N bl bh rl rh ps qs ls) (1 + n) (1 + j) l h e) := by
    cases hv : T.valid M bl bh rl rh ps qs ls with
    | false =>
      rw [hv] at hq
      rcases hq with ⟨h1, h2, h3, h4⟩ | ⟨h1, _⟩
      · exact .inl ⟨.inl ⟨rfl, h2⟩, h3, h4, by rw [h2]; exact h1⟩
      · cases h1
    | true =>
      rw [hv] at hq
      obtain ⟨⟨hN, _⟩, _⟩ := T.valid_parts hv
      have ha : T.askd ps.length qs.length M 2 [n, j] = (inB n 0 lm && inB j 0 lm) := by
        rw [← hlm, show IntKind.i64.wrap (M - 1) = M - 1 from IntWalk.i64_in _ (by omega)]
        unfold T.askd T.many
        simp
      rw [ha] at hq
      cases hb : (inB n 0 lm && inB j 0 lm) with
      | false =>
        rw [hb] at hq
        rcases hq with ⟨h1, h2, h3, h4⟩ | ⟨h1, _⟩
        · exact .inl ⟨.inr ⟨rfl, rfl, h2⟩, h3, h4, by rw [h2]; exact h1⟩
        · cases h1
      | true =>
        rw [hb] at hq
        rcases hq with ⟨h1, _⟩ | ⟨_, h2⟩
        · exact absurd rfl h1
        · exact .inr ⟨rfl, rfl, h2⟩
  clear hq
  go_enter Try.func22, Try.ntmps22
  go_wp2_with fail
  obtain ⟨X0, hX0⟩ : ∃ z, (w.alloc (.cells (BoC M bl bh rl rh (.slice aP ps.length cP) (.slice aQ qs.length cQ) (.slice aL ls.length cL)) 27)).alloc (.cells #[.int .i64 0, .int .i64 0] 23) = z := ⟨_, rfl⟩
  rw [hX0] at U kB kZ
  try rw [hX0]
  clear hX0
  rcases hcase with hcase | hcase
  · skip
    obtain ⟨hq, rfl, rfl, he0⟩ := hcase
    have hb : (e != 0) = true := by rw [bne_iff_ne]; exact he0
    clear he0
    cases hb1 : inB n 0 lm with
    | false =>
      rw [hb1] at hq
      rw [Bool.false_and] at hq
      refine (wpIn_wide (n := 5)).1 ?_
      refine wpIn_nrm ?_
      refine regionG (fun w' => Up w w' ∧ mblk w' q0 = some (.cells (BoC M bl bh rl rh (.slice aP ps.length cP) (.slice aQ qs.length cQ) (.slice aL ls.length cL)) 27 (0, 0)) ∧ mblk w' (q0 + 1) = some (.cells #[.int .i64 0, .int .i64 0] 23 (0, 0))) 18 hmx ⟨U.drew, (by rw [blk_drew]; exact kB), (by rw [blk_drew]; exact kZ)⟩ (fun hHeld hCl => ?_)
      refine T.gT 0 (some 11) ?v1 rfl rfl hCl (by assumption) ?hy1 (fun hCl => ?_)
      case hy1 => ((intro w hSw; (try dsimp only at hSw); (try go_split_ands); go_simp); try with_reducible rfl)
      simp only [Act.put, T.pa, T.pb, T.pc]
      refine T.gT 1 (some 12) ?v2 rfl rfl hCl (by assumption) ?hy2 (fun hCl => ?_)
      case hy2 => ((intro w hSw; (try dsimp only at hSw); (try go_split_ands); go_simp); try with_reducible rfl)
      simp only [Act.put, T.pa, T.pb, T.pc]
      refine T.gT 2 (some 13) ?v3 rfl rfl hCl (by assumption) ?hy3 (fun hCl => ?_)
      case hy3 => ((intro w hSw; (try dsimp only at hSw); (try go_split_ands); go_simp); try with_reducible rfl)
      simp only [Act.put, T.pa, T.pb, T.pc]
      refine T.gT 3 (some 14) ?v4 rfl rfl hCl (by assumption) ?hy4 (fun hCl => ?_)
      case hy4 => ((intro w hSw; (try dsimp only at hSw); (try go_split_ands); go_simp); try with_reducible rfl)
      simp only [Act.put, T.pa, T.pb, T.pc]
      refine T.gT 4 (some 15) ?v5 rfl rfl hCl (by assumption) ?hy5 (fun hCl => ?_)
      case hy5 => ((intro w hSw; (try dsimp only at hSw); (try go_split_ands); go_simp); try with_reducible rfl)
      simp only [Act.put, T.pa, T.pb, T.pc]
      refine nextG (i := 5) (by kernel_rfl) rfl (by rfl) hCl (fun K hK => ?_)
      go_simp
      refine ⟨trivial, (callsIn_wide.2 (B_Lies_any _ _ _ _)).mono ?_⟩
      rintro e' w9 ⟨rfl, rfl⟩
      rw [hb1]
      refine hK.out _ _ hHeld (fun hHeld hCl => ?_)
      clear hK K
      try dsimp only [List.getElem_toArray, List.getElem_cons_succ, List.getElem_cons_zero]
      try simp only [Act.put, List.setIfInBounds_toArray, List.set_cons_zero, List.set_cons_succ]
      refine T.gT 6 (some 17) ?v7 rfl rfl hCl (by assumption) ?hy7 (fun hCl => ?_)
      case hy7 => ((intro w hSw; (try dsimp only at hSw); (try go_split_ands); go_simp); try with_reducible rfl)
      simp only [Act.put, T.pa, T.pb, T.pc]
      refine T.gS 7 (some 18) rfl rfl hCl (by assumption) (fun hCl => ?_)
      simp only [Act.put, T.pa, T.pb, T.pc]
      refine T.gS 8 (some 19) rfl rfl hCl (by assumption) (fun hCl => ?_)
      simp only [Act.put, T.pa, T.pb, T.pc]
      refine T.gS 9 (some 20) rfl rfl hCl (by assumption) (fun hCl => ?_)
      simp only [Act.put, T.pa, T.pb, T.pc]
      refine T.gS 10 (some 21) rfl rfl hCl (by assumption) (fun hCl => ?_)
      simp only [Act.put, T.pa, T.pb, T.pc]
      refine T.gS 11 (some 22) rfl rfl hCl (by assumption) (fun hCl => ?_)
      simp only [Act.put, T.pa, T.pb, T.pc]
      refine T.gT 12 (some 23) ?v13 rfl rfl hCl (by assumption) ?hy13 (fun hCl => ?_)
      case hy13 => ((intro w hSw; (try dsimp only at hSw); (try go_split_ands); go_simp); try with_reducible rfl)
      simp only [Act.put, T.pa, T.pb, T.pc]
      refine nextG (i := 13) (by kernel_rfl) rfl (by rfl) hCl (fun K hK => ?_)
      go_simp
      refine ⟨trivial, (callsIn_wide.2 (r_asked_err (r := false) (HI.out _ hHeld.1) (HJ.out _ hHeld.1) (HK.out _ hHeld.1) hq)).mono ?_⟩
      rintro e' X1 ⟨rfl, u⟩
      refine hK.out _ _ ⟨hHeld.1.trans u, u.blk hHeld.2.1, u.blk hHeld.2.2⟩ (fun hHeld hCl => ?_)
      clear hK K u
      try dsimp only [List.getElem_toArray, List.getElem_cons_succ, List.getElem_cons_zero]
      try simp only [Act.put, List.setIfInBounds_toArray, List.set_cons_zero, List.set_cons_succ]
      refine T.gT 14 (some 10) ?v15 rfl rfl hCl (by assumption) ?hy15 (fun hCl => ?_)
      case hy15 => ((intro w hSw; (try dsimp only at hSw); (try go_split_ands); go_simp); try with_reducible rfl)
      simp only [Act.put, T.pa, T.pb, T.pc]
      refine T.gT 15 (some 25) ?v16 rfl rfl hCl (by assumption) ?hy16 (fun hCl => ?_)
      case hy16 => ((intro w hSw; (try dsimp only at hSw); (try go_split_ands); go_simp); try with_reducible rfl)
      simp only [Act.put, T.pa, T.pb, T.pc]
      refine T.gT 16 (some 26) ?v17 rfl rfl hCl (by assumption) ?hy17 (fun hCl => ?_)
      case hy17 => ((intro w hSw; (try dsimp only at hSw); (try go_split_ands); go_simp); try with_reducible rfl)
      simp only [Act.put, T.pa, T.pb, T.pc]
      refine nextG (i := 17) (by kernel_rfl) rfl (by rfl) hCl (fun K hK => ?_)
      go_simp
      refine hK.out _ _ hHeld (fun hHeld hCl => ?_)
      clear hK K
      try dsimp only [List.getElem_toArray, List.getElem_cons_succ, List.getElem_cons_zero]
      try simp only [Act.put, List.setIfInBounds_toArray, List.set_cons_zero, List.set_cons_succ]
      clear hCl
      refine lastG (i := 18) (by kernel_rfl) rfl (by rfl) (by decide) (fun K hK => ?_)
      go_simp
      refine hK.out _ _ ?_
      clear hK K
      refine doneG (by kernel_rfl) ?_ _
      refine S.nrm_intro ?_
      clear U kB kZ
      obtain ⟨U, kB, kZ⟩ := hHeld
      have zz := frozB kZ
      have KZ := Lib.hid (show mblk ((X1.setCell ⟨q0 + 1, 0, none⟩ (.int .i64 0)).setCell ⟨q0 + 1, 1, none⟩ (.int .i64 0)) (q0 + 1) = some (.cells #[.int .i64 0, .int .i64 0] 23 (0, 0)) from blk_put (blk_put kZ 0 _) 1 _)
      have UZ := Lib.hid ((U.set (p := ⟨q0 + 1, 0, none⟩) (show w.heap.size ≤ q0 + 1 by omega) (.int .i64 0)).set (p := ⟨q0 + 1, 1, none⟩) (show w.heap.size ≤ q0 + 1 by omega) (.int .i64 0))
      go_wp2_with fail
      have cc := cellB KZ.out
      exact bodyPost_ret (v := .tuple #[SpV 0 0, .int .i64 e]) (by simp [results, Try.results22, go_sem, cc]) rfl ⟨rfl, UZ.out⟩
    | true =>
      rw [hb1] at hq
      rw [Bool.true_and] at hq
      refine (wpIn_wide (n := 5)).1 ?_
      refine wpIn_nrm ?_
      refine regionG (fun w' => Up w w' ∧ mblk w' q0 = some (.cells (BoC M bl bh rl rh (.slice aP ps.length cP) (.slice aQ qs.length cQ) (.slice aL ls.length cL)) 27 (0, 0)) ∧ mblk w' (q0 + 1) = some (.cells #[.int .i64 0, .int .i64 0] 23 (0, 0))) 18 hmx ⟨U.drew, (by rw [blk_drew]; exact kB), (by rw [blk_drew]; exact kZ)⟩ (fun hHeld hCl => ?_)
      refine T.gT 0 (some 11) ?v20 rfl rfl hCl (by assumption) ?hy20 (fun hCl => ?_)
      case hy20 => ((intro w hSw; (try dsimp only at hSw); (try go_split_ands); go_simp); try with_reducible rfl)
      simp only [Act.put, T.pa, T.pb, T.pc]
      refine T.gT 1 (some 12) ?v21 rfl rfl hCl (by assumption) ?hy21 (fun hCl => ?_)
      case hy21 => ((intro w hSw; (try dsimp only at hSw); (try go_split_ands); go_simp); try with_reducible rfl)
      simp only [Act.put, T.pa, T.pb, T.pc]
      refine T.gT 2 (some 13) ?v22 rfl rfl hCl (by assumption) ?hy22 (fun hCl => ?_)
      case hy22 => ((intro w hSw; (try dsimp only at hSw); (try go_split_ands); go_simp); try with_reducible rfl)
      simp only [Act.put, T.pa, T.pb, T.pc]
      refine T.gT 3 (some 14) ?v23 rfl rfl hCl (by assumption) ?hy23 (fun hCl => ?_)
      case hy23 => ((intro w hSw; (try dsimp only at hSw); (try go_split_ands); go_simp); try with_reducible rfl)
      simp only [Act.put, T.pa, T.pb, T.pc]
      refine T.gT 4 (some 15) ?v24 rfl rfl hCl (by assumption) ?hy24 (fun hCl => ?_)
      case hy24 => ((intro w hSw; (try dsimp only at hSw); (try go_split_ands); go_simp); try with_reducible rfl)
      simp only [Act.put, T.pa, T.pb, T.pc]
      refine nextG (i := 5) (by kernel_rfl) rfl (by rfl) hCl (fun K hK => ?_)
      go_simp
      refine ⟨trivial, (callsIn_wide.2 (B_Lies_any _ _ _ _)).mono ?_⟩
      rintro e' w9 ⟨rfl, rfl⟩
      rw [hb1]
      refine hK.out _ _ hHeld (fun hHeld hCl => ?_)
      clear hK K
      try dsimp only [List.getElem_toArray, List.getElem_cons_succ, List.getElem_cons_zero]
      try simp only [Act.put, List.setIfInBounds_toArray, List.set_cons_zero, List.set_cons_succ]
      refine T.gT 6 (some 17) ?v26 rfl rfl hCl (by assumption) ?hy26 (fun hCl => ?_)
      case hy26 => ((intro w hSw; (try dsimp only at hSw); (try go_split_ands); go_simp); try with_reducible rfl)
      simp only [Act.put, T.pa, T.pb, T.pc]
      refine T.gT 7 (some 18) ?v27 rfl rfl hCl (by assumption) ?hy27 (fun hCl => ?_)
      case hy27 => ((intro w hSw; (try dsimp only at hSw); (try go_split_ands); go_simp); try with_reducible rfl)
      simp only [Act.put, T.pa, T.pb, T.pc]
      refine T.gT 8 (some 19) ?v28 rfl rfl hCl (by assumption) ?hy28 (fun hCl => ?_)
      case hy28 => ((intro w hSw; (try dsimp only at hSw); (try go_split_ands); go_simp); try with_reducible rfl)
      simp only [Act.put, T.pa, T.pb, T.pc]
      refine T.gT 9 (some 20) ?v29 rfl rfl hCl (by assumption) ?hy29 (fun hCl => ?_)
      case hy29 => ((intro w hSw; (try dsimp only at hSw); (try go_split_ands); go_simp); try with_reducible rfl)
      simp only [Act.put, T.pa, T.pb, T.pc]
      refine T.gT 10 (some 21) ?v30 rfl rfl hCl (by assumption) ?hy30 (fun hCl => ?_)
      case hy30 => ((intro w hSw; (try dsimp only at hSw); (try go_split_ands); go_simp); try with_reducible rfl)
      simp only [Act.put, T.pa, T.pb, T.pc]
      refine nextG (i := 11) (by kernel_rfl) rfl (by rfl) hCl (fun K hK => ?_)
      go_simp
      refine ⟨trivial, (callsIn_wide.2 (B_Lies_any _ _ _ _)).mono ?_⟩
      rintro e' w9 ⟨rfl, rfl⟩
      refine hK.out _ _ hHeld (fun hHeld hCl => ?_)
      clear hK K
      try dsimp only [List.getElem_toArray, List.getElem_cons_succ, List.getElem_cons_zero]
      try simp only [Act.put, List.setIfInBounds_toArray, List.set_cons_zero, List.set_cons_succ]
      refine T.gT 12 (some 23) ?v32 rfl rfl hCl (by assumption) ?hy32 (fun hCl => ?_)
      case hy32 => ((intro w hSw; (try dsimp only at hSw); (try go_split_ands); go_simp); try with_reducible rfl)
      simp only [Act.put, T.pa, T.pb, T.pc]
      refine nextG (i := 13) (by kernel_rfl) rfl (by rfl) hCl (fun K hK => ?_)
      go_simp
      refine ⟨trivial, (callsIn_wide.2 (r_asked_err (r := inB j 0 lm) (HI.out _ hHeld.1) (HJ.out _ hHeld.1) (HK.out _ hHeld.1) hq)).mono ?_⟩
      rintro e' X1 ⟨rfl, u⟩
      refine hK.out _ _ ⟨hHeld.1.trans u, u.blk hHeld.2.1, u.blk hHeld.2.2⟩ (fun hHeld hCl => ?_)
      clear hK K u
      try dsimp only [List.getElem_toArray, List.getElem_cons_succ, List.getElem_cons_zero]
      try simp only [Act.put, List.setIfInBounds_toArray, List.set_cons_zero, List.set_cons_succ]
      refine T.gT 14 (some 10) ?v34 rfl rfl hCl (by assumption) ?hy34 (fun hCl => ?_)
      case hy34 => ((intro w hSw; (try dsimp only at hSw); (try go_split_ands); go_simp); try with_reducible rfl)
      simp only [Act.put, T.pa, T.pb, T.pc]
      refine T.gT 15 (some 25) ?v35 rfl rfl hCl (by assumption) ?hy35 (fun hCl => ?_)
      case hy35 => ((intro w hSw; (try dsimp only at hSw); (try go_split_ands); go_simp); try with_reducible rfl)
      simp only [Act.put, T.pa, T.pb, T.pc]
      refine T.gT 16 (some 26) ?v36 rfl rfl hCl (by assumption) ?hy36 (fun hCl => ?_)
      case hy36 => ((intro w hSw; (try dsimp only at hSw); (try go_split_ands); go_simp); try with_reducible rfl)
      simp only [Act.put, T.pa, T.pb, T.pc]
      refine nextG (i := 17) (by kernel_rfl) rfl (by rfl) hCl (fun K hK => ?_)
      go_simp
      refine hK.out _ _ hHeld (fun hHeld hCl => ?_)
      clear hK K
      try dsimp only [List.getElem_toArray, List.getElem_cons_succ, List.getElem_cons_zero]
      try simp only [Act.put, List.setIfInBounds_toArray, List.set_cons_zero, List.set_cons_succ]
      clear hCl
      refine lastG (i := 18) (by kernel_rfl) rfl (by rfl) (by decide) (fun K hK => ?_)
      go_simp
      refine hK.out _ _ ?_
      clear hK K
      refine doneG (by kernel_rfl) ?_ _
      refine S.nrm_intro ?_
      clear U kB kZ
      obtain ⟨U, kB, kZ⟩ := hHeld
      have zz := frozB kZ
      have KZ := Lib.hid (show mblk ((X1.setCell ⟨q0 + 1, 0, none⟩ (.int .i64 0)).setCell ⟨q0 + 1, 1, none⟩ (.int .i64 0)) (q0 + 1) = some (.cells #[.int .i64 0, .int .i64 0] 23 (0, 0)) from blk_put (blk_put kZ 0 _) 1 _)
      have UZ := Lib.hid ((U.set (p := ⟨q0 + 1, 0, none⟩) (show w.heap.size ≤ q0 + 1 by omega) (.int .i64 0)).set (p := ⟨q0 + 1, 1, none⟩) (show w.heap.size ≤ q0 + 1 by omega) (.int .i64 0))
      go_wp2_with fail
      have cc := cellB KZ.out
      exact bodyPost_ret (v := .tuple #[SpV 0 0, .int .i64 e]) (by simp [results, Try.results22, go_sem, cc]) rfl ⟨rfl, UZ.out⟩
  · skip
    obtain ⟨hv, hb, hq⟩ := hcase
    obtain ⟨N, rfl⟩ := T.valid_N hv
    have tt := hq N rfl
    clear hq
    obtain ⟨⟨hN, _⟩, ⟨h4, h5, _⟩, _⟩ := T.valid_parts hv
    rw [show IntKind.i64.wrap ((N : Int) - 1) = (N : Int) - 1 from IntWalk.i64_in _ (by omega)] at hlm
    subst hlm
    have hlm : IntKind.i64.wrap ((N : Int) - 1) = (N : Int) - 1 := IntWalk.i64_in _ (by omega)
    have HV := Lib.hid hv
    have HAk := Lib.hid (fun w' (u : Up w w') => r_asked_ok (bl := bl) (bh := bh) (rl := rl) (rh := rh) (HI.out _ u) (HJ.out _ u) (HK.out _ u) hv)
    clear hv
    rw [Bool.and_eq_true] at hb
    obtain ⟨hb1, hb2⟩ := hb
    have rn := inB_iff.1 hb1
    obtain ⟨kn, rfl⟩ := Int.eq_ofNat_of_zero_le rn.1
    have ln : kn < N := by omega
    have rj := inB_iff.1 hb2
    obtain ⟨kj, rfl⟩ := Int.eq_ofNat_of_zero_le rj.1
    have lj : kj < N := by omega
    refine (wpIn_wide (n := 5)).1 ?_
    refine wpIn_nrm ?_
    refine regionG (fun w' => Up w w' ∧ mblk w' q0 = some (.cells (BoC (N : Int) bl bh rl rh (.slice aP ps.length cP) (.slice aQ qs.length cQ) (.slice aL ls.length cL)) 27 (0, 0)) ∧ mblk w' (q0 + 1) = some (.cells #[.int .i64 0, .int .i64 0] 23 (0, 0))) 18 hmx ⟨U.drew, (by rw [blk_drew]; exact kB), (by rw [blk_drew]; exact kZ)⟩ (fun hHeld hCl => ?_)
    refine T.gT 0 (some 11) ?v39 rfl rfl hCl (by assumption) ?hy39 (fun hCl => ?_)
    case hy39 => ((intro w hSw; (try dsimp only at hSw); (try go_split_ands); go_simp); try with_reducible rfl)
    simp only [Act.put, T.pa, T.pb, T.pc]
    refine T.gT 1 (some 12) ?v40 rfl rfl hCl (by assumption) ?hy40 (fun hCl => ?_)
    case hy40 => ((intro w hSw; (try dsimp only at hSw); (try go_split_ands); go_simp); try with_reducible rfl)
    simp only [Act.put, T.pa, T.pb, T.pc]
    refine T.gT 2 (some 13) ?v41 rfl rfl hCl (by assumption) ?hy41 (fun hCl => ?_)
    case hy41 => ((intro w hSw; (try dsimp only at hSw); (try go_split_ands); go_simp); try with_reducible rfl)
    simp only [Act.put, T.pa, T.pb, T.pc]
    refine T.gT 3 (some 14) ?v42 rfl rfl hCl (by assumption) ?hy42 (fun hCl => ?_)
    case hy42 => ((intro w hSw; (try dsimp only at hSw); (try go_split_ands); go_simp); try with_reducible rfl)
    simp only [Act.put, T.pa, T.pb, T.pc]
    refine T.gT 4 (some 15) ?v43 rfl rfl hCl (by assumption) ?hy43 (fun hCl => ?_)
    case hy43 => ((intro w hSw; (try dsimp only at hSw); (try go_split_ands); go_simp); try with_reducible rfl)
    simp only [Act.put, T.pa, T.pb, T.pc]
    refine nextG (i := 5) (by kernel_rfl) rfl (by rfl) hCl (fun K hK => ?_)
    go_simp
    refine ⟨trivial, (callsIn_wide.2 (B_Lies_any _ _ _ _)).mono ?_⟩
    rintro e' w9 ⟨rfl, rfl⟩
    rw [hb1]
    refine hK.out _ _ hHeld (fun hHeld hCl => ?_)
    clear hK K
    try dsimp only [List.getElem_toArray, List.getElem_cons_succ, List.getElem_cons_zero]
    try simp only [Act.put, List.setIfInBounds_toArray, List.set_cons_zero, List.set_cons_succ]
    refine T.gT 6 (some 17) ?v45 rfl rfl hCl (by assumption) ?hy45 (fun hCl => ?_)
    case hy45 => ((intro w hSw; (try dsimp only at hSw); (try go_split_ands); go_simp); try with_reducible rfl)
    simp only [Act.put, T.pa, T.pb, T.pc]
    refine T.gT 7 (some 18) ?v46 rfl rfl hCl (by assumption) ?hy46 (fun hCl => ?_)
    case hy46 => ((intro w hSw; (try dsimp only at hSw); (try go_split_ands); go_simp); try with_reducible rfl)
    simp only [Act.put, T.pa, T.pb, T.pc]
    refine T.gT 8 (some 19) ?v47 rfl rfl hCl (by assumption) ?hy47 (fun hCl => ?_)
    case hy47 => ((intro w hSw; (try dsimp only at hSw); (try go_split_ands); go_simp); try with_reducible rfl)
    simp only [Act.put, T.pa, T.pb, T.pc]
    refine T.gT 9 (some 20) ?v48 rfl rfl hCl (by assumption) ?hy48 (fun hCl => ?_)
    case hy48 => ((intro w hSw; (try dsimp only at hSw); (try go_split_ands); go_simp); try with_reducible rfl)
    simp only [Act.put, T.pa, T.pb, T.pc]
    refine T.gT 10 (some 21) ?v49 rfl rfl hCl (by assumption) ?hy49 (fun hCl => ?_)
    case hy49 => ((intro w hSw; (try dsimp only at hSw); (try go_split_ands); go_simp); try with_reducible rfl)
    simp only [Act.put, T.pa, T.pb, T.pc]
    refine nextG (i := 11) (by kernel_rfl) rfl (by rfl) hCl (fun K hK => ?_)
    go_simp
    refine ⟨trivial, (callsIn_wide.2 (B_Lies_any _ _ _ _)).mono ?_⟩
    rintro e' w9 ⟨rfl, rfl⟩
    rw [hb2]
    refine hK.out _ _ hHeld (fun hHeld hCl => ?_)
    clear hK K
    try dsimp only [List.getElem_toArray, List.getElem_cons_succ, List.getElem_cons_zero]
    try simp only [Act.put, List.setIfInBounds_toArray, List.set_cons_zero, List.set_cons_succ]
    refine T.gT 12 (some 23) ?v51 rfl rfl hCl (by assumption) ?hy51 (fun hCl => ?_)
    case hy51 => ((intro w hSw; (try dsimp only at hSw); (try go_split_ands); go_simp); try with_reducible rfl)
    simp only [Act.put, T.pa, T.pb, T.pc]
    refine nextG (i := 13) (by kernel_rfl) rfl (by rfl) hCl (fun K hK => ?_)
    go_simp
    refine ⟨trivial, (callsIn_wide.2 (HAk.out _ hHeld.1)).mono ?_⟩
    rintro e' X1 ⟨⟨g, D, rw, Mm, hD, rfl, HM, HF⟩ | ⟨rfl, hno⟩, u⟩
    · skip
      have HD := Lib.hid hD
      clear hD
      refine hK.out _ _ ⟨hHeld.1.trans u, u.blk hHeld.2.1, u.blk hHeld.2.2⟩ (fun hHeld hCl => ?_)
      clear hK K u HAk
      try dsimp only [List.getElem_toArray, List.getElem_cons_succ, List.getElem_cons_zero]
      try simp only [Act.put, List.setIfInBounds_toArray, List.set_cons_zero, List.set_cons_succ]
      refine T.gT 14 (some 10) ?v53 rfl rfl hCl (by assumption) ?hy53 (fun hCl => ?_)
      case hy53 => ((intro w hSw; (try dsimp only at hSw); (try go_split_ands); go_simp); try with_reducible rfl)
      simp only [Act.put, T.pa, T.pb, T.pc]
      refine T.gT 15 (some 25) ?v54 rfl rfl hCl (by assumption) ?hy54 (fun hCl => ?_)
      case hy54 => ((intro w hSw; (try dsimp only at hSw); (try go_split_ands); go_simp); try with_reducible rfl)
      simp only [Act.put, T.pa, T.pb, T.pc]
      refine T.gT 16 (some 26) ?v55 rfl rfl hCl (by assumption) ?hy55 (fun hCl => ?_)
      case hy55 => ((intro w hSw; (try dsimp only at hSw); (try go_split_ands); go_simp); try with_reducible rfl)
      simp only [Act.put, T.pa, T.pb, T.pc]
      refine nextG (i := 17) (by kernel_rfl) rfl (by rfl) hCl (fun K hK => ?_)
      go_simp
      refine hK.out _ _ hHeld (fun hHeld hCl => ?_)
      clear hK K
      try dsimp only [List.getElem_toArray, List.getElem_cons_succ, List.getElem_cons_zero]
      try simp only [Act.put, List.setIfInBounds_toArray, List.set_cons_zero, List.set_cons_succ]
      clear hCl
      refine lastG (i := 18) (by kernel_rfl) rfl (by rfl) (by decide) (fun K hK => ?_)
      go_simp
      refine hK.out _ _ ?_
      clear hK K
      refine doneG (by kernel_rfl) ?_ _
      refine S.nrm_intro ?_
      clear U kB kZ
      obtain ⟨U, kB, kZ⟩ := hHeld
      obtain ⟨A, hA⟩ : ∃ A, 1 + kn = A := ⟨_, rfl⟩
      obtain ⟨B, hB⟩ : ∃ B, 1 + kj = B := ⟨_, rfl⟩
      have lA : A < D := by have := HD.out; omega
      have lB : B < D := by have := HD.out; omega
      have t2 := HF.tells HV.out (o := T.o0) (fun k _ => (Nat.zero_testBit k).symm) (T.al_night (n := (kn : Int)) ⟨by omega, by omega⟩) (T.al_night (n := (kj : Int)) ⟨by omega, by omega⟩)
      rw [show T.rx N ps.length (1 + (kn : Int)) = A from ((T.rx_1 (k := kn) (by omega)).trans (Nat.add_comm _ _)).trans hA, show T.rx N ps.length (1 + (kj : Int)) = B from ((T.rx_1 (k := kj) (by omega)).trans (Nat.add_comm _ _)).trans hB] at t2
      obtain ⟨h1, h2, h3⟩ := tt.uniq t2
      subst h3
      have HBt := Lib.hid (fun w' (u : Up X1 w') => show Calls Try.prog 67 #[.slice (some ⟨g, 0, none⟩) D D, .int .i64 (A : Int), .int .i64 (B : Int)] w' fun e w'' => e = .returned (SpV l h) ∧ Up w' w'' by rw [h1, h2]; exact r_between_any (HM.up u) lA lB (by have := (HF B A (by have := HD.out; omega) (by have := HD.out; omega)).1; omega))
      clear t2 h1 h2 HF HM tt
      have wA : IntKind.i64.wrap (1 + (kn : Int)) = (A : Int) := by rw [show 1 + (kn : Int) = (A : Int) by omega]; exact IntWalk.i64_in _ (by omega)
      have wB : IntKind.i64.wrap (1 + (kj : Int)) = (B : Int) := by rw [show 1 + (kj : Int) = (B : Int) by omega]; exact IntWalk.i64_in _ (by omega)
      have Uz := Up.refl X1
      clear hA hB lA lB
      go_wp2_with fail
      refine (HBt.out _ Uz).mono ?_
      rintro e x51 ⟨rfl, u52⟩
      replace U := U.trans u52
      replace kB := u52.blk kB
      replace kZ := u52.blk kZ
      replace Uz := Uz.trans u52
      clear u52 HBt
      have zz := frozB kZ
      have KZ := Lib.hid (show mblk ((x51.setCell ⟨q0 + 1, 0, none⟩ (.int .i64 l)).setCell ⟨q0 + 1, 1, none⟩ (.int .i64 h)) (q0 + 1) = some (.cells #[.int .i64 l, .int .i64 h] 23 (0, 0)) from blk_put (blk_put kZ 0 _) 1 _)
      have UZ := Lib.hid ((U.set (p := ⟨q0 + 1, 0, none⟩) (show w.heap.size ≤ q0 + 1 by omega) (.int .i64 l)).set (p := ⟨q0 + 1, 1, none⟩) (show w.heap.size ≤ q0 + 1 by omega) (.int .i64 h))
      go_wp2_with fail
      have cc := cellB KZ.out
      exact bodyPost_ret (v := .tuple #[SpV l h, .int .i64 0]) (by simp [results, Try.results22, go_sem, cc]) rfl ⟨rfl, UZ.out⟩
    · skip
      obtain ⟨h3, h1, h2⟩ := tt.none hno
      subst h1 h2 h3
      refine hK.out _ _ ⟨hHeld.1.trans u, u.blk hHeld.2.1, u.blk hHeld.2.2⟩ (fun hHeld hCl => ?_)
      clear hK K u HAk hno tt
      try dsimp only [List.getElem_toArray, List.getElem_cons_succ, List.getElem_cons_zero]
      try simp only [Act.put, List.setIfInBounds_toArray, List.set_cons_zero, List.set_cons_succ]
      refine T.gT 14 (some 10) ?v58 rfl rfl hCl (by assumption) ?hy58 (fun hCl => ?_)
      case hy58 => ((intro w hSw; (try dsimp only at hSw); (try go_split_ands); go_simp); try with_reducible rfl)
      simp only [Act.put, T.pa, T.pb, T.pc]
      refine T.gT 15 (some 25) ?v59 rfl rfl hCl (by assumption) ?hy59 (fun hCl => ?_)
      case hy59 => ((intro w hSw; (try dsimp only at hSw); (try go_split_ands); go_simp); try with_reducible rfl)
      simp only [Act.put, T.pa, T.pb, T.pc]
      refine T.gT 16 (some 26) ?v60 rfl rfl hCl (by assumption) ?hy60 (fun hCl => ?_)
      case hy60 => ((intro w hSw; (try dsimp only at hSw); (try go_split_ands); go_simp); try with_reducible rfl)
      simp only [Act.put, T.pa, T.pb, T.pc]
      refine nextG (i := 17) (by kernel_rfl) rfl (by rfl) hCl (fun K hK => ?_)
      go_simp
      refine hK.out _ _ hHeld (fun hHeld hCl => ?_)
      clear hK K
      try dsimp only [List.getElem_toArray, List.getElem_cons_succ, List.getElem_cons_zero]
      try simp only [Act.put, List.setIfInBounds_toArray, List.set_cons_zero, List.set_cons_succ]
      clear hCl
      refine lastG (i := 18) (by kernel_rfl) rfl (by rfl) (by decide) (fun K hK => ?_)
      go_simp
      refine hK.out _ _ ?_
      clear hK K
      refine doneG (by kernel_rfl) ?_ _
      refine S.nrm_intro ?_
      clear U kB kZ
      obtain ⟨U, kB, kZ⟩ := hHeld
      have zz := frozB kZ
      have KZ := Lib.hid (show mblk ((X1.setCell ⟨q0 + 1, 0, none⟩ (.int .i64 0)).setCell ⟨q0 + 1, 1, none⟩ (.int .i64 0)) (q0 + 1) = some (.cells #[.int .i64 0, .int .i64 0] 23 (0, 0)) from blk_put (blk_put kZ 0 _) 1 _)
      have UZ := Lib.hid ((U.set (p := ⟨q0 + 1, 0, none⟩) (show w.heap.size ≤ q0 + 1 by omega) (.int .i64 0)).set (p := ⟨q0 + 1, 1, none⟩) (show w.heap.size ≤ q0 + 1 by omega) (.int .i64 0))
      go_wp2_with fail
      have cc := cellB KZ.out
      exact bodyPost_ret (v := .tuple #[SpV 0 0, .int .i64 32]) (by simp [results, Try.results22, go_sem, cc]) rfl ⟨rfl, UZ.out⟩
end

end Go.Proofs.Ytlpkheoljbdajaa

/- What the program and the reference tell (Between) is the same. -/
namespace Go.Proofs.Ytlpkheoljbdajaa
open Go.RowKit Go.Shelf
attribute [local go_sem] Oper.semAt_some

section
variable {bl bh rl rh : Int} {aP aQ aL : Option Addr} {nP cP nQ cQ nL cL : Nat} {ps qs : List (Int × Int)} {ls : List T.T5}
theorem T.both_Between {w : World} (M n j : Int) (I : Sps w (.slice aP nP cP) ps) (J : Sps w (.slice aQ nQ cQ) qs) (K : Lks w (.slice aL nL cL) ls) : ∃ l h e, ∀ w' (_ : Up w w'), (Calls Try.prog 21 #[BoV M bl bh rl rh (.slice aP nP cP) (.slice aQ nQ cQ) (.slice aL nL cL), .int .i64 n, .int .i64 j] w' fun e' w'' => e' = .returned (.tuple #[SpV l h, .int .i64 e]) ∧ Up w' w'') ∧ Calls Try.prog 22 #[BoV M bl bh rl rh (.slice aP nP cP) (.slice aQ nQ cQ) (.slice aL nL cL), .int .i64 n, .int .i64 j] w' fun e' w'' => e' = .returned (.tuple #[SpV l h, .int .i64 e]) ∧ Up w' w'' := by
  by_cases hq : T.qErr M bl bh rl rh ps qs ls 2 [n, j] = 0
  · obtain ⟨hv, ha⟩ := T.qErr_zero hq
    obtain ⟨N, rfl⟩ := T.valid_N hv
    simp only [T.askd, T.many, List.all_cons, List.all_nil, Bool.and_true, Bool.and_eq_true, inB_iff] at ha
    have r0 : 0 ≤ n ∧ n < (N : Int) := by omega
    have r1 : 0 ≤ j ∧ j < (N : Int) := by omega
    obtain ⟨l, h, e, t, _⟩ := T.Tells.ex (o := T.o0) (m := (1 + n)) (i := (1 + j)) hv (T.al_night r0) (T.al_night r1)
    exact ⟨l, h, e, fun w' u => ⟨Between_tells hv r0 r1 t (I.up u) (J.up u) (K.up u), r_Between_any (I.up u) (J.up u) (K.up u) (.inr ⟨hq, fun N' hN => by
      obtain rfl : N' = N := by omega
      exact t⟩)⟩⟩
  · exact ⟨0, 0, _, fun w' u => ⟨Between_bad (I.up u) (J.up u) (K.up u) rfl hq, r_Between_any (I.up u) (J.up u) (K.up u) (.inl ⟨hq, rfl, rfl, rfl⟩)⟩⟩
end

end Go.Proofs.Ytlpkheoljbdajaa
