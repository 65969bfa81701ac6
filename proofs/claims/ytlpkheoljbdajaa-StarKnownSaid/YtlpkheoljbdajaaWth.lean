import Derived.Test.YtlpkheoljbdajaaHst
import Derived.Test.YtlpkheoljbdajaaBkE
import Derived.Test.YtlpkheoljbdajaaClA
import Derived.Test.YtlpkheoljbdajaaHeQ
/- The contract of the laws' without. -/
namespace Go.Proofs.Ytlpkheoljbdajaa
open Go.RowKit Go.Shelf
attribute [local go_sem] Oper.semAt_some

/-- a row's cells as a look -/
theorem T.one_look {w : World} {q : Nat} {r0 r1 r2 r3 r4 : Int} (h : mblk w q = some (.cells #[.int .i64 r0, .int .i64 r1, .int .i64 r2, .int .i64 r3, .int .i64 r4] 63 (0, 0))) : Lks w (.slice (some ⟨q, 0, none⟩) 1 1) [(r0, r1, r2, r3, r4)] :=
  Tab.new (cap := 1) (xs := [(r0, r1, r2, r3, r4)]) h (Nat.le_refl _) (by simp) (fun j hj i hi => by
    obtain rfl : j = 0 := by simpa using hj
    match i, hi with
    | 0, _ => rfl
    | 1, _ => rfl
    | 2, _ => rfl
    | 3, _ => rfl
    | 4, _ => rfl)
/-- the looks up to a place whose numbers are not in a list -/
def T.kpt (zs : List Int) (ls : List T.T5) (j : Nat) : List T.T5 := ((List.range j).filter fun (k : Nat) => decide ((k : Int) ∉ zs)).map fun k => ls.getD k (0, 0, 0, 0, 0)
theorem T.kpt_step {zs : List Int} {ls : List T.T5} {j : Nat} : T.kpt zs ls (j + 1) = T.kpt zs ls j ++ (if (j : Int) ∈ zs then [] else [ls.getD j (0, 0, 0, 0, 0)]) := by
  unfold T.kpt
  rw [List.range_succ, List.filter_append, List.map_append]
  by_cases h : (j : Int) ∈ zs <;> simp [h]
theorem T.kpt_len {zs : List Int} {ls : List T.T5} {j : Nat} : (T.kpt zs ls j).length ≤ j := by
  unfold T.kpt
  rw [List.length_map]
  have h := List.length_filter_le (fun k : Nat => decide ((k : Int) ∉ zs)) (List.range j)
  rw [List.length_range] at h
  exact h
section
variable {bl bh rl rh : Int} {aP aQ aL : Option Addr} {nP cP nQ cQ nL cL : Nat} {ps qs : List (Int × Int)} {ls : List T.T5}
set_option maxRecDepth 100000 in
set_option maxHeartbeats 4000000 in
theorem l_without_any {M : Int} {zs : List Int} {w : World} {vl : Value} (K : Lks w (.slice aL nL cL) ls) (IL : Ints w vl zs) (h10 : ls.length ≤ 10) :
    Calls Try.prog 47 #[BoV M bl bh rl rh (.slice aP nP cP) (.slice aQ nQ cQ) (.slice aL nL cL), vl] w fun e w' => (∃ a n c, e = .returned (BoV M bl bh rl rh (.slice aP nP cP) (.slice aQ nQ cQ) (.slice a n c)) ∧ Lks w' (.slice a n c) (T.kpt zs ls ls.length)) ∧ Up w w' := by
  have hmx : Try.prog.follows .mixedOrders = true := by kernel_rfl
  have hn := K.len
  subst hn
  have HP := Lib.hid K
  have HF := Lib.hid (fun n w' (u : Up w w') => B_Find_any (IL.up u) n)
  clear K IL
  go_enter Try.func47, Try.ntmps47
  obtain ⟨q0, e0⟩ : ∃ x, w.heap.size = x := ⟨_, rfl⟩
  have U := (((Up.refl w).alloc (.cells (BoC M bl bh rl rh (.slice aP nP cP) (.slice aQ nQ cQ) (.slice aL ls.length cL)) 27)).alloc (.cells #[.int .i64 0, .int .i64 0, .int .i64 0, .int .i64 0, .int .i64 0, .slice none 0 0, .slice none 0 0, .slice none 0 0] 27)).alloc (.cells (BoC M bl bh rl rh (.slice aP nP cP) (.slice aQ nQ cQ) (.slice none 0 0)) 27)
  have kC := blk_keep (.cells (BoC M bl bh rl rh (.slice aP nP cP) (.slice aQ nQ cQ) (.slice none 0 0)) 27) (blk_keep (.cells #[.int .i64 0, .int .i64 0, .int .i64 0, .int .i64 0, .int .i64 0, .slice none 0 0, .slice none 0 0, .slice none 0 0] 27) (blk_new w (.cells (BoC M bl bh rl rh (.slice aP nP cP) (.slice aQ nQ cQ) (.slice aL ls.length cL)) 27) q0 e0.symm))
  have kZ := blk_keep (.cells (BoC M bl bh rl rh (.slice aP nP cP) (.slice aQ nQ cQ) (.slice none 0 0)) 27) (blk_new (w.alloc (.cells (BoC M bl bh rl rh (.slice aP nP cP) (.slice aQ nQ cQ) (.slice aL ls.length cL)) 27)) (.cells #[.int .i64 0, .int .i64 0, .int .i64 0, .int .i64 0, .int .i64 0, .slice none 0 0, .slice none 0 0, .slice none 0 0] 27) (q0 + 1) (by simp [e0]))
  have kX := blk_new ((w.alloc (.cells (BoC M bl bh rl rh (.slice aP nP cP) (.slice aQ nQ cQ) (.slice aL ls.length cL)) 27)).alloc (.cells #[.int .i64 0, .int .i64 0, .int .i64 0, .int .i64 0, .int .i64 0, .slice none 0 0, .slice none 0 0, .slice none 0 0] 27)) (.cells (BoC M bl bh rl rh (.slice aP nP cP) (.slice aQ nQ cQ) (.slice none 0 0)) 27) (q0 + 1 + 1) (by simp [e0])
  have hsz : q0 + 3 ≤ (((w.alloc (.cells (BoC M bl bh rl rh (.slice aP nP cP) (.slice aQ nQ cQ) (.slice aL ls.length cL)) 27)).alloc (.cells #[.int .i64 0, .int .i64 0, .int .i64 0, .int .i64 0, .int .i64 0, .slice none 0 0, .slice none 0 0, .slice none 0 0] 27)).alloc (.cells (BoC M bl bh rl rh (.slice aP nP cP) (.slice aQ nQ cQ) (.slice none 0 0)) 27)).heap.size := by rw [sz1, sz1, sz1, e0]; omega
  go_wp2_with fail
  go_loopw [6] (fun i wr => ∃ (j n : Nat) (a : Option Addr) (c : Nat), j ≤ ls.length ∧ i = .int .i64 j ∧ Hid (wr.ownsRow (q0 + 3) 63 5 (.slice a n c) n (T.flat 5 T.encL (T.kpt zs ls j))) ∧ n ≤ j ∧ Up w wr ∧ mblk wr q0 = some (.cells (BoC M bl bh rl rh (.slice aP nP cP) (.slice aQ nQ cQ) (.slice aL ls.length cL)) 27 (0, 0)) ∧ mblk wr (q0 + 1) = some (.cells #[.int .i64 0, .int .i64 0, .int .i64 0, .int .i64 0, .int .i64 0, .slice none 0 0, .slice none 0 0, .slice none 0 0] 27 (0, 0)) ∧ mblk wr (q0 + 1 + 1) = some (.cells (BoC M bl bh rl rh (.slice aP nP cP) (.slice aQ nQ cQ) (.slice a n c)) 27 (0, 0)) ∧ q0 + 3 ≤ wr.heap.size) (fun i _ => ls.length - (intOf i).toNat)
  case atStart => exact ⟨0, 0, none, 0, Nat.zero_le _, rfl, Lib.hid ⟨rfl, .inl ⟨rfl, rfl⟩⟩, Nat.le_refl _, U, kC, kZ, kX, hsz⟩
  case round =>
    clear U kC kZ kX hsz
    obtain ⟨j, n, a, c, hj, rfl, HO, hnj, U, kC, kZ, kX, hsz⟩ := hrel
    by_cases hlt : j < ls.length
    · have ew : IntKind.i64.wrap ((j : Int) + 1) = (j : Int) + 1 := IntWalk.i64_in _ (by omega)
      have dk : decide ((j : Int) < (ls.length : Int)) = true := decide_eq_true (by omega)
      have ilt : (j : Int) < (ls.length : Int) := by omega
      obtain ⟨a', c', e', _, _, hm⟩ := HP.out.is
      injection e' with ea eb ec
      clear eb ec
      obtain ⟨g, off, ga, gl, hx⟩ := hm (by omega)
      subst ea ga
      have st := T.kpt_step (zs := zs) (ls := ls) (j := j)
      have cc0 := (U.facts.1 g _ gl).trans (hx j hlt 0 (by omega))
      have cc1 := (U.facts.1 g _ gl).trans (hx j hlt 1 (by omega))
      have cc2 := (U.facts.1 g _ gl).trans (hx j hlt 2 (by omega))
      have cc3 := (U.facts.1 g _ gl).trans (hx j hlt 3 (by omega))
      have cc4 := (U.facts.1 g _ gl).trans (hx j hlt 4 (by omega))
      obtain ⟨⟨r0, r1, r2, r3, r4⟩, hss⟩ : ∃ s, ls.getD j (0, 0, 0, 0, 0) = s := ⟨_, rfl⟩
      rw [hss] at cc0 cc1 cc2 cc3 cc4 st
      replace cc0 : wr.cell? ⟨g, off + j * 5, none⟩ = some (.int .i64 r0) := cc0
      replace cc1 : wr.cell? ⟨g, off + j * 5 + 1, none⟩ = some (.int .i64 r1) := cc1
      replace cc2 : wr.cell? ⟨g, off + j * 5 + 2, none⟩ = some (.int .i64 r2) := cc2
      replace cc3 : wr.cell? ⟨g, off + j * 5 + 3, none⟩ = some (.int .i64 r3) := cc3
      replace cc4 : wr.cell? ⟨g, off + j * 5 + 4, none⟩ = some (.int .i64 r4) := cc4
      have HS := Lib.hid st
      clear hx hss hm st
      go_wp2_with fail
      refine (HF.out j _ U).mono ?_
      rintro e w9 ⟨⟨r, rfl, hr⟩, rfl⟩
      by_cases m1 : (j : Int) ∈ zs
      · have d1 : decide (r < 0) = false := decide_eq_false (fun q => hr.1 q m1)
        have d1' : ¬ r < 0 := fun q => hr.1 q m1
        have HO2 := Lib.hid (show wr.ownsRow (q0 + 3) 63 5 (.slice a n c) n (T.flat 5 T.encL (T.kpt zs ls (j + 1))) by
          rw [HS.out, if_pos m1, List.append_nil]
          exact HO.out)
        clear hr HO HS m1
        go_wp2_with fail
        go_roundw
        case rel => exact ⟨j + 1, n, a, c, by omega, by go_num, HO2, by omega, U, kC, kZ, kX, hsz⟩
        case measure => (simp only [intOf]; omega)
      · have d1 : decide (r < 0) = true := decide_eq_true (hr.2 m1)
        have d1' : r < 0 := hr.2 m1
        have HS2 := HS.out
        rw [if_neg m1] at HS2
        have HS3 := Lib.hid HS2
        have hq0 : g < q0 := by omega
        clear hr HS HS2 m1
        go_wp2_with fail
        refine (wpIn_wide (n := 5)).1 ?_
        refine wpIn_nrm ?_
        refine regionG (fun w' => Up w w' ∧ mblk w' (q0) = some (.cells (BoC M bl bh rl rh (.slice aP nP cP) (.slice aQ nQ cQ) (.slice (some ⟨g, off, none⟩) ls.length cL)) 27 (0, 0)) ∧ mblk w' (q0 + 1) = some (.cells #[.int .i64 0, .int .i64 0, .int .i64 0, .int .i64 0, .int .i64 0, .slice none 0 0, .slice none 0 0, .slice none 0 0] 27 (0, 0)) ∧ mblk w' (q0 + 1 + 1) = some (.cells (BoC M bl bh rl rh (.slice aP nP cP) (.slice aQ nQ cQ) (.slice a n c)) 27 (0, 0)) ∧ w'.cell? ⟨g, off + j * 5, none⟩ = some (.int .i64 r0) ∧ w'.cell? ⟨g, off + j * 5 + 1, none⟩ = some (.int .i64 r1) ∧ w'.cell? ⟨g, off + j * 5 + 2, none⟩ = some (.int .i64 r2) ∧ w'.cell? ⟨g, off + j * 5 + 3, none⟩ = some (.int .i64 r3) ∧ w'.cell? ⟨g, off + j * 5 + 4, none⟩ = some (.int .i64 r4)) 10 hmx ⟨U.drew, (by rw [blk_drew]; exact kC), (by rw [blk_drew]; exact kZ), (by rw [blk_drew]; exact kX), cc0, cc1, cc2, cc3, cc4⟩ (fun hHeld hCl => ?_)
        refine takeG (i := 0) (d := (some 20)) (v := ?v1) rfl rfl (by kernel_rfl) (by kernel_rfl) (by decide) hCl (by kernel_rfl) (by kernel_rfl) (by kernel_rfl) (fun _ _ _ h => h) (by rfl) ?hy1 (fun _ _ _ => trivial) (by assumption) (fun hCl' => ?_)
        case hy1 => ((intro w hSw; (try dsimp only at hSw); (try go_split_ands); go_simp); try with_reducible rfl)
        simp only [Act.put, List.setIfInBounds_toArray, List.set_cons_zero, List.set_cons_succ]
        replace hCl := hCl'; clear hCl'
        refine takeG (i := 2) (d := (some 22)) (v := ?v2) rfl rfl (by kernel_rfl) (by kernel_rfl) (by decide) hCl (by kernel_rfl) (by kernel_rfl) (by kernel_rfl) (fun _ _ _ h => h) (by rfl) ?hy2 (fun _ _ _ => trivial) (by assumption) (fun hCl' => ?_)
        case hy2 => ((intro w hSw; (try dsimp only at hSw); (try go_split_ands); go_simp); try with_reducible rfl)
        simp only [Act.put, List.setIfInBounds_toArray, List.set_cons_zero, List.set_cons_succ]
        replace hCl := hCl'; clear hCl'
        refine takeG (i := 4) (d := (some 24)) (v := ?v3) rfl rfl (by kernel_rfl) (by kernel_rfl) (by decide) hCl (by kernel_rfl) (by kernel_rfl) (by kernel_rfl) (fun _ _ _ h => h) (by rfl) ?hy3 (fun _ _ _ => trivial) (by assumption) (fun hCl' => ?_)
        case hy3 => ((intro w hSw; (try dsimp only at hSw); (try go_split_ands); go_simp); try with_reducible rfl)
        simp only [Act.put, List.setIfInBounds_toArray, List.set_cons_zero, List.set_cons_succ]
        replace hCl := hCl'; clear hCl'
        refine takeG (i := 1) (d := (some 21)) (v := ?v4) rfl rfl (by kernel_rfl) (by kernel_rfl) (by decide) hCl (by kernel_rfl) (by kernel_rfl) (by kernel_rfl) (fun _ _ _ h => h) (by rfl) ?hy4 (fun _ _ _ => trivial) (by assumption) (fun hCl' => ?_)
        case hy4 => ((intro w hSw; (try dsimp only at hSw); (try go_split_ands); go_simp); try with_reducible rfl)
        simp only [Act.put, List.setIfInBounds_toArray, List.set_cons_zero, List.set_cons_succ]
        replace hCl := hCl'; clear hCl'
        refine takeG (i := 3) (d := (some 23)) (v := ?v5) rfl rfl (by kernel_rfl) (by kernel_rfl) (by decide) hCl (by kernel_rfl) (by kernel_rfl) (by kernel_rfl) (fun _ _ _ h => h) (by rfl) ?hy5 (fun _ _ _ => trivial) (by assumption) (fun hCl' => ?_)
        case hy5 => ((intro w hSw; (try dsimp only at hSw); (try go_split_ands); go_simp); try with_reducible rfl)
        simp only [Act.put, List.setIfInBounds_toArray, List.set_cons_zero, List.set_cons_succ]
        replace hCl := hCl'; clear hCl'
        refine takeG (i := 5) (d := (some 25)) (v := ?v6) rfl rfl (by kernel_rfl) (by kernel_rfl) (by decide) hCl (by kernel_rfl) (by kernel_rfl) (by kernel_rfl) (fun _ _ _ h => h) (by rfl) ?hy6 (fun _ _ _ => trivial) (by assumption) (fun hCl' => ?_)
        case hy6 => ((intro w hSw; (try dsimp only at hSw); (try go_split_ands); go_simp); try with_reducible rfl)
        simp only [Act.put, List.setIfInBounds_toArray, List.set_cons_zero, List.set_cons_succ]
        replace hCl := hCl'; clear hCl'
        refine takeG (i := 6) (d := (some 26)) (v := ?v7) rfl rfl (by kernel_rfl) (by kernel_rfl) (by decide) hCl (by kernel_rfl) (by kernel_rfl) (by kernel_rfl) (fun _ _ _ h => h) (by rfl) ?hy7 (fun _ _ _ => trivial) (by assumption) (fun hCl' => ?_)
        case hy7 => ((intro w hSw; (try dsimp only at hSw); (try go_split_ands); go_simp); try with_reducible rfl)
        simp only [Act.put, List.setIfInBounds_toArray, List.set_cons_zero, List.set_cons_succ]
        replace hCl := hCl'; clear hCl'
        refine nextG (i := 7) (by kernel_rfl) rfl (by rfl) hCl (fun K hK => ?_)
        go_simp
        clear hHeld
        have A1 : Up wr (wr.alloc (.cells #[.int .i64 r0, .int .i64 r1, .int .i64 r2, .int .i64 r3, .int .i64 r4] 63)).drew := Up.drew (Up.alloc (Up.refl wr) _)
        have pl : mblk (wr.alloc (.cells #[.int .i64 r0, .int .i64 r1, .int .i64 r2, .int .i64 r3, .int .i64 r4] 63)).drew wr.heap.size = some (.cells #[.int .i64 r0, .int .i64 r1, .int .i64 r2, .int .i64 r3, .int .i64 r4] 63 (0, 0)) := by rw [blk_drew]; exact blk_new _ _ _ rfl
        have hb1 : q0 + 3 ≤ wr.heap.size := by omega
        obtain ⟨q7, hq7⟩ : ∃ q, wr.heap.size = q := ⟨_, rfl⟩
        obtain ⟨X1, hX1⟩ : ∃ X, (wr.alloc (.cells #[.int .i64 r0, .int .i64 r1, .int .i64 r2, .int .i64 r3, .int .i64 r4] 63)).drew = X := ⟨_, rfl⟩
        rw [hX1] at A1 pl
        have hb2 := A1.size
        rw [hq7] at pl hb1 hb2
        try rw [hX1]
        try rw [hq7]
        refine hK.out _ _ ⟨U.trans A1, A1.blk kC, A1.blk kZ, A1.blk kX, A1.cell2 cc0, A1.cell2 cc1, A1.cell2 cc2, A1.cell2 cc3, A1.cell2 cc4⟩ (fun _ hCl => ?_)
        clear hK K hX1 hq7
        try simp only [Act.put, List.setIfInBounds_toArray, List.set_cons_zero, List.set_cons_succ]
        refine nextG (i := 8) (by kernel_rfl) rfl (by rfl) hCl (fun K hK => ?_)
        have R1 := row_up HO.out A1
        refine T.opIn_app T.elL (.tmp 21) (.tmp 27) rfl (T.one_look pl) rfl (q0 + 3) _ (n) rfl R1 (by omega) (by simp) (by omega) ?_
        intro v2 X2 R2 hg2
        replace R2 : X2.ownsRow (q0 + 3) 63 5 v2 (n + 1) _ := R2
        obtain ⟨ra, rc, rfl, _, _⟩ := row_val R2
        have V2 := Up.grown (U.trans A1) hg2 (fun k e => by have := row_base R1 k e; omega)
        have ekC := grown_blk hg2 (A1.blk kC) (row_block R1 (by omega))
        have ekZ := grown_blk hg2 (A1.blk kZ) (row_block R1 (by omega))
        have ekX := grown_blk hg2 (A1.blk kX) (row_block R1 (by omega))
        have fcc0 := hg2.cell (A1.cell2 cc0) (row_block R1 (show g < q0 + 3 by omega))
        have fcc1 := hg2.cell (A1.cell2 cc1) (row_block R1 (show g < q0 + 3 by omega))
        have fcc2 := hg2.cell (A1.cell2 cc2) (row_block R1 (show g < q0 + 3 by omega))
        have fcc3 := hg2.cell (A1.cell2 cc3) (row_block R1 (show g < q0 + 3 by omega))
        have fcc4 := hg2.cell (A1.cell2 cc4) (row_block R1 (show g < q0 + 3 by omega))
        have hb3 := hg2.size
        refine hK.out _ _ ⟨V2, ekC, ekZ, ekX, fcc0, fcc1, fcc2, fcc3, fcc4⟩ (fun _ hCl => ?_)
        clear hK K hg2 pl R1
        try dsimp only [List.getElem_toArray, List.getElem_cons_succ, List.getElem_cons_zero]
        simp only [Act.put, List.setIfInBounds_toArray, List.set_cons_zero, List.set_cons_succ]
        refine takeG (i := 9) (d := (some 29)) (v := ?v9) rfl rfl (by kernel_rfl) (by kernel_rfl) (by decide) hCl (by kernel_rfl) (by kernel_rfl) (by kernel_rfl) (fun _ _ _ h => h) (by rfl) ?hy9 (fun _ _ _ => trivial) (by assumption) (fun hCl' => ?_)
        case hy9 => ((intro w hSw; (try dsimp only at hSw); (try go_split_ands); go_simp); try with_reducible rfl)
        simp only [Act.put, List.setIfInBounds_toArray, List.set_cons_zero, List.set_cons_succ]
        replace hCl := hCl'; clear hCl'
        have zf := frozB ekX
        clear hCl
        refine lastG (i := 10) (by kernel_rfl) rfl (by rfl) (by decide) (fun K hK => ?_)
        go_simp
        obtain ⟨Z1, hZ⟩ : ∃ X, X2.setCell ⟨q0 + 1 + 1, 7, none⟩ (.slice ra (n + 1) rc) = X := ⟨_, rfl⟩
        have V3 : Up w Z1 := by rw [← hZ]; exact V2.set (p := ⟨q0 + 1 + 1, 7, none⟩) (show w.heap.size ≤ q0 + 1 + 1 by omega) _
        have hb4 : q0 + 3 ≤ Z1.heap.size := by rw [← hZ]; simp; omega
        have dkX : mblk Z1 (q0 + 1 + 1) = some (.cells (BoC M bl bh rl rh (.slice aP nP cP) (.slice aQ nQ cQ) (.slice ra (n + 1) rc)) 27 (0, 0)) := by rw [← hZ]; exact blk_put ekX 7 _
        have dkC : mblk Z1 (q0) = some (.cells (BoC M bl bh rl rh (.slice aP nP cP) (.slice aQ nQ cQ) (.slice (some ⟨g, off, none⟩) ls.length cL)) 27 (0, 0)) := by rw [← hZ, blk_set _ _ _ _ (by show q0 ≠ q0 + 1 + 1; omega)]; exact ekC
        have dkZ : mblk Z1 (q0 + 1) = some (.cells #[.int .i64 0, .int .i64 0, .int .i64 0, .int .i64 0, .int .i64 0, .slice none 0 0, .slice none 0 0, .slice none 0 0] 27 (0, 0)) := by rw [← hZ, blk_set _ _ _ _ (by show q0 + 1 ≠ q0 + 1 + 1; omega)]; exact ekZ
        have HO2 := Lib.hid (row_other R2 (grown_set X2 (q0 + 1 + 1) 7 (.slice ra (n + 1) rc)) (row_block R2 (show q0 + 1 + 1 < q0 + 3 by omega)))
        rw [hZ] at HO2
        try rw [hZ]
        refine hK.out _ _ ?_
        clear hK K hZ V2 R2 zf A1 hb1 hb2 hb3 ekC ekZ ekX fcc0 fcc1 fcc2 fcc3 fcc4 cc0 cc1 cc2 cc3 cc4 kC kZ kX U   HO
        refine doneG (by kernel_rfl) ?_ _
        refine S.nrm_intro ?_
        have U := V3
        clear V3
        have kC := dkC
        clear dkC
        have kZ := dkZ
        clear dkZ
        have kX := dkX
        clear dkX
        have HO3 := Lib.hid (show Z1.ownsRow (q0 + 3) 63 5 (.slice ra (n + 1) rc) (n + 1) (T.flat 5 T.encL (T.kpt zs ls (j + 1))) by
          rw [HS3.out]
          exact HO2.out)
        clear HS3 HO2
        go_wp2_with fail
        go_roundw
        case rel => exact ⟨j + 1, n + 1, ra, rc, by omega, by go_num, HO3, by omega, U, kC, kZ, kX, hb4⟩
        case measure => (simp only [intOf]; omega)
    · obtain rfl : j = ls.length := by omega
      have dk : decide ((ls.length : Int) < (ls.length : Int)) = false := decide_eq_false (by omega)
      have own := HO.out
      have zz := frozB kZ
      have lZ := blk_lt kZ
      have o0 := own
      have o1 := row_other o0 (grown_set wr (q0 + 1) 0 (.int .i64 M)) (row_block o0 (show q0 + 1 < q0 + 3 by omega))
      have o2 := row_other o1 (grown_set (wr.setCell ⟨q0 + 1, 0, none⟩ (.int .i64 M)) (q0 + 1) 1 (.int .i64 bl)) (row_block o1 (show q0 + 1 < q0 + 3 by omega))
      have o3 := row_other o2 (grown_set ((wr.setCell ⟨q0 + 1, 0, none⟩ (.int .i64 M)).setCell ⟨q0 + 1, 1, none⟩ (.int .i64 bl)) (q0 + 1) 2 (.int .i64 bh)) (row_block o2 (show q0 + 1 < q0 + 3 by omega))
      have o4 := row_other o3 (grown_set (((wr.setCell ⟨q0 + 1, 0, none⟩ (.int .i64 M)).setCell ⟨q0 + 1, 1, none⟩ (.int .i64 bl)).setCell ⟨q0 + 1, 2, none⟩ (.int .i64 bh)) (q0 + 1) 3 (.int .i64 rl)) (row_block o3 (show q0 + 1 < q0 + 3 by omega))
      have o5 := row_other o4 (grown_set ((((wr.setCell ⟨q0 + 1, 0, none⟩ (.int .i64 M)).setCell ⟨q0 + 1, 1, none⟩ (.int .i64 bl)).setCell ⟨q0 + 1, 2, none⟩ (.int .i64 bh)).setCell ⟨q0 + 1, 3, none⟩ (.int .i64 rl)) (q0 + 1) 4 (.int .i64 rh)) (row_block o4 (show q0 + 1 < q0 + 3 by omega))
      have o6 := row_other o5 (grown_set (((((wr.setCell ⟨q0 + 1, 0, none⟩ (.int .i64 M)).setCell ⟨q0 + 1, 1, none⟩ (.int .i64 bl)).setCell ⟨q0 + 1, 2, none⟩ (.int .i64 bh)).setCell ⟨q0 + 1, 3, none⟩ (.int .i64 rl)).setCell ⟨q0 + 1, 4, none⟩ (.int .i64 rh)) (q0 + 1) 5 (.slice aP nP cP)) (row_block o5 (show q0 + 1 < q0 + 3 by omega))
      have o7 := row_other o6 (grown_set ((((((wr.setCell ⟨q0 + 1, 0, none⟩ (.int .i64 M)).setCell ⟨q0 + 1, 1, none⟩ (.int .i64 bl)).setCell ⟨q0 + 1, 2, none⟩ (.int .i64 bh)).setCell ⟨q0 + 1, 3, none⟩ (.int .i64 rl)).setCell ⟨q0 + 1, 4, none⟩ (.int .i64 rh)).setCell ⟨q0 + 1, 5, none⟩ (.slice aP nP cP)) (q0 + 1) 6 (.slice aQ nQ cQ)) (row_block o6 (show q0 + 1 < q0 + 3 by omega))
      have o8 := row_other o7 (grown_set (((((((wr.setCell ⟨q0 + 1, 0, none⟩ (.int .i64 M)).setCell ⟨q0 + 1, 1, none⟩ (.int .i64 bl)).setCell ⟨q0 + 1, 2, none⟩ (.int .i64 bh)).setCell ⟨q0 + 1, 3, none⟩ (.int .i64 rl)).setCell ⟨q0 + 1, 4, none⟩ (.int .i64 rh)).setCell ⟨q0 + 1, 5, none⟩ (.slice aP nP cP)).setCell ⟨q0 + 1, 6, none⟩ (.slice aQ nQ cQ)) (q0 + 1) 7 (.slice a n c)) (row_block o7 (show q0 + 1 < q0 + 3 by omega))
      have HIN := Lib.hid (show Lks ((((((((wr.setCell ⟨q0 + 1, 0, none⟩ (.int .i64 M)).setCell ⟨q0 + 1, 1, none⟩ (.int .i64 bl)).setCell ⟨q0 + 1, 2, none⟩ (.int .i64 bh)).setCell ⟨q0 + 1, 3, none⟩ (.int .i64 rl)).setCell ⟨q0 + 1, 4, none⟩ (.int .i64 rh)).setCell ⟨q0 + 1, 5, none⟩ (.slice aP nP cP)).setCell ⟨q0 + 1, 6, none⟩ (.slice aQ nQ cQ)).setCell ⟨q0 + 1, 7, none⟩ (.slice a n c)) (.slice a n c) (T.kpt zs ls ls.length) from Tab.of_row o8 (by decide) (by omega))
      have KZ := Lib.hid (show mblk ((((((((wr.setCell ⟨q0 + 1, 0, none⟩ (.int .i64 M)).setCell ⟨q0 + 1, 1, none⟩ (.int .i64 bl)).setCell ⟨q0 + 1, 2, none⟩ (.int .i64 bh)).setCell ⟨q0 + 1, 3, none⟩ (.int .i64 rl)).setCell ⟨q0 + 1, 4, none⟩ (.int .i64 rh)).setCell ⟨q0 + 1, 5, none⟩ (.slice aP nP cP)).setCell ⟨q0 + 1, 6, none⟩ (.slice aQ nQ cQ)).setCell ⟨q0 + 1, 7, none⟩ (.slice a n c)) (q0 + 1) = some (.cells (BoC M bl bh rl rh (.slice aP nP cP) (.slice aQ nQ cQ) (.slice a n c)) 27 (0, 0)) from (blk_put (blk_put (blk_put (blk_put (blk_put (blk_put (blk_put (blk_put kZ 0 (.int .i64 M)) 1 (.int .i64 bl)) 2 (.int .i64 bh)) 3 (.int .i64 rl)) 4 (.int .i64 rh)) 5 (.slice aP nP cP)) 6 (.slice aQ nQ cQ)) 7 (.slice a n c)))
      have UZ := Lib.hid ((((((((U.set (p := ⟨q0 + 1, 0, none⟩) (show w.heap.size ≤ q0 + 1 by omega) (.int .i64 M)).set (p := ⟨q0 + 1, 1, none⟩) (show w.heap.size ≤ q0 + 1 by omega) (.int .i64 bl)).set (p := ⟨q0 + 1, 2, none⟩) (show w.heap.size ≤ q0 + 1 by omega) (.int .i64 bh)).set (p := ⟨q0 + 1, 3, none⟩) (show w.heap.size ≤ q0 + 1 by omega) (.int .i64 rl)).set (p := ⟨q0 + 1, 4, none⟩) (show w.heap.size ≤ q0 + 1 by omega) (.int .i64 rh)).set (p := ⟨q0 + 1, 5, none⟩) (show w.heap.size ≤ q0 + 1 by omega) (.slice aP nP cP)).set (p := ⟨q0 + 1, 6, none⟩) (show w.heap.size ≤ q0 + 1 by omega) (.slice aQ nQ cQ)).set (p := ⟨q0 + 1, 7, none⟩) (show w.heap.size ≤ q0 + 1 by omega) (.slice a n c))
      clear HO hlt hj own o0 o1 o2 o3 o4 o5 o6 o7 o8
      go_wp2_with fail
      have cc := cellB KZ.out
      exact bodyPost_ret (v := BoV M bl bh rl rh (.slice aP nP cP) (.slice aQ nQ cQ) (.slice a n c)) (by simp [results, Try.results47, go_sem, cc]) rfl ⟨⟨a, n, c, rfl, HIN.out⟩, UZ.out⟩
end

end Go.Proofs.Ytlpkheoljbdajaa
