import Derived.Test.YtcmdaiklkdeanaaRws
/- The contract of Case. -/
namespace Go.Proofs.Ytcmdaiklkdeanaa
open Go.RowKit Go.Shelf
attribute [local go_sem] Oper.semAt_some

section
variable {H : Nat} {aR aO aP aT : Option Addr} {nR cR nO cO nP cP nT cT : Nat} {rs : List (Int × Int)} {os : List (Int × Int × Int × Int)} {ps : List (Int × Int × Int × Int × Int)}
set_option maxRecDepth 100000 in
set_option maxHeartbeats 2000000 in
theorem Case_bad {w : World} {Hi k h : Int} {m : Bool} (I : Sps w (.slice aR nR cR) rs) (IO : Ops w (.slice aO nO cO) os) (IP : Prs w (.slice aP nP cP) ps) {eq : Int} (hq : T.askErr Hi rs os ps [k] [h] = eq) (h0 : eq ≠ 0) :
    Calls Try.prog 26 #[ClV Hi (.slice aR nR cR) (.slice aO nO cO) (.slice aP nP cP), .int .i64 k, .int .i64 h, .bool m] w fun e w' => e = .returned (.tuple #[.slice none 0 0, .int .i64 eq]) ∧ Up w w' := by
  have HN := Lib.hid (fun w' (u : Up w w') (ac : Option Addr) (nc cc : Nat) (ah : Option Addr) (nh ch : Nat) (IC : Ints w' (.slice ac nc cc) [k]) (IH : Ints w' (.slice ah nh ch) [h]) => newQuestion_bad (I.up u) (IO.up u) (IP.up u) IC IH hq h0)
  have hb : (eq != 0) = true := by rw [bne_iff_ne]; exact h0
  clear I IO IP hq
  go_enter Try.func26, Try.ntmps26
  go_wp2_with fail
  obtain ⟨W0, hW0⟩ : ∃ x, ((w.alloc (.cells #[.int .i64 Hi, .slice aR nR cR, .slice aO nO cO, .slice aP nP cP] 26)).alloc (.cells #[.int .i64 k] 3)).alloc (.cells #[.int .i64 h] 3) = x := ⟨_, rfl⟩
  obtain ⟨q0, e0⟩ : ∃ x, w.heap.size = x := ⟨_, rfl⟩
  obtain ⟨q1, e1⟩ : ∃ x, q0 + 1 = x := ⟨_, rfl⟩
  obtain ⟨q2, e2⟩ : ∃ x, q1 + 1 = x := ⟨_, rfl⟩
  have U0 : Up w W0 := by rw [← hW0]; exact (((Up.refl w).alloc _).alloc _).alloc _
  have kC : mblk W0 q1 = some (.cells #[.int .i64 k] 3 (0, 0)) := by rw [← hW0]; exact blk_keep _ (blk_new _ _ _ (by simp; omega))
  have kH : mblk W0 q2 = some (.cells #[.int .i64 h] 3 (0, 0)) := by rw [← hW0]; exact blk_new _ _ _ (by simp; omega)
  rw [hW0, e0, e1, e2]
  clear hW0
  refine (HN.out W0 U0 _ _ _ _ _ _ (ints1 kC) (ints1 kH)).mono ?_
  rintro e W1 ⟨rfl, u1⟩
  have UW := U0.trans u1
  clear HN U0 kC kH u1
  have UZ := UW.alloc (.cells (WeC 0 (.slice none 0 0) (.slice none 0 0) (.slice none 0 0) false false false false false (.slice none 0 0)) 82)
  go_wp2
  go_ret2
  exact ⟨rfl, UZ⟩
set_option maxRecDepth 100000 in
set_option maxHeartbeats 4000000 in
theorem Case_ok {w : World} {k h : Int} {m : Bool} {nf : FuncId} {sg : Int} {f : Int × Int → Int} (I : Sps w (.slice aR nR cR) rs) (IO : Ops w (.slice aO nO cO) os) (IP : Prs w (.slice aP nP cP) ps) (hq : T.askErr H rs os ps [k] [h] = 0)
    (hS : ∀ w', Calls Try.prog 55 #[.bool m] w' fun e w'' => e = .returned (.agg #[.func (.func nf) #[] #[], .int .i64 sg]) ∧ Up w' w'')
    (hF : ∀ (aT : Option Addr) (nT cT : Nat) (w' : World), Tis w' (.slice aT nT cT) (T.web nR H rs os ps false false false false false) → Calls Try.prog 56 #[WeV H (.slice aR nR cR) (.slice aO nO cO) (.slice aP nP cP) false false false false false (.slice aT nT cT), MoV (-1) 0, .agg #[.func (.func nf) #[] #[], .int .i64 sg]] w' fun e w'' => (∃ cs r, e = .returned (.tuple #[.agg cs, .bool r]) ∧ T.FarIs f (T.web nR H rs os ps false false false false false) (T.o0 (T.moms nR H) (-1, 0)) (T.moms nR H).length cs r) ∧ Up w' w'') :
    Calls Try.prog 26 #[ClV H (.slice aR nR cR) (.slice aO nO cO) (.slice aP nP cP), .int .i64 k, .int .i64 h, .bool m] w fun e w' => (∃ (v : Value) (n : Int) (cs : Array Value) (r : Bool), e = .returned (.tuple #[v, .int .i64 n]) ∧ T.FarIs f (T.web nR H rs os ps false false false false false) (T.o0 (T.moms nR H) (-1, 0)) (T.moms nR H).length cs r ∧ ((r = true ∧ n = 0 ∧ ∀ o, T.OC cs o → T.Rows w' v (T.rws o sg nR H)) ∨ (r = false ∧ n = 22 ∧ v = .slice none 0 0))) ∧ Up w w' := by
  have hn := I.len
  obtain ⟨hv, hc, hh⟩ := T.askErr_ok hq
  have G := T.valid_good.1 hv
  have g2 := G.h2
  have g5 : nR ≤ 5 := by rw [hn]; exact G.r2
  rw [← hn] at hc
  have HN := Lib.hid (fun w' (u : Up w w') (ac : Option Addr) (nc cc : Nat) (ah : Option Addr) (nh ch : Nat) (IC : Ints w' (.slice ac nc cc) [k]) (IH : Ints w' (.slice ah nh ch) [h]) => newQuestion_yes (I.up u) (IO.up u) (IP.up u) IC IH hv hc hh)
  have HS := Lib.hid hS
  have HF0 := Lib.hid hF
  clear I IO IP hq hv hc hh G hn hS hF
  go_enter Try.func26, Try.ntmps26
  go_wp2_with fail
  obtain ⟨W0, hW0⟩ : ∃ x, ((w.alloc (.cells #[.int .i64 H, .slice aR nR cR, .slice aO nO cO, .slice aP nP cP] 26)).alloc (.cells #[.int .i64 k] 3)).alloc (.cells #[.int .i64 h] 3) = x := ⟨_, rfl⟩
  obtain ⟨q0, e0⟩ : ∃ x, w.heap.size = x := ⟨_, rfl⟩
  obtain ⟨q1, e1⟩ : ∃ x, q0 + 1 = x := ⟨_, rfl⟩
  obtain ⟨q2, e2⟩ : ∃ x, q1 + 1 = x := ⟨_, rfl⟩
  have U0 : Up w W0 := by rw [← hW0]; exact (((Up.refl w).alloc _).alloc _).alloc _
  have kC : mblk W0 q1 = some (.cells #[.int .i64 k] 3 (0, 0)) := by rw [← hW0]; exact blk_keep _ (blk_new _ _ _ (by simp; omega))
  have kH : mblk W0 q2 = some (.cells #[.int .i64 h] 3 (0, 0)) := by rw [← hW0]; exact blk_new _ _ _ (by simp; omega)
  rw [hW0, e0, e1, e2]
  clear hW0
  refine (HN.out W0 U0 _ _ _ _ _ _ (ints1 kC) (ints1 kH)).mono ?_
  rintro e W1 ⟨⟨aT, nT, cT, rfl, hT⟩, u1⟩
  have UW := U0.trans u1
  clear HN U0 kC kH u1
  go_wp2_with fail
  obtain ⟨W2, hW2⟩ : ∃ z, W1.alloc (.cells (WeC H (.slice aR nR cR) (.slice aO nO cO) (.slice aP nP cP) false false false false false (.slice aT nT cT)) 82) = z := ⟨_, rfl⟩
  obtain ⟨q8, e8⟩ : ∃ z, W1.heap.size = z := ⟨_, rfl⟩
  have u2 : Up W1 W2 := by rw [← hW2]; exact (Up.refl W1).alloc _
  have kW : mblk W2 q8 = some (.cells (WeC H (.slice aR nR cR) (.slice aO nO cO) (.slice aP nP cP) false false false false false (.slice aT nT cT)) 82 (0, 0)) := by rw [← hW2]; exact blk_new _ _ _ e8.symm
  replace UW := UW.trans u2
  replace hT := hT.up u2
  rw [hW2, e8]
  clear hW2 u2
  refine (HS.out W2).mono ?_
  rintro e W3 ⟨rfl, u3⟩
  replace UW := UW.trans u3
  replace hT := hT.up u3
  replace kW := u3.blk kW
  clear HS u3
  go_wp2_with fail
  obtain ⟨W4, hW4⟩ : ∃ z, W3.alloc (.cells #[.func (.func nf) #[] #[], .int .i64 sg] 104) = z := ⟨_, rfl⟩
  obtain ⟨q9, e9⟩ : ∃ z, W3.heap.size = z := ⟨_, rfl⟩
  have u4 : Up W3 W4 := by rw [← hW4]; exact (Up.refl W3).alloc _
  have kS : mblk W4 q9 = some (.cells #[.func (.func nf) #[] #[], .int .i64 sg] 104 (0, 0)) := by rw [← hW4]; exact blk_new _ _ _ e9.symm
  have UW4 : Up w W4 := UW.trans u4
  replace hT := hT.up u4
  replace kW := u4.blk kW
  rw [hW4, e9]
  clear hW4 u4 UW e9 e8
  have HF := Lib.hid (fun w' (u : Up W4 w') => HF0.out aT nT cT w' (hT.up u))
  have l8 := blk_lt kW
  have l9 := blk_lt kS
  clear HF0 hT
  apply T.mergeC (fun w' b cs r => Up w w' ∧ Up W4 w' ∧ mblk w' b = some (.cells cs 87 (0, 0)) ∧ W4.heap.size ≤ b ∧ T.FarIs f (T.web nR H rs os ps false false false false false) (T.o0 (T.moms nR H) (-1, 0)) (T.moms nR H).length cs r)
  · intro HKey
    refine wp_region_held_drew (S := fun w' => (Up w w' ∧ Up W4 w') ∧ mblk w' q8 = some (.cells (WeC H (.slice aR nR cR) (.slice aO nO cO) (.slice aP nP cP) false false false false false (.slice aT nT cT)) 82 (0, 0)) ∧ mblk w' q9 = some (.cells #[.func (.func nf) #[] #[], .int .i64 sg] 104 (0, 0))) (by kernel_rfl) ⟨⟨UW4.drew, (Up.refl W4).drew⟩, by rw [blk_drew]; exact kW, by rw [blk_drew]; exact kS⟩ (fun hHeld => ?_)
    refine takeH (i := 0) (d := (some 30)) (v := ?v1) rfl rfl (by kernel_rfl) (by kernel_rfl) (by kernel_rfl) (fun _ _ _ h => h) (by rfl) ?hy1 (by assumption) ?_
    case hy1 => ((intro w hSw; (try dsimp only at hSw); (try go_split_ands); go_simp); try with_reducible rfl)
    simp only [Act.put, List.setIfInBounds_toArray, List.set_cons_zero, List.set_cons_succ]
    refine takeH (i := 2) (d := (some 32)) (v := ?v2) rfl rfl (by kernel_rfl) (by kernel_rfl) (by kernel_rfl) (fun _ _ _ h => h) (by rfl) ?hy2 (by assumption) ?_
    case hy2 => ((intro w hSw; (try dsimp only at hSw); (try go_split_ands); go_simp); try with_reducible rfl)
    simp only [Act.put, List.setIfInBounds_toArray, List.set_cons_zero, List.set_cons_succ]
    refine wpAnyH_ready (rs := [1, 7]) (by kernel_rfl) (by simp) ?_
    refine AllReadyH.cons rfl (fun K hK => ?_) (AllReadyH.cons rfl (fun K hK => ?_) AllReadyH.nil)
    · go_simp
      refine (at_true 0 _).mono ?_
      rintro e y1 ⟨rfl, u'⟩
      have u : Up W4 y1 := ((Up.refl W4).drew).trans u'
      go_wp2_with fail
      refine hK.out _ _ ⟨⟨hHeld.1.1.trans u', hHeld.1.2.trans u'⟩, u'.blk hHeld.2.1, u'.blk hHeld.2.2⟩ (fun hHeld => ?_)
      clear hK K u u'
      refine wpAnyH_ready (rs := [3, 7]) (by kernel_rfl) (by simp) ?_
      refine AllReadyH.cons rfl (fun K hK => ?_) (AllReadyH.cons rfl (fun K hK => ?_) AllReadyH.nil)
      · skip
        go_simp
        refine (HF.out _ hHeld.1.2).mono ?_
        rintro e y2 ⟨⟨cs, r, rfl, hF⟩, u⟩
        go_wp2_with fail
        refine hK.out _ _ ⟨⟨hHeld.1.1.trans u, hHeld.1.2.trans u⟩, u.blk hHeld.2.1, u.blk hHeld.2.2⟩ (fun hHeld => ?_)
        clear hK K u
        refine takeH (i := 4) (d := (some 29)) (v := ?v3) rfl rfl (by kernel_rfl) (by kernel_rfl) (by kernel_rfl) (fun _ _ _ h => h) (by rfl) ?hy3 (by assumption) ?_
        case hy3 => ((intro w hSw; (try dsimp only at hSw); (try go_split_ands); go_simp); try with_reducible rfl)
        simp only [Act.put, List.setIfInBounds_toArray, List.set_cons_zero, List.set_cons_succ]
        refine takeH (i := 5) (d := (some 34)) (v := ?v4) rfl rfl (by kernel_rfl) (by kernel_rfl) (by kernel_rfl) (fun _ _ _ h => h) (by rfl) ?hy4 (by assumption) ?_
        case hy4 => ((intro w hSw; (try dsimp only at hSw); (try go_split_ands); go_simp); try with_reducible rfl)
        simp only [Act.put, List.setIfInBounds_toArray, List.set_cons_zero, List.set_cons_succ]
        refine takeH (i := 6) (d := (some 35)) (v := ?v5) rfl rfl (by kernel_rfl) (by kernel_rfl) (by kernel_rfl) (fun _ _ _ h => h) (by rfl) ?hy5 (by assumption) ?_
        case hy5 => ((intro w hSw; (try dsimp only at hSw); (try go_split_ands); go_simp); try with_reducible rfl)
        simp only [Act.put, List.setIfInBounds_toArray, List.set_cons_zero, List.set_cons_succ]
        refine wpAnyH_ready (rs := [7]) (by kernel_rfl) (by simp) ?_
        refine AllReadyH.cons rfl (fun K hK => ?_) AllReadyH.nil
        go_simp
        obtain ⟨y3, hY⟩ : ∃ Y, (y2.alloc (.cells OZ 87)) = Y := ⟨_, rfl⟩
        obtain ⟨bz, hb⟩ : ∃ b, y2.heap.size = b := ⟨_, rfl⟩
        have kz : mblk y3 bz = some (.cells OZ 87 (0, 0)) := by rw [← hY]; exact blk_new _ _ _ hb.symm
        have hbz : W4.heap.size ≤ bz := by have := hHeld.1.2.size; omega
        have u : Up y2 y3 := by rw [← hY]; exact (Up.refl y2).alloc (.cells OZ 87)
        rw [hb, hY]
        refine hK.out _ _ ⟨⟨hHeld.1.1.trans u, hHeld.1.2.trans u⟩, u.blk hHeld.2.1, u.blk hHeld.2.2⟩ (fun hHeld => ?_)
        clear hK K hY hb u
        have hsz := hF.size
        have hone := hF.one
        have hst := run_offStore_row y3 bz OZ cs kz (Lib.hid OZ_size) hone
        refine wpAnyH_ready (rs := [8]) (by kernel_rfl) (by simp) ?_
        refine AllReadyH.cons rfl (fun K hK => ?_) AllReadyH.nil
        go_simp
        obtain ⟨y4, hY⟩ : ∃ Y, y3.setRow bz cs = Y := ⟨_, rfl⟩
        have kz2 : mblk y4 bz = some (.cells cs 87 (0, 0)) := by rw [← hY]; exact blk_setRow kz cs
        have g : y3.grownBy y4 (some bz) := by rw [← hY]; exact grown_row _ _ _
        rw [hY]
        refine hK.out _ _ ⟨⟨hHeld.1.1.grown g (fun k e => by have := Option.some.inj e; have := UW4.size; omega), hHeld.1.2.grown g (fun k e => by have := Option.some.inj e; omega)⟩, grown_blk g hHeld.2.1 (fun e => by have := Option.some.inj e; omega), grown_blk g hHeld.2.2 (fun e => by have := Option.some.inj e; omega)⟩ (fun hHeld => ?_)
        clear hK K hY g hst
        refine takeH (i := 9) (d := (some 14)) (v := ?v8) rfl rfl (by kernel_rfl) (by kernel_rfl) (by kernel_rfl) (fun _ _ _ h => h) (by rfl) ?hy8 (by assumption) ?_
        case hy8 => ((intro w hSw; (try dsimp only at hSw); (try go_split_ands); go_simp); try with_reducible rfl)
        simp only [Act.put, List.setIfInBounds_toArray, List.set_cons_zero, List.set_cons_succ]
        refine wpAnyH_done (by kernel_rfl) ?_ _
        exact HKey.out _ bz cs r ⟨hHeld.1.1, hHeld.1.2, kz2, hbz, hF⟩
      · skip
        go_simp
        obtain ⟨y5, hY⟩ : ∃ Y, (y1.alloc (.cells OZ 87)) = Y := ⟨_, rfl⟩
        obtain ⟨bz, hb⟩ : ∃ b, y1.heap.size = b := ⟨_, rfl⟩
        have kz : mblk y5 bz = some (.cells OZ 87 (0, 0)) := by rw [← hY]; exact blk_new _ _ _ hb.symm
        have hbz : W4.heap.size ≤ bz := by have := hHeld.1.2.size; omega
        have u : Up y1 y5 := by rw [← hY]; exact (Up.refl y1).alloc (.cells OZ 87)
        rw [hb, hY]
        refine hK.out _ _ ⟨⟨hHeld.1.1.trans u, hHeld.1.2.trans u⟩, u.blk hHeld.2.1, u.blk hHeld.2.2⟩ (fun hHeld => ?_)
        clear hK K hY hb u
        refine wpAnyH_ready (rs := [3]) (by kernel_rfl) (by simp) ?_
        refine AllReadyH.cons rfl (fun K hK => ?_) AllReadyH.nil
        go_simp
        refine (HF.out _ hHeld.1.2).mono ?_
        rintro e y6 ⟨⟨cs, r, rfl, hF⟩, u⟩
        replace kz := u.blk kz
        go_wp2_with fail
        refine hK.out _ _ ⟨⟨hHeld.1.1.trans u, hHeld.1.2.trans u⟩, u.blk hHeld.2.1, u.blk hHeld.2.2⟩ (fun hHeld => ?_)
        clear hK K u
        refine takeH (i := 4) (d := (some 29)) (v := ?v10) rfl rfl (by kernel_rfl) (by kernel_rfl) (by kernel_rfl) (fun _ _ _ h => h) (by rfl) ?hy10 (by assumption) ?_
        case hy10 => ((intro w hSw; (try dsimp only at hSw); (try go_split_ands); go_simp); try with_reducible rfl)
        simp only [Act.put, List.setIfInBounds_toArray, List.set_cons_zero, List.set_cons_succ]
        refine takeH (i := 5) (d := (some 34)) (v := ?v11) rfl rfl (by kernel_rfl) (by kernel_rfl) (by kernel_rfl) (fun _ _ _ h => h) (by rfl) ?hy11 (by assumption) ?_
        case hy11 => ((intro w hSw; (try dsimp only at hSw); (try go_split_ands); go_simp); try with_reducible rfl)
        simp only [Act.put, List.setIfInBounds_toArray, List.set_cons_zero, List.set_cons_succ]
        refine takeH (i := 6) (d := (some 35)) (v := ?v12) rfl rfl (by kernel_rfl) (by kernel_rfl) (by kernel_rfl) (fun _ _ _ h => h) (by rfl) ?hy12 (by assumption) ?_
        case hy12 => ((intro w hSw; (try dsimp only at hSw); (try go_split_ands); go_simp); try with_reducible rfl)
        simp only [Act.put, List.setIfInBounds_toArray, List.set_cons_zero, List.set_cons_succ]
        have hsz := hF.size
        have hone := hF.one
        have hst := run_offStore_row y6 bz OZ cs kz (Lib.hid OZ_size) hone
        refine wpAnyH_ready (rs := [8]) (by kernel_rfl) (by simp) ?_
        refine AllReadyH.cons rfl (fun K hK => ?_) AllReadyH.nil
        go_simp
        obtain ⟨y7, hY⟩ : ∃ Y, y6.setRow bz cs = Y := ⟨_, rfl⟩
        have kz2 : mblk y7 bz = some (.cells cs 87 (0, 0)) := by rw [← hY]; exact blk_setRow kz cs
        have g : y6.grownBy y7 (some bz) := by rw [← hY]; exact grown_row _ _ _
        rw [hY]
        refine hK.out _ _ ⟨⟨hHeld.1.1.grown g (fun k e => by have := Option.some.inj e; have := UW4.size; omega), hHeld.1.2.grown g (fun k e => by have := Option.some.inj e; omega)⟩, grown_blk g hHeld.2.1 (fun e => by have := Option.some.inj e; omega), grown_blk g hHeld.2.2 (fun e => by have := Option.some.inj e; omega)⟩ (fun hHeld => ?_)
        clear hK K hY g hst
        refine takeH (i := 9) (d := (some 14)) (v := ?v14) rfl rfl (by kernel_rfl) (by kernel_rfl) (by kernel_rfl) (fun _ _ _ h => h) (by rfl) ?hy14 (by assumption) ?_
        case hy14 => ((intro w hSw; (try dsimp only at hSw); (try go_split_ands); go_simp); try with_reducible rfl)
        simp only [Act.put, List.setIfInBounds_toArray, List.set_cons_zero, List.set_cons_succ]
        refine wpAnyH_done (by kernel_rfl) ?_ _
        exact HKey.out _ bz cs r ⟨hHeld.1.1, hHeld.1.2, kz2, hbz, hF⟩
    · skip
      go_simp
      obtain ⟨y8, hY⟩ : ∃ Y, (W4.alloc (.cells OZ 87)).drew = Y := ⟨_, rfl⟩
      obtain ⟨bz, hb⟩ : ∃ b, W4.heap.size = b := ⟨_, rfl⟩
      have kz : mblk y8 bz = some (.cells OZ 87 (0, 0)) := by rw [← hY, blk_drew]; exact blk_new _ _ _ hb.symm
      have hbz : W4.heap.size ≤ bz := by have := hHeld.1.2.size; rw [← hb]; exact Nat.le_refl _
      have u : Up W4.drew y8 := by rw [← hY]; exact (Up.refl W4.drew).alloc (.cells OZ 87)
      rw [hb, hY]
      refine hK.out _ _ ⟨⟨hHeld.1.1.trans u, hHeld.1.2.trans u⟩, u.blk hHeld.2.1, u.blk hHeld.2.2⟩ (fun hHeld => ?_)
      clear hK K hY hb u
      refine wpAnyH_ready (rs := [1]) (by kernel_rfl) (by simp) ?_
      refine AllReadyH.cons rfl (fun K hK => ?_) AllReadyH.nil
      go_simp
      refine (at_true 0 _).mono ?_
      rintro e y9 ⟨rfl, u⟩
      replace kz := u.blk kz
      go_wp2_with fail
      refine hK.out _ _ ⟨⟨hHeld.1.1.trans u, hHeld.1.2.trans u⟩, u.blk hHeld.2.1, u.blk hHeld.2.2⟩ (fun hHeld => ?_)
      clear hK K u
      refine wpAnyH_ready (rs := [3]) (by kernel_rfl) (by simp) ?_
      refine AllReadyH.cons rfl (fun K hK => ?_) AllReadyH.nil
      go_simp
      refine (HF.out _ hHeld.1.2).mono ?_
      rintro e y10 ⟨⟨cs, r, rfl, hF⟩, u⟩
      replace kz := u.blk kz
      go_wp2_with fail
      refine hK.out _ _ ⟨⟨hHeld.1.1.trans u, hHeld.1.2.trans u⟩, u.blk hHeld.2.1, u.blk hHeld.2.2⟩ (fun hHeld => ?_)
      clear hK K u
      refine takeH (i := 4) (d := (some 29)) (v := ?v17) rfl rfl (by kernel_rfl) (by kernel_rfl) (by kernel_rfl) (fun _ _ _ h => h) (by rfl) ?hy17 (by assumption) ?_
      case hy17 => ((intro w hSw; (try dsimp only at hSw); (try go_split_ands); go_simp); try with_reducible rfl)
      simp only [Act.put, List.setIfInBounds_toArray, List.set_cons_zero, List.set_cons_succ]
      refine takeH (i := 5) (d := (some 34)) (v := ?v18) rfl rfl (by kernel_rfl) (by kernel_rfl) (by kernel_rfl) (fun _ _ _ h => h) (by rfl) ?hy18 (by assumption) ?_
      case hy18 => ((intro w hSw; (try dsimp only at hSw); (try go_split_ands); go_simp); try with_reducible rfl)
      simp only [Act.put, List.setIfInBounds_toArray, List.set_cons_zero, List.set_cons_succ]
      refine takeH (i := 6) (d := (some 35)) (v := ?v19) rfl rfl (by kernel_rfl) (by kernel_rfl) (by kernel_rfl) (fun _ _ _ h => h) (by rfl) ?hy19 (by assumption) ?_
      case hy19 => ((intro w hSw; (try dsimp only at hSw); (try go_split_ands); go_simp); try with_reducible rfl)
      simp only [Act.put, List.setIfInBounds_toArray, List.set_cons_zero, List.set_cons_succ]
      have hsz := hF.size
      have hone := hF.one
      have hst := run_offStore_row y10 bz OZ cs kz (Lib.hid OZ_size) hone
      refine wpAnyH_ready (rs := [8]) (by kernel_rfl) (by simp) ?_
      refine AllReadyH.cons rfl (fun K hK => ?_) AllReadyH.nil
      go_simp
      obtain ⟨y11, hY⟩ : ∃ Y, y10.setRow bz cs = Y := ⟨_, rfl⟩
      have kz2 : mblk y11 bz = some (.cells cs 87 (0, 0)) := by rw [← hY]; exact blk_setRow kz cs
      have g : y10.grownBy y11 (some bz) := by rw [← hY]; exact grown_row _ _ _
      rw [hY]
      refine hK.out _ _ ⟨⟨hHeld.1.1.grown g (fun k e => by have := Option.some.inj e; have := UW4.size; omega), hHeld.1.2.grown g (fun k e => by have := Option.some.inj e; omega)⟩, grown_blk g hHeld.2.1 (fun e => by have := Option.some.inj e; omega), grown_blk g hHeld.2.2 (fun e => by have := Option.some.inj e; omega)⟩ (fun hHeld => ?_)
      clear hK K hY g hst
      refine takeH (i := 9) (d := (some 14)) (v := ?v21) rfl rfl (by kernel_rfl) (by kernel_rfl) (by kernel_rfl) (fun _ _ _ h => h) (by rfl) ?hy21 (by assumption) ?_
      case hy21 => ((intro w hSw; (try dsimp only at hSw); (try go_split_ands); go_simp); try with_reducible rfl)
      simp only [Act.put, List.setIfInBounds_toArray, List.set_cons_zero, List.set_cons_succ]
      refine wpAnyH_done (by kernel_rfl) ?_ _
      exact HKey.out _ bz cs r ⟨hHeld.1.1, hHeld.1.2, kz2, hbz, hF⟩
  intro W5 ba cs r ⟨UW5, uA, kO, hba, hF⟩
  replace kW := uA.blk kW
  replace kS := uA.blk kS
  have hs := Lib.hid hF.size
  have HFF := Lib.hid hF
  clear uA UW4 HF hF
  cases r with
  | false =>
    clear kW kS kO
    go_wp2
    go_ret2
    exact ⟨⟨_, _, cs, false, rfl, HFF.out, .inr ⟨rfl, rfl, rfl⟩⟩, UW5⟩
  | true =>
    have hOC : ∃ o, T.OC cs o := by
      rcases HFF.out with ⟨_, j, _, _, h⟩ | ⟨h, _⟩
      · exact ⟨_, h⟩
      · cases h
    obtain ⟨o, hO⟩ := hOC
    have HO := Lib.hid hO
    clear hO
    go_wp2_with fail
    refine (rows_any g2 g5 HO.out).mono ?_
    rintro e W6 ⟨⟨v, rfl, hR⟩, u6⟩
    have HR := Lib.hid hR
    have UZ := UW5.trans u6
    clear hR u6 kW kS kO
    go_wp2
    go_ret2
    refine ⟨⟨v, 0, cs, true, rfl, HFF.out, .inl ⟨rfl, rfl, fun o' ho' => ?_⟩⟩, UZ⟩
    have e : T.rws o' sg nR H = T.rws o sg nR H := by
      unfold T.rws
      refine List.map_congr_left fun i hi => List.map_congr_left fun j hj => ?_
      rw [List.mem_range] at hi hj
      rw [ho'.inj HO.out ((i : Int), (j : Int)) ⟨⟨by simp only; omega, by simp only; omega⟩, by simp only; omega, by simp only; omega⟩]
    rw [e]
    exact HR.out
theorem Case_hi {w : World} {k h : Int} (I : Sps w (.slice aR nR cR) rs) (IO : Ops w (.slice aO nO cO) os) (IP : Prs w (.slice aP nP cP) ps) (W : T.WebOk nR H (T.web nR H rs os ps false false false false false)) (hq : T.askErr H rs os ps [k] [h] = 0) :
    Calls Try.prog 26 #[ClV H (.slice aR nR cR) (.slice aO nO cO) (.slice aP nP cP), .int .i64 k, .int .i64 h, .bool true] w fun e w' => (∃ (v : Value) (n : Int) (cs : Array Value) (r : Bool), e = .returned (.tuple #[v, .int .i64 n]) ∧ T.FarIs T.sHi (T.web nR H rs os ps false false false false false) (T.o0 (T.moms nR H) (-1, 0)) (T.moms nR H).length cs r ∧ ((r = true ∧ n = 0 ∧ ∀ o, T.OC cs o → T.Rows w' v (T.rws o 1 nR H)) ∨ (r = false ∧ n = 22 ∧ v = .slice none 0 0))) ∧ Up w w' := by
  have hn := I.len
  have G := T.valid_good.1 (T.askErr_ok hq).1
  have g5 : nR ≤ 5 := by rw [hn]; exact G.r2
  exact Case_ok (nf := 96) I IO IP hq (fun w' => sideOf_any true w') (fun aT nT cT w' IT => farthest_ah (b0 := false) (b1 := false) (b2 := false) (b3 := false) (b4 := false) (aR := aR) (aO := aO) (aP := aP) (nO := nO) (nP := nP) (cR := cR) (cO := cO) (cP := cP) (m0 := (-1, 0)) G.h2 g5 IT W.tok W.len (T.moms_in g5 G.h2 (T.mem_moms.2 (.inl ⟨rfl, rfl⟩))))
theorem Case_lo {w : World} {k h : Int} (I : Sps w (.slice aR nR cR) rs) (IO : Ops w (.slice aO nO cO) os) (IP : Prs w (.slice aP nP cP) ps) (W : T.WebOk nR H (T.web nR H rs os ps false false false false false)) (hq : T.askErr H rs os ps [k] [h] = 0) :
    Calls Try.prog 26 #[ClV H (.slice aR nR cR) (.slice aO nO cO) (.slice aP nP cP), .int .i64 k, .int .i64 h, .bool false] w fun e w' => (∃ (v : Value) (n : Int) (cs : Array Value) (r : Bool), e = .returned (.tuple #[v, .int .i64 n]) ∧ T.FarIs T.sLo (T.web nR H rs os ps false false false false false) (T.o0 (T.moms nR H) (-1, 0)) (T.moms nR H).length cs r ∧ ((r = true ∧ n = 0 ∧ ∀ o, T.OC cs o → T.Rows w' v (T.rws o (-1) nR H)) ∨ (r = false ∧ n = 22 ∧ v = .slice none 0 0))) ∧ Up w w' := by
  have hn := I.len
  have G := T.valid_good.1 (T.askErr_ok hq).1
  have g5 : nR ≤ 5 := by rw [hn]; exact G.r2
  exact Case_ok (nf := 97) I IO IP hq (fun w' => sideOf_any false w') (fun aT nT cT w' IT => farthest_be (b0 := false) (b1 := false) (b2 := false) (b3 := false) (b4 := false) (aR := aR) (aO := aO) (aP := aP) (nO := nO) (nP := nP) (cR := cR) (cO := cO) (cP := cP) (m0 := (-1, 0)) G.h2 g5 IT W.tok W.len (T.moms_in g5 G.h2 (T.mem_moms.2 (.inl ⟨rfl, rfl⟩))))
end

end Go.Proofs.Ytcmdaiklkdeanaa
