import Derived.Test.YtlpkheoljbdajaaNnu
/- The contract of IsTruth. -/
namespace Go.Proofs.Ytlpkheoljbdajaa
open Go.RowKit Go.Shelf
attribute [local go_sem] Oper.semAt_some

theorem T.neg_in (x : Int) : D.in64 (T.neg x) := by
  unfold T.neg D.in64
  rw [IntKind.wrap_i64]
  omega
theorem T.lay_fine {f : Int → Int} {a : Int} {g : Nat → Int} {j : Nat} (hf : T.Fine f) (hg : ∀ k, k < j → D.in64 (g k)) : T.Fine (T.lay f a g j) := fun m h1 h2 => by
  unfold T.lay
  split
  · exact hg _ (by omega)
  · exact hf m h1 h2
theorem T.nto_fine {os pe pa : List Int} (bo : ∀ x ∈ os, D.in64 x) (ba : ∀ x ∈ pa, D.in64 x) : T.Fine (T.nto os pe pa 3) :=
  T.lay_fine (T.lay_fine (T.lay_fine (fun _ _ _ => ⟨by omega, by omega⟩) fun k _ => T.neg_in _) fun k hk => ba _ (T.getD_mem hk)) fun k hk => bo _ (T.getD_mem hk)
theorem T.nto_0 (os pe pa : List Int) : T.nto os pe pa 3 0 = 0 := by
  show T.lay (T.lay (T.lay (fun _ => 0) 9 (fun k => T.neg (pe.getD k 0)) pe.length) 13 (fun k => pa.getD k 0) pa.length) 1 (fun k => os.getD k 0) os.length 0 = 0
  unfold T.lay
  rw [if_neg (by omega), if_neg (by omega), if_neg (by omega)]
section
variable {N : Nat} {bl bh rl rh : Int} {aP aQ aL aO aE aA : Option Addr} {nP cP nQ cQ nL cL cO cE cA : Nat} {ps qs : List (Int × Int)} {ls : List T.T5} {os pe pa : List Int}
set_option maxRecDepth 100000 in
set_option maxHeartbeats 1000000 in
theorem IsTruth_bad {w : World} {M : Int} {v1 v2 v3 : Value} (I : Sps w (.slice aP nP cP) ps) (J : Sps w (.slice aQ nQ cQ) qs) (K : Lks w (.slice aL nL cL) ls) (h : T.valid M bl bh rl rh ps qs ls = false) :
    Calls Try.prog 17 #[BoV M bl bh rl rh (.slice aP nP cP) (.slice aQ nQ cQ) (.slice aL nL cL), .agg #[v1, v2, v3]] w fun e w' => e = .returned (.tuple #[.bool false, .int .i64 30]) ∧ Up w w' := by
  have U := ((Up.refl w).alloc (.cells (BoC M bl bh rl rh (.slice aP nP cP) (.slice aQ nQ cQ) (.slice aL nL cL)) 27)).alloc (.cells #[v1, v2, v3] 30)
  have HN := Lib.hid (fun w' (u : Up w w') => newBook_no (I.up u) (J.up u) (K.up u) h)
  clear I J K h
  go_enter Try.func17, Try.ntmps17
  go_wp2_with fail
  refine (HN.out _ U).mono ?_
  rintro e w1 ⟨rfl, u⟩
  have UE := (U.trans u).alloc (.cells #[.int .i64 0, .int .i64 0, .int .i64 0, .int .i64 0, .int .i64 0, .slice none 0 0, .slice none 0 0, .slice none 0 0, .bool false, .bool false, .bool false, .bool false, .bool false, .bool false, .bool false, .bool false, .bool false, .bool false] 81)
  have hst : (bookStore (.pointer (some ⟨w1.heap.size, 0, none⟩)) BkZ).run Try.prog (w1.alloc (.cells #[.int .i64 0, .int .i64 0, .int .i64 0, .int .i64 0, .int .i64 0, .slice none 0 0, .slice none 0 0, .slice none 0 0, .bool false, .bool false, .bool false, .bool false, .bool false, .bool false, .bool false, .bool false, .bool false, .bool false] 81)) = .ok () (w1.alloc (.cells #[.int .i64 0, .int .i64 0, .int .i64 0, .int .i64 0, .int .i64 0, .slice none 0 0, .slice none 0 0, .slice none 0 0, .bool false, .bool false, .bool false, .bool false, .bool false, .bool false, .bool false, .bool false, .bool false, .bool false] 81)) := by
    have q := run_bookStore_row (w1.alloc (.cells #[.int .i64 0, .int .i64 0, .int .i64 0, .int .i64 0, .int .i64 0, .slice none 0 0, .slice none 0 0, .slice none 0 0, .bool false, .bool false, .bool false, .bool false, .bool false, .bool false, .bool false, .bool false, .bool false, .bool false] 81)) w1.heap.size #[.int .i64 0, .int .i64 0, .int .i64 0, .int .i64 0, .int .i64 0, .slice none 0 0, .slice none 0 0, .slice none 0 0, .bool false, .bool false, .bool false, .bool false, .bool false, .bool false, .bool false, .bool false, .bool false, .bool false] #[.int .i64 0, .int .i64 0, .int .i64 0, .int .i64 0, .int .i64 0, .slice none 0 0, .slice none 0 0, .slice none 0 0, .bool false, .bool false, .bool false, .bool false, .bool false, .bool false, .bool false, .bool false, .bool false, .bool false] (blk_new _ _ _ rfl) rfl ⟨rfl, by simp [Value.oneCell']⟩
    rw [setRow_new _ _ _ _ _ rfl] at q
    exact q
  clear HN u U
  go_wp2
  go_ret2
  exact ⟨rfl, UE⟩
set_option maxRecDepth 100000 in
set_option maxHeartbeats 2000000 in
theorem IsTruth_ok {w : World} (I : Sps w (.slice aP nP cP) ps) (J : Sps w (.slice aQ nQ cQ) qs) (K : Lks w (.slice aL nL cL) ls) (IO : Ints w (.slice aO os.length cO) os) (IE : Ints w (.slice aE pe.length cE) pe) (IA : Ints w (.slice aA pa.length cA) pa)
    (bo : ∀ x ∈ os, D.in64 x) (ba : ∀ x ∈ pa, D.in64 x) (h : T.valid N bl bh rl rh ps qs ls = true) :
    Calls Try.prog 17 #[BoV (N : Int) bl bh rl rh (.slice aP nP cP) (.slice aQ nQ cQ) (.slice aL nL cL), .agg #[.slice aO os.length cO, .slice aE pe.length cE, .slice aA pa.length cA]] w fun e w' => (∃ r, e = .returned (.tuple #[.bool r, .int .i64 0]) ∧ (r = true ↔ (T.fit N ps.length qs.length os pe pa = true ∧ T.Sat true (T.web N bl bh rl rh ps qs ls T.o0) (T.nto os pe pa 3)))) ∧ Up w w' := by
  have U := ((Up.refl w).alloc (.cells (BoC (N : Int) bl bh rl rh (.slice aP nP cP) (.slice aQ nQ cQ) (.slice aL nL cL)) 27)).alloc (.cells #[.slice aO os.length cO, .slice aE pe.length cE, .slice aA pa.length cA] 30)
  have HN := Lib.hid (fun w' (u : Up w w') => newBook_ok (I.up u) (J.up u) (K.up u) h)
  have G := T.valid_bok h
  have W := T.valid_web h T.o0
  have hn := I.len
  have hm := J.len
  have HW := Lib.hid (fun w' (u : Up w w') => newWeb_any (o := T.o0) G (I.up u) (J.up u) (K.up u))
  have HM := Lib.hid (fun w' (u : Up w w') => newNumbers_any (M := (N : Int)) (bl := bl) (bh := bh) (rl := rl) (rh := rh) (aP := aP) (nP := nP) (cP := cP) (aQ := aQ) (nQ := nQ) (cQ := cQ) (aL := aL) (nL := nL) (cL := cL) (o := T.o0) (by have := G.n8; omega) (by have := G.p4; omega) (by have := G.q4; omega) (IO.up u) (IE.up u) (IA.up u) bo ba)
  have HH := Lib.hid (fun aT nT cT w' cs (IT : Tis w' (.slice aT nT cT) _) (hO : T.OC cs (T.nto os pe pa 3)) => holds_any (M := (N : Int)) (bl := bl) (bh := bh) (rl := rl) (rh := rh) (aP := aP) (nP := nP) (cP := cP) (aQ := aQ) (nQ := nQ) (cQ := cQ) (aL := aL) (nL := nL) (cL := cL) (o := T.o0) IT (Up.refl w') W.tin W.len hO)
  have HK := Lib.hid (T.keep_is W (.inl rfl) (T.nto_fine bo ba (pe := pe)) (T.nto_0 os pe pa))
  rw [hn, hm] at HM
  have HM' := HM
  clear I J K h IO IE IA bo ba G W HM
  subst hn hm
  go_enter Try.func17, Try.ntmps17
  go_wp2_with fail
  refine (HN.out _ U).mono ?_
  rintro e w1 ⟨rfl, u⟩
  obtain ⟨W1, hW1⟩ : ∃ z, w1.alloc (.cells (BkC (N : Int) bl bh rl rh (.slice aP ps.length cP) (.slice aQ qs.length cQ) (.slice aL nL cL) T.o0) 81) = z := ⟨_, rfl⟩
  obtain ⟨q6, e6⟩ : ∃ z, w1.heap.size = z := ⟨_, rfl⟩
  have u1 : Up w1 W1 := by rw [← hW1]; exact (Up.refl w1).alloc _
  have kB : mblk W1 q6 = some (.cells (BkC (N : Int) bl bh rl rh (.slice aP ps.length cP) (.slice aQ qs.length cQ) (.slice aL nL cL) T.o0) 81 (0, 0)) := by rw [← hW1]; exact blk_new _ _ _ e6.symm
  have kT := u1.blk (u.blk (blk_new (w.alloc (.cells (BoC (N : Int) bl bh rl rh (.slice aP ps.length cP) (.slice aQ qs.length cQ) (.slice aL nL cL)) 27)) (.cells #[.slice aO os.length cO, .slice aE pe.length cE, .slice aA pa.length cA] 30) (w.heap.size + 1) (by simp)))
  have UW := (U.trans u).trans u1
  clear HN u U u1
  go_wp2_with fail
  try rw [hW1, e6]
  clear hW1
  refine (HM'.out _ UW).mono ?_
  rintro e W2 ⟨⟨cs, rfl, hc1, hc2⟩, u2⟩
  have hok : Ok17 cs := by
    cases hf : T.fit N ps.length qs.length os pe pa with
    | true => exact (hc1 hf).one
    | false => rw [hc2 hf]; exact NZ_ok
  have HZ := Lib.hid NZ_size
  have hsz := Lib.hid hok.1
  replace kB := u2.blk kB
  replace UW := UW.trans u2
  obtain ⟨W3, hW3⟩ : ∃ z, W2.alloc (.cells cs 85) = z := ⟨_, rfl⟩
  obtain ⟨q8, e8⟩ : ∃ z, W2.heap.size = z := ⟨_, rfl⟩
  have u3 : Up W2 W3 := by rw [← hW3]; exact (Up.refl W2).alloc _
  have kN : mblk W3 q8 = some (.cells cs 85 (0, 0)) := by rw [← hW3]; exact blk_new _ _ _ e8.symm
  replace kB := u3.blk kB
  replace UW := UW.trans u3
  have HC1 := Lib.hid hc1
  clear HM' u2 u3 kT hc1 hc2
  cases hf : T.fit N ps.length qs.length os pe pa with
  | false =>
    have HFT := Lib.hid hf
    clear HC1 HH HW HK hf
    go_wp2_with fail
    try rw [hW3, e8]
    clear hW3
    refine wp_region_held_drew (S := fun w' => Up W3 w') (by kernel_rfl) ((Up.refl W3).drew) (fun hHeld => ?_)
    refine takeH (i := 0) (d := (some 24)) (v := ?v1) rfl rfl (by kernel_rfl) (by kernel_rfl) (by kernel_rfl) (fun _ _ _ h => h) (by rfl) ?hy1 (by assumption) ?_
    case hy1 => ((intro w hSw; (try dsimp only at hSw); (try go_split_ands); go_simp); try with_reducible rfl)
    simp only [Act.put, List.setIfInBounds_toArray, List.set_cons_zero, List.set_cons_succ]
    refine takeH (i := 1) (d := (some 25)) (v := ?v2) rfl rfl (by kernel_rfl) (by kernel_rfl) (by kernel_rfl) (fun _ _ _ h => h) (by rfl) ?hy2 (by assumption) ?_
    case hy2 => ((intro w hSw; (try dsimp only at hSw); (try go_split_ands); go_simp); try with_reducible rfl)
    simp only [Act.put, List.setIfInBounds_toArray, List.set_cons_zero, List.set_cons_succ]
    refine skipH (i := 2) (d := (some 26)) rfl rfl (by kernel_rfl) (by kernel_rfl) (by kernel_rfl) (fun _ _ _ h => h) (by rfl) (by assumption) ?_
    simp only [Act.put, List.setIfInBounds_toArray, List.set_cons_zero, List.set_cons_succ]
    refine skipH (i := 4) (d := (some 28)) rfl rfl (by kernel_rfl) (by kernel_rfl) (by kernel_rfl) (fun _ _ _ h => h) (by rfl) (by assumption) ?_
    simp only [Act.put, List.setIfInBounds_toArray, List.set_cons_zero, List.set_cons_succ]
    refine skipH (i := 3) (d := (some 27)) rfl rfl (by kernel_rfl) (by kernel_rfl) (by kernel_rfl) (fun _ _ _ h => h) (by rfl) (by assumption) ?_
    simp only [Act.put, List.setIfInBounds_toArray, List.set_cons_zero, List.set_cons_succ]
    refine skipH (i := 5) (d := (some 29)) rfl rfl (by kernel_rfl) (by kernel_rfl) (by kernel_rfl) (fun _ _ _ h => h) (by rfl) (by assumption) ?_
    simp only [Act.put, List.setIfInBounds_toArray, List.set_cons_zero, List.set_cons_succ]
    refine takeH (i := 6) (d := (some 30)) (v := ?v7) rfl rfl (by kernel_rfl) (by kernel_rfl) (by kernel_rfl) (fun _ _ _ h => h) (by rfl) ?hy7 (by assumption) ?_
    case hy7 => ((intro w hSw; (try dsimp only at hSw); (try go_split_ands); go_simp); try with_reducible rfl)
    simp only [Act.put, List.setIfInBounds_toArray, List.set_cons_zero, List.set_cons_succ]
    refine takeH (i := 7) (d := (some 4)) (v := ?v8) rfl rfl (by kernel_rfl) (by kernel_rfl) (by kernel_rfl) (fun _ _ _ h => h) (by rfl) ?hy8 (by assumption) ?_
    case hy8 => ((intro w hSw; (try dsimp only at hSw); (try go_split_ands); go_simp); try with_reducible rfl)
    simp only [Act.put, List.setIfInBounds_toArray, List.set_cons_zero, List.set_cons_succ]
    refine takeH (i := 8) (d := (some 5)) (v := ?v9) rfl rfl (by kernel_rfl) (by kernel_rfl) (by kernel_rfl) (fun _ _ _ h => h) (by rfl) ?hy9 (by assumption) ?_
    case hy9 => ((intro w hSw; (try dsimp only at hSw); (try go_split_ands); go_simp); try with_reducible rfl)
    simp only [Act.put, List.setIfInBounds_toArray, List.set_cons_zero, List.set_cons_succ]
    refine wpAnyH_done (by kernel_rfl) ?_ _
    have UF := UW.trans hHeld
    clear hHeld
    go_wp2
    go_ret2
    exact ⟨⟨false, rfl, by rw [HFT.out]; simp⟩, UF⟩
  | true =>
    have hO := Lib.hid (HC1.out hf)
    have HFT := Lib.hid hf
    clear HC1 hf
    go_wp2_with fail
    try rw [hW3, e8]
    clear hW3
    refine wp_region_held_drew (S := fun w' => Up W3 w' ∧ mblk w' q6 = some (.cells (BkC (N : Int) bl bh rl rh (.slice aP ps.length cP) (.slice aQ qs.length cQ) (.slice aL nL cL) T.o0) 81 (0, 0)) ∧ mblk w' q8 = some (.cells cs 85 (0, 0))) (by kernel_rfl) ⟨(Up.refl W3).drew, by rw [blk_drew]; exact kB, by rw [blk_drew]; exact kN⟩ (fun hHeld => ?_)
    refine takeH (i := 0) (d := (some 24)) (v := ?v10) rfl rfl (by kernel_rfl) (by kernel_rfl) (by kernel_rfl) (fun _ _ _ h => h) (by rfl) ?hy10 (by assumption) ?_
    case hy10 => ((intro w hSw; (try dsimp only at hSw); (try go_split_ands); go_simp); try with_reducible rfl)
    simp only [Act.put, List.setIfInBounds_toArray, List.set_cons_zero, List.set_cons_succ]
    refine takeH (i := 1) (d := (some 25)) (v := ?v11) rfl rfl (by kernel_rfl) (by kernel_rfl) (by kernel_rfl) (fun _ _ _ h => h) (by rfl) ?hy11 (by assumption) ?_
    case hy11 => ((intro w hSw; (try dsimp only at hSw); (try go_split_ands); go_simp); try with_reducible rfl)
    simp only [Act.put, List.setIfInBounds_toArray, List.set_cons_zero, List.set_cons_succ]
    refine takeH (i := 2) (d := (some 26)) (v := ?v12) rfl rfl (by kernel_rfl) (by kernel_rfl) (by kernel_rfl) (fun _ _ _ h => h) (by rfl) ?hy12 (by assumption) ?_
    case hy12 => ((intro w hSw; (try dsimp only at hSw); (try go_split_ands); go_simp); try with_reducible rfl)
    simp only [Act.put, List.setIfInBounds_toArray, List.set_cons_zero, List.set_cons_succ]
    refine takeH (i := 4) (d := (some 28)) (v := ?v13) rfl rfl (by kernel_rfl) (by kernel_rfl) (by kernel_rfl) (fun _ _ _ h => h) (by rfl) ?hy13 (by assumption) ?_
    case hy13 => ((intro w hSw; (try dsimp only at hSw); (try go_split_ands); go_simp); try with_reducible rfl)
    simp only [Act.put, List.setIfInBounds_toArray, List.set_cons_zero, List.set_cons_succ]
    refine wpAnyH_ready (rs := [3]) (by kernel_rfl) (by simp) ?_
    refine AllReadyH.cons rfl (fun K hK => ?_) AllReadyH.nil
    go_simp
    refine (HW.out _ (UW.trans hHeld.1)).mono ?_
    rintro e y3 ⟨⟨aT, nT, cT, rfl, hT, _⟩, u⟩
    go_wp2_with fail
    refine hK.out _ _ ⟨hHeld.1.trans u, u.blk hHeld.2.1, u.blk hHeld.2.2⟩ (fun hHeld => ?_)
    clear hK K u
    refine wpAnyH_ready (rs := [5]) (by kernel_rfl) (by simp) ?_
    refine AllReadyH.cons rfl (fun K hK => ?_) AllReadyH.nil
    go_simp
    refine (HH.out _ _ _ _ cs hT hO.out).mono ?_
    rintro e y5 ⟨rfl, u⟩
    go_wp2_with fail
    refine hK.out _ _ ⟨hHeld.1.trans u, u.blk hHeld.2.1, u.blk hHeld.2.2⟩ (fun hHeld => ?_)
    clear hK K u hT
    refine takeH (i := 6) (d := (some 30)) (v := ?v16) rfl rfl (by kernel_rfl) (by kernel_rfl) (by kernel_rfl) (fun _ _ _ h => h) (by rfl) ?hy16 (by assumption) ?_
    case hy16 => ((intro w hSw; (try dsimp only at hSw); (try go_split_ands); go_simp); try with_reducible rfl)
    simp only [Act.put, List.setIfInBounds_toArray, List.set_cons_zero, List.set_cons_succ]
    refine takeH (i := 7) (d := (some 4)) (v := ?v17) rfl rfl (by kernel_rfl) (by kernel_rfl) (by kernel_rfl) (fun _ _ _ h => h) (by rfl) ?hy17 (by assumption) ?_
    case hy17 => ((intro w hSw; (try dsimp only at hSw); (try go_split_ands); go_simp); try with_reducible rfl)
    simp only [Act.put, List.setIfInBounds_toArray, List.set_cons_zero, List.set_cons_succ]
    refine takeH (i := 8) (d := (some 5)) (v := ?v18) rfl rfl (by kernel_rfl) (by kernel_rfl) (by kernel_rfl) (fun _ _ _ h => h) (by rfl) ?hy18 (by assumption) ?_
    case hy18 => ((intro w hSw; (try dsimp only at hSw); (try go_split_ands); go_simp); try with_reducible rfl)
    simp only [Act.put, List.setIfInBounds_toArray, List.set_cons_zero, List.set_cons_succ]
    refine wpAnyH_done (by kernel_rfl) ?_ _
    have UF := UW.trans hHeld.1
    clear hHeld HH HW kB kN
    go_wp2
    go_ret2
    exact ⟨⟨_, rfl, by rw [HK.out, HFT.out]; simp⟩, UF⟩
end

end Go.Proofs.Ytlpkheoljbdajaa
