import Derived.Test.YtckjggkikpgidaaSmo
/- The law ScaleNever. -/
namespace Go.Proofs.Ytckjggkikpgidaa
open Go.RowKit

theorem Up.cell {W w1 : World} (hb : Up W w1) {b j : Nat} {v : Value} (h : W.cell? ⟨b, j, none⟩ = some v) : w1.cell? ⟨b, j, none⟩ = some v := by
  have hl : b < W.heap.size := by
    refine Decidable.byContradiction fun hn => ?_
    have e : W.heap[b]? = none := Array.getElem?_eq_none_iff.2 (by omega)
    unfold World.cell? at h
    simp only [e] at h
    simp at h
  rw [hb.facts.1 b j hl]
  exact h
set_option maxRecDepth 100000 in
set_option maxHeartbeats 8000000 in
theorem scaleNever_any (f s j dl dh from_ : Int) {bv : Option Addr} {bn bc : Nat} {bits : List Int} {w : World} (I : Ints w (.slice bv bn bc) bits) : Calls Try.prog 7 #[RV f s j dl dh, .int .i64 from_, .slice bv bn bc] w fun e w' => e = .returned (.bool true) ∧ Up w w' := by
  have U0 := (Up.refl w).alloc (.cells #[.int .i64 f, .int .i64 s, .int .i64 j, .int .i64 dl, .int .i64 dh] 25)
  have k3 := blk_new w (.cells #[.int .i64 f, .int .i64 s, .int .i64 j, .int .i64 dl, .int .i64 dh] 25) _ rfl
  have HI := Lib.hid (fun w => l_isRule_any f s j dl dh w)
  have HW := Lib.hid (fun w => l_works_any w)
  cases hr : S.ok f s j dl dh with
  | false =>
    rw [hr] at HI
    have HS := Lib.hid (fun w => Shown_no (dl := dl) (dh := dh) (v := .slice none 0 0) w hr 0)
    clear hr I
    go_enter Try.func7, Try.ntmps7
    go_wp2_with fail
    refine (HI.out _).mono ?_
    rintro e w1 ⟨rfl, u1⟩
    replace k3 := u1.blk k3
    go_wp2_with fail
    refine (HS.out _).mono ?_
    rintro e w2 ⟨rfl, u2⟩
    go_wp2_with fail
    refine (HW.out _).mono ?_
    rintro e w3 ⟨rfl, u3⟩
    go_wp2
    go_ret
    exact ⟨rfl, ((U0.trans u1).trans u2).trans u3⟩
  | true =>
    rw [hr] at HI
    obtain ⟨⟨f1, f2⟩, ⟨s1, s2⟩, ⟨j1, j2⟩, _⟩ := S.ok_iff.1 hr
    have r1 := Int.emod_nonneg from_ (b := 10000001) (by omega)
    have r2 := Int.emod_lt_of_pos from_ (b := 10000001) (by omega)
    have HR1 := Lib.hid (fun w => B_Rest_any from_ 10000001 w (by omega) (by omega))
    generalize from_ % 10000001 = st at *
    have HA := Lib.hid (fun w' (u : Up w w') => B_At_any (I.up u) 0)
    generalize S.at bits 0 = av at *
    have HR2 := Lib.hid (fun w => B_Rest_any av 40 w (by omega) (by omega))
    have q1 := Int.emod_nonneg av (b := 40) (by omega)
    have q2 := Int.emod_lt_of_pos av (b := 40) (by omega)
    obtain ⟨T, hT⟩ : ∃ T : Nat, av % 40 = T := ⟨(av % 40).toNat, by omega⟩
    rw [hT] at HR2 q1 q2
    have T40 : T < 40 := by omega
    have HSt := Lib.hid (fun w' (u : Up w w') => l_steered_false (dl := dl) (dh := dh) hr (T := T) (by omega) (I.up u))
    have hlen := S.strs_len (f := f) (s := s) (j := j) (T := T) (bits := bits) false
    have hkeep := S.strs_keeps (f := f) (s := s) (j := j) (T := T) (bits := bits) f1 s1 j1 false
    generalize S.strs f s j T bits false = xs at *
    have hbd : ∀ k, k < xs.length → -500 ≤ xs.getD k 0 ∧ xs.getD k 0 ≤ 500 := fun k hk => by have := S.keeps_bd xs 0 hkeep k hk; omega
    have hsum := S.sum_bd hbd
    have hkk : (decide ((xs.length : Int) ≤ 200) && S.keeps f s j 0 xs) = true := by rw [hkeep, decide_eq_true (by omega)]; rfl
    have HSh := Lib.hid (fun w v (I : Ints w v xs) => Shown_yes (dl := dl) (dh := dh) w hr st (by omega) (by omega) I hkk)
    have hw64 : wrap64 xs.sum = xs.sum := wrap_in (by unfold D.in64; omega)
    have HTo := Lib.hid (fun w v (I : Ints w v xs) => show Calls Try.prog 41 #[v] w fun e w' => e = .returned (.int .i64 xs.sum) ∧ w = w' by rw [← hw64]; exact B_Total_any I)
    have hshow : ∀ k, k < xs.length → S.shows st xs (k + 1) = S.shows st xs k + 1000 + xs.getD k 0 := fun k hk => S.shows_succ st hk
    have hshT : S.shows st xs T = st + 1000 * T + xs.sum := by unfold S.shows; rw [List.take_of_length_le (by omega)]
    have hsh0 := S.shows_zero st xs
    have HB := Lib.hid hbd
    have HSw := Lib.hid hshow
    have sb : ∀ k, k ≤ T → -100000 ≤ S.shows st xs k ∧ S.shows st xs k ≤ 11000000 := by
      intro k
      have : ∀ k, k ≤ T → st - 0 + 500 * (k : Int) ≤ S.shows st xs k ∧ S.shows st xs k ≤ st + 1500 * (k : Int) := by
        intro k
        induction k with
        | zero => intro _; rw [hsh0]; omega
        | succ k ih =>
          intro hk
          have := ih (by omega)
          have b := hbd k (by omega)
          rw [hshow k (by omega)]
          omega
      intro hk
      have := this k hk
      omega
    have HSB := Lib.hid sb
    clear hr hkeep hbd hkk hw64 hshow hT f1 f2 s1 s2 j1 j2 I sb
    go_enter Try.func7, Try.ntmps7
    go_wp2_with fail
    refine (HI.out _).mono ?_
    rintro e w1 ⟨rfl, u1⟩
    replace k3 := u1.blk k3
    replace U0 := U0.trans u1
    clear u1 HI
    go_wp2_with fail
    refine (HR1.out _).mono ?_
    rintro e w2 ⟨rfl, rfl⟩
    go_wp2_with fail
    refine wp_region_held_drew (S := fun w' => Up w w' ∧ mblk w' w.heap.size = some (.cells #[.int .i64 f, .int .i64 s, .int .i64 j, .int .i64 dl, .int .i64 dh] 25 (0, 0))) (by kernel_rfl) ⟨U0.drew, by rw [blk_drew]; exact k3⟩ (fun hHeld => ?_)
    clear U0 k3 HR1
    refine takeH (i := 0) (d := (some 39)) (v := ?v1) rfl rfl (by kernel_rfl) (by kernel_rfl) (by kernel_rfl) (fun _ _ _ h => h) (by rfl) ?hy1 (by assumption) ?_
    case hy1 => ((intro w hSw; (try dsimp only at hSw); (try go_split_ands); go_simp); try with_reducible rfl)
    simp only [Act.put, List.setIfInBounds_toArray, List.set_cons_zero, List.set_cons_succ]
    refine takeH (i := 1) (d := (some 40)) (v := ?v2) rfl rfl (by kernel_rfl) (by kernel_rfl) (by kernel_rfl) (fun _ _ _ h => h) (by rfl) ?hy2 (by assumption) ?_
    case hy2 => ((intro w hSw; (try dsimp only at hSw); (try go_split_ands); go_simp); try with_reducible rfl)
    simp only [Act.put, List.setIfInBounds_toArray, List.set_cons_zero, List.set_cons_succ]
    refine takeH (i := 4) (d := (some 43)) (v := ?v3) rfl rfl (by kernel_rfl) (by kernel_rfl) (by kernel_rfl) (fun _ _ _ h => h) (by rfl) ?hy3 (by assumption) ?_
    case hy3 => ((intro w hSw; (try dsimp only at hSw); (try go_split_ands); go_simp); try with_reducible rfl)
    simp only [Act.put, List.setIfInBounds_toArray, List.set_cons_zero, List.set_cons_succ]
    refine wpAnyH_ready (rs := [2]) (by kernel_rfl) (by simp) ?_
    refine AllReadyH.cons rfl (fun K hK => ?_) AllReadyH.nil
    go_simp
    refine (HA.out _ hHeld.1).mono ?_
    rintro e w3 ⟨rfl, rfl⟩
    go_wp2_with fail
    refine hK.out _ _ hHeld (fun hHeld => ?_)
    clear hK K HA
    refine wpAnyH_ready (rs := [3]) (by kernel_rfl) (by simp) ?_
    refine AllReadyH.cons rfl (fun K hK => ?_) AllReadyH.nil
    go_simp
    refine (HR2.out _).mono ?_
    rintro e w3 ⟨rfl, rfl⟩
    go_wp2_with fail
    refine hK.out _ _ hHeld (fun hHeld => ?_)
    clear hK K HR2
    refine wpAnyH_ready (rs := [5]) (by kernel_rfl) (by simp) ?_
    refine AllReadyH.cons rfl (fun K hK => ?_) AllReadyH.nil
    go_simp
    refine (HSt.out _ hHeld.1).mono ?_
    rintro e w3 ⟨sv, rfl, u3, IS⟩
    go_wp2_with fail
    refine hK.out _ _ ⟨hHeld.1.trans u3, u3.blk hHeld.2⟩ (fun hHeld => ?_)
    clear hK K HSt u3
    refine takeH (i := 6) (d := (some 10)) (v := ?v7) rfl rfl (by kernel_rfl) (by kernel_rfl) (by kernel_rfl) (fun _ _ _ h => h) (by rfl) ?hy7 (by assumption) ?_
    case hy7 => ((intro w hSw; (try dsimp only at hSw); (try go_split_ands); go_simp); try with_reducible rfl)
    simp only [Act.put, List.setIfInBounds_toArray, List.set_cons_zero, List.set_cons_succ]
    refine wpAnyH_done (by kernel_rfl) ?_ _
    obtain ⟨U, k3⟩ := hHeld
    go_wp2_with fail
    refine (HSh.out _ _ IS).mono ?_
    rintro e w4 ⟨lv, rfl, u4, IL⟩
    replace IS := IS.up u4
    replace U := U.trans u4
    clear u4 k3 HSh
    obtain ⟨sa, sc, rfl, _, _, _⟩ := IS.is
    obtain ⟨la, lc, rfl, _, _, hml⟩ := IL.is
    have hll : ((List.range (xs.length + 1)).map (S.shows st xs)).length = T + 1 := by rw [List.length_map, List.length_range]; omega
    rw [hll] at hml ⊢
    rw [hlen]
    obtain ⟨g, off, rfl, gl, hc⟩ := hml (by omega)
    have hcell : ∀ k, k ≤ T → w4.cell? ⟨g, off + k, none⟩ = some (.int .i64 (S.shows st xs k)) := fun k hk => by
      rw [hc k (by omega), S.map_range_getD _ (by omega)]
    rw [hlen] at IS
    have HCe := Lib.hid hcell
    have c0 := hcell 0 (by omega)
    rw [hsh0, Nat.add_zero] at c0
    have hnb : ((T : Int) + 1 != (T : Int) + 1) = false := by simp
    clear hc IL hml hll hcell
    go_wp2_with fail
    go_loopw [13] (fun i wr => ∃ k : Nat, k ≤ T ∧ i = .int .i64 k ∧ Up w wr ∧ Ints wr (.slice sa T sc) xs ∧ Hid (∀ k, k ≤ T → wr.cell? ⟨g, off + k, none⟩ = some (.int .i64 (S.shows st xs k)))) (fun i _ => T - (intOf i).toNat)
    case atStart => exact ⟨0, Nat.zero_le _, rfl, U, IS, HCe⟩
    case round =>
      clear U IS HCe
      obtain ⟨k, hk, rfl, U, IS, HCe⟩ := hrel
      by_cases hlt : k < T
      · have hlt' : (k : Int) < (T : Int) := by omega
        have ca := HCe.out k (by omega)
        have cb := HCe.out (k + 1) (by omega)
        have ea := HSw.out k (by omega)
        have eb := HB.out k (by omega)
        have da := HSB.out k (by omega)
        have db := HSB.out (k + 1) (by omega)
        generalize S.shows st xs (k + 1) = vb at ca cb ea eb da db
        generalize S.shows st xs k = va at ca cb ea eb da db
        generalize xs.getD k 0 = vd at ea eb
        have wi : IntKind.i64.wrap ((k : Int) + 1) = ((k + 1 : Nat) : Int) := by rw [IntWalk.i64_in _ (by omega)]; omega
        have wd : IntKind.i64.wrap (vb - va) = vb - va := IntWalk.i64_in _ (by omega)
        have d1 : ¬ (vb - va < 500) := by omega
        have d2 : ¬ (1500 < vb - va) := by omega
        have bk : k < T + 1 := by omega
        have bk' : k + 1 < T + 1 := by omega
        have bz : (0 : Int) ≤ (k : Int) + 1 := by omega
        have bw : (k : Int) < (T : Int) + 1 := by omega
        go_wp2_with fail
        refine wp_region_held_drew (S := fun w' => (Up w w' ∧ Ints w' (.slice sa T sc) xs ∧ Hid (∀ k, k ≤ T → w'.cell? ⟨g, off + k, none⟩ = some (.int .i64 (S.shows st xs k)))) ∧ w'.cell? ⟨g, off + k, none⟩ = some (.int .i64 va) ∧ w'.cell? ⟨g, off + (k + 1), none⟩ = some (.int .i64 vb)) (by kernel_rfl) ⟨⟨U.drew, IS.up (Up.refl _).drew, HCe⟩, ca, cb⟩ (fun hHeld => ?_)
        clear U IS HCe ca cb
        refine takeH (i := 0) (d := (some 75)) (v := ?v8) rfl rfl (by kernel_rfl) (by kernel_rfl) (by kernel_rfl) (fun _ _ _ h => h) (by rfl) ?hy8 (by assumption) ?_
        case hy8 => ((intro w hSw; (try dsimp only at hSw); (try go_split_ands); go_simp); try with_reducible rfl)
        simp only [Act.put, List.setIfInBounds_toArray, List.set_cons_zero, List.set_cons_succ]
        refine takeH (i := 1) (d := (some 76)) (v := ?v9) rfl rfl (by kernel_rfl) (by kernel_rfl) (by kernel_rfl) (fun _ _ _ h => h) (by rfl) ?hy9 (by assumption) ?_
        case hy9 => ((intro w hSw; (try dsimp only at hSw); (try go_split_ands); go_simp); try with_reducible rfl)
        simp only [Act.put, List.setIfInBounds_toArray, List.set_cons_zero, List.set_cons_succ]
        refine takeH (i := 2) (d := (some 77)) (v := ?v10) rfl rfl (by kernel_rfl) (by kernel_rfl) (by kernel_rfl) (fun _ _ _ h => h) (by rfl) ?hy10 (by assumption) ?_
        case hy10 => ((intro w hSw; (try dsimp only at hSw); (try go_split_ands); go_simp); try with_reducible rfl)
        simp only [Act.put, List.setIfInBounds_toArray, List.set_cons_zero, List.set_cons_succ]
        refine takeH (i := 3) (d := (some 78)) (v := ?v11) rfl rfl (by kernel_rfl) (by kernel_rfl) (by kernel_rfl) (fun _ _ _ h => h) (by rfl) ?hy11 (by assumption) ?_
        case hy11 => ((intro w hSw; (try dsimp only at hSw); (try go_split_ands); go_simp); try with_reducible rfl)
        simp only [Act.put, List.setIfInBounds_toArray, List.set_cons_zero, List.set_cons_succ]
        refine takeH (i := 4) (d := (some 79)) (v := ?v12) rfl rfl (by kernel_rfl) (by kernel_rfl) (by kernel_rfl) (fun _ _ _ h => h) (by rfl) ?hy12 (by assumption) ?_
        case hy12 => ((intro w hSw; (try dsimp only at hSw); (try go_split_ands); go_simp); try with_reducible rfl)
        simp only [Act.put, List.setIfInBounds_toArray, List.set_cons_zero, List.set_cons_succ]
        refine takeH (i := 5) (d := (some 80)) (v := ?v13) rfl rfl (by kernel_rfl) (by kernel_rfl) (by kernel_rfl) (fun _ _ _ h => h) (by rfl) ?hy13 (by assumption) ?_
        case hy13 => ((intro w hSw; (try dsimp only at hSw); (try go_split_ands); go_simp); try with_reducible rfl)
        simp only [Act.put, List.setIfInBounds_toArray, List.set_cons_zero, List.set_cons_succ]
        refine takeH (i := 6) (d := (some 81)) (v := ?v14) rfl rfl (by kernel_rfl) (by kernel_rfl) (by kernel_rfl) (fun _ _ _ h => h) (by rfl) ?hy14 (by assumption) ?_
        case hy14 => ((intro w hSw; (try dsimp only at hSw); (try go_split_ands); go_simp); try with_reducible rfl)
        simp only [Act.put, List.setIfInBounds_toArray, List.set_cons_zero, List.set_cons_succ]
        refine takeH (i := 7) (d := (some 82)) (v := ?v15) rfl rfl (by kernel_rfl) (by kernel_rfl) (by kernel_rfl) (fun _ _ _ h => h) (by rfl) ?hy15 (by assumption) ?_
        case hy15 => ((intro w hSw; (try dsimp only at hSw); (try go_split_ands); go_simp); try with_reducible rfl)
        simp only [Act.put, List.setIfInBounds_toArray, List.set_cons_zero, List.set_cons_succ]
        refine takeH (i := 8) (d := (some 83)) (v := ?v16) rfl rfl (by kernel_rfl) (by kernel_rfl) (by kernel_rfl) (fun _ _ _ h => h) (by rfl) ?hy16 (by assumption) ?_
        case hy16 => ((intro w hSw; (try dsimp only at hSw); (try go_split_ands); go_simp); try with_reducible rfl)
        simp only [Act.put, List.setIfInBounds_toArray, List.set_cons_zero, List.set_cons_succ]
        refine takeH (i := 9) (d := (some 84)) (v := ?v17) rfl rfl (by kernel_rfl) (by kernel_rfl) (by kernel_rfl) (fun _ _ _ h => h) (by rfl) ?hy17 (by assumption) ?_
        case hy17 => ((intro w hSw; (try dsimp only at hSw); (try go_split_ands); go_simp); try with_reducible rfl)
        simp only [Act.put, List.setIfInBounds_toArray, List.set_cons_zero, List.set_cons_succ]
        refine takeH (i := 10) (d := (some 14)) (v := ?v18) rfl rfl (by kernel_rfl) (by kernel_rfl) (by kernel_rfl) (fun _ _ _ h => h) (by rfl) ?hy18 (by assumption) ?_
        case hy18 => ((intro w hSw; (try dsimp only at hSw); (try go_split_ands); go_simp); try with_reducible rfl)
        simp only [Act.put, List.setIfInBounds_toArray, List.set_cons_zero, List.set_cons_succ]
        refine wpAnyH_done (by kernel_rfl) ?_ _
        go_wp2_with fail
        go_roundw
        case rel => exact ⟨k + 1, by omega, by go_num, hHeld.1⟩
        case measure => simp [intOf]; omega
      · have hke : k = T := by omega
        subst hke
        have ct := HCe.out k (by omega)
        generalize S.shows st xs k = tt at *
        generalize xs.sum = sm at *
        have bk : (k : Int) < (k : Int) + 1 := by omega
        have da := HSB.out k (by omega)
        have w1 : IntKind.i64.wrap (tt - st) = 1000 * (k : Int) + sm := by rw [IntWalk.i64_in _ (by omega)]; omega
        have w2 : IntKind.i64.wrap (1000 * (k : Int)) = 1000 * (k : Int) := IntWalk.i64_in _ (by omega)
        have w3 : IntKind.i64.wrap (1000 * (k : Int) + sm) = 1000 * (k : Int) + sm := IntWalk.i64_in _ (by omega)
        clear HSw HSB HB hlt hshT
        go_wp2_with fail
        refine wp_region_held_drew (S := fun w' => (Up w w' ∧ Ints w' (.slice sa k sc) xs) ∧ w'.cell? ⟨g, off + k, none⟩ = some (.int .i64 tt)) (by kernel_rfl) ⟨⟨U.drew, IS.up (Up.refl _).drew⟩, ct⟩ (fun hHeld => ?_)
        clear U IS HCe ct
        refine takeH (i := 0) (d := (some 91)) (v := ?v19) rfl rfl (by kernel_rfl) (by kernel_rfl) (by kernel_rfl) (fun _ _ _ h => h) (by rfl) ?hy19 (by assumption) ?_
        case hy19 => ((intro w hSw; (try dsimp only at hSw); (try go_split_ands); go_simp); try with_reducible rfl)
        simp only [Act.put, List.setIfInBounds_toArray, List.set_cons_zero, List.set_cons_succ]
        refine takeH (i := 1) (d := (some 92)) (v := ?v20) rfl rfl (by kernel_rfl) (by kernel_rfl) (by kernel_rfl) (fun _ _ _ h => h) (by rfl) ?hy20 (by assumption) ?_
        case hy20 => ((intro w hSw; (try dsimp only at hSw); (try go_split_ands); go_simp); try with_reducible rfl)
        simp only [Act.put, List.setIfInBounds_toArray, List.set_cons_zero, List.set_cons_succ]
        refine takeH (i := 2) (d := (some 93)) (v := ?v21) rfl rfl (by kernel_rfl) (by kernel_rfl) (by kernel_rfl) (fun _ _ _ h => h) (by rfl) ?hy21 (by assumption) ?_
        case hy21 => ((intro w hSw; (try dsimp only at hSw); (try go_split_ands); go_simp); try with_reducible rfl)
        simp only [Act.put, List.setIfInBounds_toArray, List.set_cons_zero, List.set_cons_succ]
        refine takeH (i := 3) (d := (some 94)) (v := ?v22) rfl rfl (by kernel_rfl) (by kernel_rfl) (by kernel_rfl) (fun _ _ _ h => h) (by rfl) ?hy22 (by assumption) ?_
        case hy22 => ((intro w hSw; (try dsimp only at hSw); (try go_split_ands); go_simp); try with_reducible rfl)
        simp only [Act.put, List.setIfInBounds_toArray, List.set_cons_zero, List.set_cons_succ]
        refine takeH (i := 4) (d := (some 95)) (v := ?v23) rfl rfl (by kernel_rfl) (by kernel_rfl) (by kernel_rfl) (fun _ _ _ h => h) (by rfl) ?hy23 (by assumption) ?_
        case hy23 => ((intro w hSw; (try dsimp only at hSw); (try go_split_ands); go_simp); try with_reducible rfl)
        simp only [Act.put, List.setIfInBounds_toArray, List.set_cons_zero, List.set_cons_succ]
        refine takeH (i := 5) (d := (some 96)) (v := ?v24) rfl rfl (by kernel_rfl) (by kernel_rfl) (by kernel_rfl) (fun _ _ _ h => h) (by rfl) ?hy24 (by assumption) ?_
        case hy24 => ((intro w hSw; (try dsimp only at hSw); (try go_split_ands); go_simp); try with_reducible rfl)
        simp only [Act.put, List.setIfInBounds_toArray, List.set_cons_zero, List.set_cons_succ]
        refine takeH (i := 6) (d := (some 97)) (v := ?v25) rfl rfl (by kernel_rfl) (by kernel_rfl) (by kernel_rfl) (fun _ _ _ h => h) (by rfl) ?hy25 (by assumption) ?_
        case hy25 => ((intro w hSw; (try dsimp only at hSw); (try go_split_ands); go_simp); try with_reducible rfl)
        simp only [Act.put, List.setIfInBounds_toArray, List.set_cons_zero, List.set_cons_succ]
        refine takeH (i := 7) (d := (some 98)) (v := ?v26) rfl rfl (by kernel_rfl) (by kernel_rfl) (by kernel_rfl) (fun _ _ _ h => h) (by rfl) ?hy26 (by assumption) ?_
        case hy26 => ((intro w hSw; (try dsimp only at hSw); (try go_split_ands); go_simp); try with_reducible rfl)
        simp only [Act.put, List.setIfInBounds_toArray, List.set_cons_zero, List.set_cons_succ]
        refine takeH (i := 8) (d := (some 99)) (v := ?v27) rfl rfl (by kernel_rfl) (by kernel_rfl) (by kernel_rfl) (fun _ _ _ h => h) (by rfl) ?hy27 (by assumption) ?_
        case hy27 => ((intro w hSw; (try dsimp only at hSw); (try go_split_ands); go_simp); try with_reducible rfl)
        simp only [Act.put, List.setIfInBounds_toArray, List.set_cons_zero, List.set_cons_succ]
        refine takeH (i := 9) (d := (some 100)) (v := ?v28) rfl rfl (by kernel_rfl) (by kernel_rfl) (by kernel_rfl) (fun _ _ _ h => h) (by rfl) ?hy28 (by assumption) ?_
        case hy28 => ((intro w hSw; (try dsimp only at hSw); (try go_split_ands); go_simp); try with_reducible rfl)
        simp only [Act.put, List.setIfInBounds_toArray, List.set_cons_zero, List.set_cons_succ]
        refine takeH (i := 10) (d := (some 101)) (v := ?v29) rfl rfl (by kernel_rfl) (by kernel_rfl) (by kernel_rfl) (fun _ _ _ h => h) (by rfl) ?hy29 (by assumption) ?_
        case hy29 => ((intro w hSw; (try dsimp only at hSw); (try go_split_ands); go_simp); try with_reducible rfl)
        simp only [Act.put, List.setIfInBounds_toArray, List.set_cons_zero, List.set_cons_succ]
        refine wpAnyH_ready (rs := [11]) (by kernel_rfl) (by simp) ?_
        refine AllReadyH.cons rfl (fun K hK => ?_) AllReadyH.nil
        go_simp
        refine (HTo.out _ _ hHeld.1.2).mono ?_
        rintro e w5 ⟨rfl, rfl⟩
        go_wp2_with fail
        refine hK.out _ _ hHeld (fun hHeld => ?_)
        clear hK K HTo
        refine takeH (i := 12) (d := (some 103)) (v := ?v31) rfl rfl (by kernel_rfl) (by kernel_rfl) (by kernel_rfl) (fun _ _ _ h => h) (by rfl) ?hy31 (by assumption) ?_
        case hy31 => ((intro w hSw; (try dsimp only at hSw); (try go_split_ands); go_simp); try with_reducible rfl)
        simp only [Act.put, List.setIfInBounds_toArray, List.set_cons_zero, List.set_cons_succ]
        refine takeH (i := 13) (d := (some 104)) (v := ?v32) rfl rfl (by kernel_rfl) (by kernel_rfl) (by kernel_rfl) (fun _ _ _ h => h) (by rfl) ?hy32 (by assumption) ?_
        case hy32 => ((intro w hSw; (try dsimp only at hSw); (try go_split_ands); go_simp); try with_reducible rfl)
        simp only [Act.put, List.setIfInBounds_toArray, List.set_cons_zero, List.set_cons_succ]
        refine takeH (i := 14) (d := (some 105)) (v := ?v33) rfl rfl (by kernel_rfl) (by kernel_rfl) (by kernel_rfl) (fun _ _ _ h => h) (by rfl) ?hy33 (by assumption) ?_
        case hy33 => ((intro w hSw; (try dsimp only at hSw); (try go_split_ands); go_simp); try with_reducible rfl)
        simp only [Act.put, List.setIfInBounds_toArray, List.set_cons_zero, List.set_cons_succ]
        refine wpAnyH_ready (rs := [15]) (by kernel_rfl) (by simp) ?_
        refine AllReadyH.cons rfl (fun K hK => ?_) AllReadyH.nil
        go_simp
        refine (HW.out _).mono ?_
        rintro e w5 ⟨rfl, u5⟩
        go_wp2_with fail
        refine hK.out _ _ ⟨⟨hHeld.1.1.trans u5, hHeld.1.2.up u5⟩, u5.cell hHeld.2⟩ (fun hHeld => ?_)
        clear hK K HW u5
        refine takeH (i := 16) (d := (some 107)) (v := ?v35) rfl rfl (by kernel_rfl) (by kernel_rfl) (by kernel_rfl) (fun _ _ _ h => h) (by rfl) ?hy35 (by assumption) ?_
        case hy35 => ((intro w hSw; (try dsimp only at hSw); (try go_split_ands); go_simp); try with_reducible rfl)
        simp only [Act.put, List.setIfInBounds_toArray, List.set_cons_zero, List.set_cons_succ]
        refine takeH (i := 17) (d := (some 6)) (v := ?v36) rfl rfl (by kernel_rfl) (by kernel_rfl) (by kernel_rfl) (fun _ _ _ h => h) (by rfl) ?hy36 (by assumption) ?_
        case hy36 => ((intro w hSw; (try dsimp only at hSw); (try go_split_ands); go_simp); try with_reducible rfl)
        simp only [Act.put, List.setIfInBounds_toArray, List.set_cons_zero, List.set_cons_succ]
        refine wpAnyH_done (by kernel_rfl) ?_ _
        go_wp2
        go_ret
        exact ⟨rfl, hHeld.1.1⟩

end Go.Proofs.Ytckjggkikpgidaa
