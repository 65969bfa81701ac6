import Derived.Test.YtnaibklajocejaaTownG
/- The contract of dial's ticks, of what it calls by contracts. -/
namespace Go.Proofs.Ytnaibklajocejaa
open Go.RowKit

/-- the tick that a period holds, if any -/
def D.hit (tv : Int → Int) (ok : Int → Bool) (X : Nat → Int) (k : Nat) : List Int :=
  if (ok (wrap64 (-X (k * 3 + 2))) && inB (tv (wrap64 (-X (k * 3 + 2)))) (X (k * 3)) (wrap64 (X (k * 3 + 1) - 1))) = true then [tv (wrap64 (-X (k * 3 + 2)))] else []
/-- the ticks of the first periods -/
def D.hits (tv : Int → Int) (ok : Int → Bool) (X : Nat → Int) : Nat → List Int
  | 0 => []
  | k + 1 => D.hits tv ok X k ++ D.hit tv ok X k
theorem D.hits_len (tv : Int → Int) (ok : Int → Bool) (X : Nat → Int) (k : Nat) : (D.hits tv ok X k).length ≤ k := by
  induction k with
  | zero => exact Nat.le_refl _
  | succ k ih =>
    have : (D.hit tv ok X k).length ≤ 1 := by unfold D.hit; split <;> simp
    simp only [D.hits, List.length_append]; omega

theorem cell3_2 {w : World} {b : Nat} {x y z : Value} {t : TypeId} (h : mblk w b = some (.cells #[x, y, z] t (0, 0))) : w.cell? ⟨b, 2, none⟩ = some z := by rw [cellB h]; rfl

theorem own_up {w w' : World} {base size n : Nat} {e : TypeId} {v : Value} {xs : List Value} (h : w.ownsRow base e size v n xs) (u : Up w w') : w'.ownsRow base e size v n xs :=
  h.kept (row := none) ⟨u.os, u.tape, u.output, u.size, fun j hj _ => u.block j hj⟩ (by cases hv : v.ownBlock <;> simp)

set_option maxRecDepth 100000 in
set_option maxHeartbeats 1000000 in
theorem ticks_nil {ts cs : Array Value} (hsz : ts.size = 17) (hcal : calOf ts = cs) (a b c q : Int) (w : World)
    (HDv : ∀ w, Calls Try.prog 93 #[.agg cs, rd a b c q] w fun e w' => e = .returned (.bool false) ∧ Up w w') :
    Calls Try.prog 73 #[.agg ts, rd a b c q] w fun e w' => e = .returned (.slice none 0 0) ∧ Up w w' := by
  have hs := Lib.hid hsz
  have hT := hcal
  have HK := Lib.hid HDv
  clear hsz hcal HDv
  go_enter Try.func73, Try.ntmps73
  go_wp2_with fail
  refine (HK.out _).mono ?_
  rintro e w1 ⟨rfl, u1⟩
  go_wp2
  go_ret
  exact ⟨rfl, (((Up.refl w).alloc _).alloc _).trans u1⟩

set_option maxRecDepth 100000 in
set_option maxHeartbeats 500000 in
theorem ticks_list {ts cs : Array Value} (hsz : ts.size = 17) (hcal : calOf ts = cs) (a b c q : Int) (w : World) (np : Nat) (hK7 : np ≤ 7) (X : Nat → Int) (f0 f1 f2 tv : Int → Int) (ok : Int → Bool)
    (HDv : ∀ w, Calls Try.prog 93 #[.agg cs, rd a b c q] w fun e w' => e = .returned (.bool true) ∧ Up w w')
    (HP : ∀ w0, Up w w0 → Calls Try.prog 94 #[.agg ts] w0 fun e w' => ∃ g cap, e = .returned (.slice (some ⟨g, 0, none⟩) np cap) ∧ Up w0 w' ∧ w0.heap.size ≤ g ∧ g < w'.heap.size ∧ ∀ j, j < np * 3 → w'.cell? ⟨g, j, none⟩ = some (.int .i64 (X j)))
    (HL : ∀ k w, Calls Try.prog 69 #[.agg ts, rd a b c q, .int .i64 k] w fun e w' => e = .returned (rd (f0 k) (f1 k) (f2 k) q) ∧ Up w w')
    (HT : ∀ k w, Calls Try.prog 62 #[.agg cs, rd (f0 k) (f1 k) (f2 k) q] w fun e w' => e = .returned (.tuple #[.int .i64 (tv k), .bool (ok k)]) ∧ Up w w') :
    Calls Try.prog 73 #[.agg ts, rd a b c q] w fun e w' => ∃ v, e = .returned v ∧ Up w w' ∧ ((D.hits tv ok X np = [] ∧ v = .slice none 0 0) ∨
      ∃ g, v = .slice (some ⟨g, 0, none⟩) (D.hits tv ok X np).length (D.hits tv ok X np).length ∧ w.heap.size ≤ g ∧ g < w'.heap.size ∧ ∀ j, j < (D.hits tv ok X np).length → w'.cell? ⟨g, j, none⟩ = ((D.hits tv ok X np).map (Value.int .i64))[j]?) := by
  have hs := Lib.hid hsz
  have hT := hcal
  have HQ := Lib.hid HDv
  have HPP := Lib.hid HP
  have HLL := Lib.hid HL
  have HTT := Lib.hid HT
  obtain ⟨i0, hi, hz0, hz1, hz2⟩ := info_parts Try.infoInt
  clear hsz hcal HDv HP HL HT
  go_enter Try.func73, Try.ntmps73
  go_wp2_with fail
  refine (HQ.out _).mono ?_
  rintro e w1 ⟨rfl, u1⟩
  have k1 := u1.blk (blk_keep _ (blk_new w (.cells ts 101) _ rfl))
  have k2 := u1.blk (b := w.heap.size + 1) (o := .cells #[.int .i64 a, .int .i64 b, .int .i64 c, .int .i64 q] 27) (by rw [blk_new _ _ _ (by simp)])
  have U1 := (((Up.refl w).alloc _).alloc _).trans u1
  clear u1 HQ
  go_wp2_with fail
  refine (HPP.out _ U1).mono ?_
  rintro e w2 ⟨g, cap, rfl, u2, g1, g2, hc⟩
  have k3 := u2.blk k1
  have k4 := u2.blk k2
  have U2 := U1.trans u2
  have HC := Lib.hid hc
  clear u2 k1 k2 U1 hc HPP
  go_wp2_with fail
  go_loopw [5, 7, 8, 9, 18] (fun l _ _ _ i wr => ∃ k : Nat, k ≤ np ∧ i = .int .i64 k ∧ wr.ownsRow w2.heap.size 3 1 l (D.hits tv ok X k).length ((D.hits tv ok X k).map (Value.int .i64)) ∧ Up w2 wr ∧ (D.hits tv ok X k = [] → l = .slice none 0 0)) (fun _ _ _ _ i _ => np - (intOf i).toNat)
  case atStart => exact ⟨0, Nat.zero_le _, rfl, by simpa [D.hits] using World.ownsRow_nil _ _ _ _, Up.refl _, fun _ => rfl⟩
  case round =>
    obtain ⟨k, hk, rfl, hown, V1, hnil⟩ := hrel
    have i1 := V1.blk k3
    have i2 := V1.blk k4
    by_cases hlt : k < np
    · have c0 := (V1.facts.1 g (k * 3) g2).trans (HC.out (k * 3) (by omega))
      have c1 := (V1.facts.1 g (k * 3 + 1) g2).trans (HC.out (k * 3 + 1) (by omega))
      have c2 := (V1.facts.1 g (k * 3 + 2) g2).trans (HC.out (k * 3 + 2) (by omega))
      go_wp2_with fail
      obtain ⟨W0, hW0⟩ : ∃ W0, wr.alloc (.cells #[.int .i64 (X (k * 3)), .int .i64 (X (k * 3 + 1)), .int .i64 (X (k * 3 + 2))] 125) = W0 := ⟨_, rfl⟩
      have V2 : Up wr W0 := by rw [← hW0]; exact (Up.refl wr).alloc _
      have i3 : mblk W0 wr.heap.size = some (.cells #[.int .i64 (X (k * 3)), .int .i64 (X (k * 3 + 1)), .int .i64 (X (k * 3 + 2))] 125) := by rw [← hW0]; exact blk_new _ _ _ (by simp)
      rw [hW0]
      have j1 := V2.blk i1
      have j2 := V2.blk i2
      have hht : D.hits tv ok X (k + 1) = D.hits tv ok X k ++ D.hit tv ok X k := rfl
      have hhd : D.hit tv ok X k = if (ok (wrap64 (-X (k * 3 + 2))) && inB (tv (wrap64 (-X (k * 3 + 2)))) (X (k * 3)) (wrap64 (X (k * 3 + 1) - 1))) = true then [tv (wrap64 (-X (k * 3 + 2)))] else [] := rfl
      have hle := D.hits_len tv ok X k
      have HL2 := Lib.hid (HLL.out (wrap64 (-X (k * 3 + 2))))
      have HT2 := Lib.hid (HTT.out (wrap64 (-X (k * 3 + 2))))
      generalize X (k * 3) = x0 at *
      generalize X (k * 3 + 1) = x1 at *
      generalize X (k * 3 + 2) = x2 at *
      have HH := Lib.hid hht
      have HD := Lib.hid hhd
      clear hW0 i1 i2 c0 c1 c2 hht hhd
      refine wp_region_held_drew (S := fun w' => mblk w' w.heap.size = some (.cells ts 101 (0, 0)) ∧ mblk w' (w.heap.size + 1) = some (.cells #[.int .i64 a, .int .i64 b, .int .i64 c, .int .i64 q] 27 (0, 0)) ∧ mblk w' wr.heap.size = some (.cells #[.int .i64 (x0), .int .i64 (x1), .int .i64 (x2)] 125 (0, 0)) ∧ Up wr w' ∧ w'.cell? ⟨wr.heap.size, 2, none⟩ = some (.int .i64 (x2))) (by kernel_rfl) ⟨by rw [blk_drew]; exact j1, by rw [blk_drew]; exact j2, by rw [blk_drew]; exact i3, V2.drew, (cellB (w := W0.drew) (by rw [blk_drew]; exact i3) 2)⟩ (fun hHeld => ?_)
      clear j1 j2 i3 V2
      refine takeH (i := 0) (d := (some 23)) (v := ?v1) rfl rfl (by kernel_rfl) (by kernel_rfl) (by kernel_rfl) (fun _ _ _ h => h) (by rfl) ?hy1 (by assumption) ?_
      case hy1 => ((intro w hSw; (try dsimp only at hSw); (try go_split_ands); go_simp); try with_reducible rfl)
      simp only [Act.put, List.setIfInBounds_toArray, List.set_cons_zero, List.set_cons_succ]
      refine takeH (i := 2) (d := (some 25)) (v := ?v2) rfl rfl (by kernel_rfl) (by kernel_rfl) (by kernel_rfl) (fun _ _ _ h => h) (by rfl) ?hy2 (by assumption) ?_
      case hy2 => ((intro w hSw; (try dsimp only at hSw); (try go_split_ands); go_simp); try with_reducible rfl)
      simp only [Act.put, List.setIfInBounds_toArray, List.set_cons_zero, List.set_cons_succ]
      refine takeH (i := 3) (d := (some 26)) (v := ?v3) rfl rfl (by kernel_rfl) (by kernel_rfl) (by kernel_rfl) (fun _ _ _ h => h) (by rfl) ?hy3 (by assumption) ?_
      case hy3 => ((intro w hSw; (try dsimp only at hSw); (try go_split_ands); go_simp); try with_reducible rfl)
      simp only [Act.put, List.setIfInBounds_toArray, List.set_cons_zero, List.set_cons_succ]
      refine takeH (i := 4) (d := (some 27)) (v := ?v4) rfl rfl (by kernel_rfl) (by kernel_rfl) (by kernel_rfl) (fun _ _ _ h => h) (by rfl) ?hy4 (by assumption) ?_
      case hy4 => ((intro w hSw; (try dsimp only at hSw); (try go_split_ands); go_simp); try with_reducible rfl)
      simp only [Act.put, List.setIfInBounds_toArray, List.set_cons_zero, List.set_cons_succ]
      refine takeH (i := 1) (d := (some 24)) (v := ?v5) rfl rfl (by kernel_rfl) (by kernel_rfl) (by kernel_rfl) (fun _ _ _ h => h) (by rfl) ?hy5 (by assumption) ?_
      case hy5 => ((intro w hSw; (try dsimp only at hSw); (try go_split_ands); go_simp); try with_reducible rfl)
      simp only [Act.put, List.setIfInBounds_toArray, List.set_cons_zero, List.set_cons_succ]
      refine takeH (i := 5) (d := (some 28)) (v := ?v6) rfl rfl (by kernel_rfl) (by kernel_rfl) (by kernel_rfl) (fun _ _ _ h => h) (by rfl) ?hy6 (by assumption) ?_
      case hy6 => ((intro w hSw; (try dsimp only at hSw); (try go_split_ands); go_simp); try with_reducible rfl)
      simp only [Act.put, List.setIfInBounds_toArray, List.set_cons_zero, List.set_cons_succ]
      refine takeH (i := 6) (d := (some 29)) (v := ?v7) rfl rfl (by kernel_rfl) (by kernel_rfl) (by kernel_rfl) (fun _ _ _ h => h) (by rfl) ?hy7 (by assumption) ?_
      case hy7 => ((intro w hSw; (try dsimp only at hSw); (try go_split_ands); go_simp); try with_reducible rfl)
      simp only [Act.put, List.setIfInBounds_toArray, List.set_cons_zero, List.set_cons_succ]
      refine wpAnyH_ready (rs := [7]) (by kernel_rfl) (by simp) ?_
      refine AllReadyH.cons rfl (fun K hK => ?_) AllReadyH.nil
      go_simp
      rw [iw]
      refine (HL2.out _).mono ?_
      rintro e w3 ⟨rfl, u3⟩
      go_wp2_with fail
      refine hK.out _ _ (by obtain ⟨i1, i2, i3, i4, i5⟩ := hHeld; exact ⟨u3.blk i1, u3.blk i2, u3.blk i3, i4.trans u3, cell3_2 (u3.blk i3)⟩) (fun hHeld => ?_)
      clear hK K
      refine wpAnyH_ready (rs := [8]) (by kernel_rfl) (by simp) ?_
      refine AllReadyH.cons rfl (fun K hK => ?_) AllReadyH.nil
      go_simp
      refine (HT2.out _).mono ?_
      rintro e w4 ⟨rfl, u4⟩
      go_wp2_with fail
      refine hK.out _ _ (by obtain ⟨i1, i2, i3, i4, i5⟩ := hHeld; exact ⟨u4.blk i1, u4.blk i2, u4.blk i3, i4.trans u4, cell3_2 (u4.blk i3)⟩) (fun hHeld => ?_)
      clear hK K
      refine takeH (i := 9) (d := (some 22)) (v := ?v10) rfl rfl (by kernel_rfl) (by kernel_rfl) (by kernel_rfl) (fun _ _ _ h => h) (by rfl) ?hy10 (by assumption) ?_
      case hy10 => ((intro w hSw; (try dsimp only at hSw); (try go_split_ands); go_simp); try with_reducible rfl)
      simp only [Act.put, List.setIfInBounds_toArray, List.set_cons_zero, List.set_cons_succ]
      refine takeH (i := 10) (d := (some 32)) (v := ?v11) rfl rfl (by kernel_rfl) (by kernel_rfl) (by kernel_rfl) (fun _ _ _ h => h) (by rfl) ?hy11 (by assumption) ?_
      case hy11 => ((intro w hSw; (try dsimp only at hSw); (try go_split_ands); go_simp); try with_reducible rfl)
      simp only [Act.put, List.setIfInBounds_toArray, List.set_cons_zero, List.set_cons_succ]
      refine takeH (i := 11) (d := (some 33)) (v := ?v12) rfl rfl (by kernel_rfl) (by kernel_rfl) (by kernel_rfl) (fun _ _ _ h => h) (by rfl) ?hy12 (by assumption) ?_
      case hy12 => ((intro w hSw; (try dsimp only at hSw); (try go_split_ands); go_simp); try with_reducible rfl)
      simp only [Act.put, List.setIfInBounds_toArray, List.set_cons_zero, List.set_cons_succ]
      refine takeH (i := 12) (d := (some 8)) (v := ?v13) rfl rfl (by kernel_rfl) (by kernel_rfl) (by kernel_rfl) (fun _ _ _ h => h) (by rfl) ?hy13 (by assumption) ?_
      case hy13 => ((intro w hSw; (try dsimp only at hSw); (try go_split_ands); go_simp); try with_reducible rfl)
      simp only [Act.put, List.setIfInBounds_toArray, List.set_cons_zero, List.set_cons_succ]
      refine takeH (i := 13) (d := (some 9)) (v := ?v14) rfl rfl (by kernel_rfl) (by kernel_rfl) (by kernel_rfl) (fun _ _ _ h => h) (by rfl) ?hy14 (by assumption) ?_
      case hy14 => ((intro w hSw; (try dsimp only at hSw); (try go_split_ands); go_simp); try with_reducible rfl)
      simp only [Act.put, List.setIfInBounds_toArray, List.set_cons_zero, List.set_cons_succ]
      refine wpAnyH_done (by kernel_rfl) ?_ _
      obtain ⟨i1, i2, i3, i4, i5⟩ := hHeld
      have V3 := V1.trans i4
      have hown3 := own_up hown i4
      have l1 := blk_lt i1
      have HI := HD.out
      have HJ := HH.out
      generalize tv (wrap64 (-x2)) = T1 at *
      generalize ok (wrap64 (-x2)) = o1 at *
      clear HD HH HL2 HT2 HLL HTT u3 u4 i1 i2 hown V1 i4 i5
      cases o1
      · have e3 : Hid (D.hits tv ok X (k + 1) = D.hits tv ok X k) := by unfold Hid; rw [HJ, HI]; simp
        clear HI HJ
        go_wp2
        go_roundw
        case rel => exact ⟨k + 1, by omega, by go_num, by rw [e3.out]; exact hown3, V3, by rw [e3.out]; exact hnil⟩
        case measure => simp [intOf]; omega
      · have fp := cellB i3
        go_wp2_with fail
        refine (has_any _ _ _ _ _).mono ?_
        rintro e w5 ⟨rfl, u5⟩
        have hown5 := own_up hown3 u5
        have V5 := V3.trans u5
        clear hown3 V3 u5 i3 fp
        rw [Bool.true_and] at HI
        generalize inB T1 x0 (wrap64 (x1 - 1)) = o2 at *
        cases o2
        · have e3 : Hid (D.hits tv ok X (k + 1) = D.hits tv ok X k) := by unfold Hid; rw [HJ, HI]; simp
          clear HI HJ
          go_wp2
          go_roundw
          case rel => exact ⟨k + 1, by omega, by go_num, by rw [e3.out]; exact hown5, V5, by rw [e3.out]; exact hnil⟩
          case measure => simp [intOf]; omega
        · have e3 : Hid (D.hits tv ok X (k + 1) = D.hits tv ok X k ++ [T1]) := by unfold Hid; rw [HJ, HI]; simp
          clear HI HJ
          have gz := V5.size
          go_wp2_with (at_builtin; go_loud (refine wpList_append_own _ rfl (.tmp 40) (.tmp 42) 49 rfl w2.heap.size 3 i0 (.int .i64 0) 1 8 Try.underlying49 hi hz0 hz1 hz2 rfl (by decide) _ (D.hits tv ok X k).length _ rfl (hown5.alloc _) ⟨w5.heap.size, 0, none⟩ 1 1 [.int .i64 T1] rfl rfl (cell_one_at _ _ _ _ (by simp)) (by simp [Value.oneCell']) (by unfold maxLen; omega) (by omega) (by simp; omega) ?_; intro v' w6 hown6 hgrow6 hv6))
          have V6 := (V5.alloc _).grown hgrow6 (fun j hj => by have := own_block hown5 hj; omega)
          clear hgrow6 hown5 V5
          go_wp2
          go_roundw
          case rel => exact ⟨k + 1, by omega, by go_num, by rw [e3.out, List.length_append, List.map_append]; exact hown6, V6, by rw [e3.out]; simp⟩
          case measure => simp [intOf]; omega
    · obtain rfl : k = np := by omega
      have hle := D.hits_len tv ok X k
      have U3 := U2.trans V1
      have z3 := U2.size
      rcases Joins.ownsRow_forms hown with ⟨rfl, h0⟩ | ⟨g', cap', rfl⟩
      · go_wp2
        go_ret
        exact ⟨_, rfl, U3, .inl ⟨List.length_eq_zero_iff.1 h0, rfl⟩⟩
      · have hg0 := own_block hown (k := g') rfl
        have hgz := (hown.lt g' rfl).2
        have hcap : (D.hits tv ok X k).length ≤ cap' := by
          obtain ⟨_, ⟨h, _⟩ | ⟨_, _, _, h, _, _, hc, _⟩⟩ := hown
          · cases h
          · cases h; exact hc
        go_wp2
        go_ret
        exact ⟨_, rfl, U3, .inr ⟨g', rfl, by omega, hgz, fun j hj => hown.cellAt j (by omega)⟩⟩

end Go.Proofs.Ytnaibklajocejaa
