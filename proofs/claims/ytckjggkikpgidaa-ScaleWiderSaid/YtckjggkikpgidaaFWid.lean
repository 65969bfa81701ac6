import Derived.Test.YtckjggkikpgidaaLks2
/- The law ScaleWider. -/
namespace Go.Proofs.Ytckjggkikpgidaa
open Go.RowKit

section
variable {f s j dl dh ticks : Int} {a a' : Option Addr} {n c n' c' : Nat} {xs : List Int} {ls : List (Int × Int × Int)}
set_option maxRecDepth 100000 in
set_option maxHeartbeats 8000000 in
theorem scaleWider_any (n0 n1 n2 n3 : Int) {w : World} (I : Ints w (.slice a n c) xs) (I' : Lks w (.slice a' n' c') ls) : Calls Try.prog 14 #[BV f s j dl dh ticks (.slice a n c) (.slice a' n' c'), .agg #[.int .i64 n0, .int .i64 n1, .int .i64 n2, .int .i64 n3]] w fun e w' => e = .returned (.bool true) ∧ Up w w' := by
  have U0 := ((Up.refl w).alloc (.cells (BC f s j dl dh ticks (.slice a n c) (.slice a' n' c')) 44)).alloc (.cells #[.int .i64 n0, .int .i64 n1, .int .i64 n2, .int .i64 n3] 65)
  have k2 := blk_keep (.cells #[.int .i64 n0, .int .i64 n1, .int .i64 n2, .int .i64 n3] 65) (blk_new w (.cells (BC f s j dl dh ticks (.slice a n c) (.slice a' n' c')) 44) _ rfl)
  have k3 := blk_new (w.alloc (.cells (BC f s j dl dh ticks (.slice a n c) (.slice a' n' c')) 44)) (.cells #[.int .i64 n0, .int .i64 n1, .int .i64 n2, .int .i64 n3] 65) (w.heap.size + 1) (by simp)
  have HW := Lib.hid (fun w => l_works_any w)
  have HS := Lib.hid (fun w' (u : Up w w') => l_sound_any (f := f) (s := s) (j := j) (dl := dl) (dh := dh) (ticks := ticks) (I.up u) (I'.up u))
  cases hb : S.bookOk f s j dl dh ticks xs ls with
  | false =>
    rw [hb] at HS
    clear hb I I'
    go_enter Try.func14, Try.ntmps14
    go_wp2_with fail
    refine (HS.out _ U0).mono ?_
    rintro e w1 ⟨rfl, u1⟩
    go_wp2_with fail
    refine (HW.out _).mono ?_
    rintro e w2 ⟨rfl, u2⟩
    go_wp2
    go_ret
    exact ⟨rfl, (U0.trans u1).trans u2⟩
  | true =>
    rw [hb] at HS
    obtain ⟨g1, ⟨g2, g3⟩, _, g6, g7⟩ := S.bookOk_iff.1 hb
    obtain ⟨_, _, _, d1, d2, d3⟩ := S.ok_iff.1 g1
    have HR1 := Lib.hid (fun w => B_Rest_any n1 30 w (by omega) (by omega))
    have b1 := Int.emod_nonneg n1 (b := 30) (by omega)
    have b2 := Int.emod_lt_of_pos n1 (b := 30) (by omega)
    generalize n1 % 30 = by_ at *
    have HR0 := Lib.hid (fun w => B_Rest_any n0 2 w (by omega) (by omega))
    have r1 := Int.emod_nonneg n0 (b := 2) (by omega)
    have r2 := Int.emod_lt_of_pos n0 (b := 2) (by omega)
    generalize n0 % 2 = r0 at *
    have HR3 := Lib.hid (fun w => B_Rest_any n3 (ticks + 1) w (by omega) (by omega))
    have t1 := Int.emod_nonneg n3 (b := ticks + 1) (by omega)
    have t2 := Int.emod_lt_of_pos n3 (b := ticks + 1) (by omega)
    generalize n3 % (ticks + 1) = t at *
    have wt : IntKind.i64.wrap (ticks + 1) = ticks + 1 := IntWalk.i64_in _ (by omega)
    have HE := Lib.hid (fun w' (u : Up w w') => Error_any (f := f) (s := s) (j := j) (dl := dl) (dh := dh) (ticks := ticks) (I.up u) (I'.up u) t)
    have HI := Lib.hid (fun w' (u : Up w w') => I.up u)
    have HI' := Lib.hid (fun w' (u : Up w w') => I'.up u)
    obtain ⟨dl', hdl⟩ : ∃ x, max (-100) (dl - by_) = x := ⟨_, rfl⟩
    obtain ⟨dh', hdh⟩ : ∃ x, min 100 (dh + by_) = x := ⟨_, rfl⟩
    have hMx := max_run hdl
    have hMn := min_run hdh
    have HTo := Lib.hid (fun w => B_To_any dl' dh' w)
    have wa : IntKind.i64.wrap (dl - by_) = dl - by_ := IntWalk.i64_in _ (by omega)
    have wb : IntKind.i64.wrap (dh + by_) = dh + by_ := IntWalk.i64_in _ (by omega)
    have hb2 := S.book_drift (dl' := dl') (dh' := dh') hb (by omega) (by omega) (by omega) (by omega)
    have hwid := fun v => S.Bk.Tru.drift (dl := dl) (dh := dh) (dl' := dl') (dh' := dh') (ticks := ticks) (xs := xs) (ls := ls) (show dl' ≤ dl by omega) (show dh ≤ dh' by omega) (v := v)
    by_cases hz : r0 = 0
    · subst hz
      clear hdl hdh g1 g6 g7 I I' r1 r2
      go_enter Try.func14, Try.ntmps14
      go_wp2_with fail
      refine (HS.out _ U0).mono ?_
      rintro e w1 ⟨rfl, u1⟩
      replace k2 := u1.blk k2
      replace k3 := u1.blk k3
      have l2 := blk_lt k2
      have l3 := blk_lt k3
      have i2 := k2
      have m5 := blk_new w1 (.cells (BC f s j dl dh ticks (.slice a n c) (.slice a' n' c')) 44) _ rfl
      replace k2 := blk_keep (.cells (BC f s j dl dh ticks (.slice a n c) (.slice a' n' c')) 44) k2
      replace k3 := blk_keep (.cells (BC f s j dl dh ticks (.slice a n c) (.slice a' n' c')) 44) k3
      replace U0 := (U0.trans u1).alloc (.cells (BC f s j dl dh ticks (.slice a n c) (.slice a' n' c')) 44)
      clear u1 HS
      obtain ⟨p5, hp5⟩ : ∃ p, w1.heap.size = p := ⟨_, rfl⟩
      obtain ⟨W2, hW2⟩ : ∃ W, w1.alloc (.cells (BC f s j dl dh ticks (.slice a n c) (.slice a' n' c')) 44) = W := ⟨_, rfl⟩
      rw [hp5] at m5 l2 l3
      rw [hW2] at m5 k2 k3 U0
      go_wp2_with fail
      clear hp5 hW2 i2
      refine (HR1.out _).mono ?_
      rintro e w2 ⟨rfl, rfl⟩
      clear HR1
      go_wp2_with fail
      refine (HR0.out _).mono ?_
      rintro e w2 ⟨rfl, rfl⟩
      clear HR0
      go_wp2_with fail
      refine (HTo.out _).mono ?_
      rintro e w3 ⟨rfl, u3⟩
      replace k2 := u3.blk k2
      replace k3 := u3.blk k3
      replace m5 := u3.blk m5
      replace U0 := U0.trans u3
      clear u3 HTo
      have zf := frozB m5
      have i5 := m5
      have U1 := (U0.set (p := ⟨p5, 3, none⟩) (show w.heap.size ≤ p5 by omega) (.int .i64 dl')).set (p := ⟨p5, 4, none⟩) (show w.heap.size ≤ p5 by omega) (.int .i64 dh')
      have j2 := k2
      rw [← blk_set w3 ⟨p5, 3, none⟩ (.int .i64 dl') w.heap.size (by show w.heap.size ≠ p5; omega), ← blk_set (w3.setCell ⟨p5, 3, none⟩ (.int .i64 dl')) ⟨p5, 4, none⟩ (.int .i64 dh') w.heap.size (by show w.heap.size ≠ p5; omega)] at j2
      have j3 := k3
      rw [← blk_set w3 ⟨p5, 3, none⟩ (.int .i64 dl') (w.heap.size + 1) (by show w.heap.size + 1 ≠ p5; omega), ← blk_set (w3.setCell ⟨p5, 3, none⟩ (.int .i64 dl')) ⟨p5, 4, none⟩ (.int .i64 dh') (w.heap.size + 1) (by show w.heap.size + 1 ≠ p5; omega)] at j3
      have j5 : mblk ((w3.setCell ⟨p5, 3, none⟩ (.int .i64 dl')).setCell ⟨p5, 4, none⟩ (.int .i64 dh')) p5 = some (.cells (BC f s j dl' dh' ticks (.slice a n c) (.slice a' n' c')) 44 (0, 0)) := blk_put (blk_put m5 3 _) 4 _
      obtain ⟨W4, hW4⟩ : ∃ W, (w3.setCell ⟨p5, 3, none⟩ (.int .i64 dl')).setCell ⟨p5, 4, none⟩ (.int .i64 dh') = W := ⟨_, rfl⟩
      rw [hW4] at j2 j3 j5 U1
      clear k2 k3 m5 U0
      have k2 := j2
      have k3 := j3
      have m5 := j5
      have U0 := U1
      clear j2 j3 j5 U1
      go_wp2_with fail
      clear hW4 zf i5
      have HX := Lib.hid (fun w' (u : Up W4 w') => Error_any (f := f) (s := s) (j := j) (dl := dl') (dh := dh') (ticks := ticks) (HI.out _ (U0.trans u)) (HI'.out _ (U0.trans u)) t |> fun q => (show Calls Try.prog 27 #[BV f s j dl' dh' ticks (.slice a n c) (.slice a' n' c'), .int .i64 t] w' _ from q))
      refine (HR3.out _).mono ?_
      rintro e w5 ⟨rfl, rfl⟩
      clear HR3 wt
      go_wp2_with fail
      refine (HE.out _ U0).mono ?_
      rintro e w6 ⟨l, h, r, rfl, T1, u6⟩
      have m9 := blk_new w6 (.cells #[.int .i64 l, .int .i64 h] 23) _ rfl
      have l5 := blk_lt (u6.blk m5)
      replace m5 := blk_keep (.cells #[.int .i64 l, .int .i64 h] 23) (u6.blk m5)
      replace U0 := (U0.trans u6).alloc (.cells #[.int .i64 l, .int .i64 h] 23)
      have HE2 := Lib.hid (HX.out _ (u6.alloc (.cells #[.int .i64 l, .int .i64 h] 23)))
      clear u6 HE k2 k3 HX
      obtain ⟨p9, hp9⟩ : ∃ p, w6.heap.size = p := ⟨_, rfl⟩
      obtain ⟨W6, hW6⟩ : ∃ W, w6.alloc (.cells #[.int .i64 l, .int .i64 h] 23) = W := ⟨_, rfl⟩
      rw [hp9] at m9
      rw [hW6] at m9 m5 U0 HE2
      have HT1 := Lib.hid T1
      clear T1
      go_wp2_with fail
      clear hp9 hW6 l5
      refine HE2.out.mono ?_
      rintro e w7 ⟨l', h', r', rfl, T2, u7⟩
      have m11 := blk_new w7 (.cells #[.int .i64 l', .int .i64 h'] 23) _ rfl
      have l9 := blk_lt (u7.blk m9)
      replace m9 := blk_keep (.cells #[.int .i64 l', .int .i64 h'] 23) (u7.blk m9)
      replace U0 := (U0.trans u7).alloc (.cells #[.int .i64 l', .int .i64 h'] 23)
      clear u7 HE2 m5
      have key := Hid.out HT1 |>.wider T2 hb hb2 ⟨t1, by omega⟩ hwid
      clear T2 HT1
      rcases key with ⟨rfl, rfl | rfl⟩ | ⟨rfl, rfl, q1, q2⟩
      · go_wp2_with fail
        refine (HW.out _).mono ?_
        rintro e w8 ⟨rfl, u8⟩
        go_wp2
        go_ret
        exact ⟨rfl, U0.trans u8⟩
      · go_wp2_with fail
        refine (HW.out _).mono ?_
        rintro e w8 ⟨rfl, u8⟩
        go_wp2
        go_ret
        exact ⟨rfl, U0.trans u8⟩
      · have HWi := Lib.hid (fun w => show Calls Try.prog 45 #[SpV l h, SpV l' h'] w fun e w' => e = .returned (.bool true) ∧ Up w w' by rw [← decide_eq_true (show l' ≤ l ∧ h ≤ h' from ⟨q1, q2⟩)]; exact B_Within_any _ _ _ _ w)
        go_wp2_with fail
        refine (HWi.out _).mono ?_
        rintro e w8 ⟨rfl, u8⟩
        go_wp2_with fail
        refine (HW.out _).mono ?_
        rintro e w9 ⟨rfl, u9⟩
        go_wp2
        go_ret
        exact ⟨rfl, (U0.trans u8).trans u9⟩
    · have hz' : (r0 == 0) = false := by simpa using hz
      by_cases hl0 : ls.length = 0
      · have hn0 : n' = 0 := by have := I'.len.1; omega
        subst hn0
        clear hdl hdh g1 g6 g7 I I' r1 r2 hl0
        go_enter Try.func14, Try.ntmps14
        go_wp2_with fail
        refine (HS.out _ U0).mono ?_
        rintro e w1 ⟨rfl, u1⟩
        replace k2 := u1.blk k2
        replace k3 := u1.blk k3
        have l2 := blk_lt k2
        have l3 := blk_lt k3
        have i2 := k2
        have m5 := blk_new w1 (.cells (BC f s j dl dh ticks (.slice a n c) (.slice a' 0 c')) 44) _ rfl
        replace k2 := blk_keep (.cells (BC f s j dl dh ticks (.slice a n c) (.slice a' 0 c')) 44) k2
        replace k3 := blk_keep (.cells (BC f s j dl dh ticks (.slice a n c) (.slice a' 0 c')) 44) k3
        replace U0 := (U0.trans u1).alloc (.cells (BC f s j dl dh ticks (.slice a n c) (.slice a' 0 c')) 44)
        clear u1 HS
        obtain ⟨p5, hp5⟩ : ∃ p, w1.heap.size = p := ⟨_, rfl⟩
        obtain ⟨W2, hW2⟩ : ∃ W, w1.alloc (.cells (BC f s j dl dh ticks (.slice a n c) (.slice a' 0 c')) 44) = W := ⟨_, rfl⟩
        rw [hp5] at m5 l2 l3
        rw [hW2] at m5 k2 k3 U0
        go_wp2_with fail
        clear hp5 hW2 i2
        refine (HR1.out _).mono ?_
        rintro e w2 ⟨rfl, rfl⟩
        clear HR1
        go_wp2_with fail
        refine (HR0.out _).mono ?_
        rintro e w2 ⟨rfl, rfl⟩
        clear HR0
        go_wp2_with fail
        refine (HTo.out _).mono ?_
        rintro e w3 ⟨rfl, u3⟩
        replace k2 := u3.blk k2
        replace k3 := u3.blk k3
        replace m5 := u3.blk m5
        replace U0 := U0.trans u3
        clear u3 HTo
        have zf := frozB m5
        have i5 := m5
        have U1 := (U0.set (p := ⟨p5, 3, none⟩) (show w.heap.size ≤ p5 by omega) (.int .i64 dl')).set (p := ⟨p5, 4, none⟩) (show w.heap.size ≤ p5 by omega) (.int .i64 dh')
        have j2 := k2
        rw [← blk_set w3 ⟨p5, 3, none⟩ (.int .i64 dl') w.heap.size (by show w.heap.size ≠ p5; omega), ← blk_set (w3.setCell ⟨p5, 3, none⟩ (.int .i64 dl')) ⟨p5, 4, none⟩ (.int .i64 dh') w.heap.size (by show w.heap.size ≠ p5; omega)] at j2
        have j3 := k3
        rw [← blk_set w3 ⟨p5, 3, none⟩ (.int .i64 dl') (w.heap.size + 1) (by show w.heap.size + 1 ≠ p5; omega), ← blk_set (w3.setCell ⟨p5, 3, none⟩ (.int .i64 dl')) ⟨p5, 4, none⟩ (.int .i64 dh') (w.heap.size + 1) (by show w.heap.size + 1 ≠ p5; omega)] at j3
        have j5 : mblk ((w3.setCell ⟨p5, 3, none⟩ (.int .i64 dl')).setCell ⟨p5, 4, none⟩ (.int .i64 dh')) p5 = some (.cells (BC f s j dl' dh' ticks (.slice a n c) (.slice a' 0 c')) 44 (0, 0)) := blk_put (blk_put m5 3 _) 4 _
        obtain ⟨W4, hW4⟩ : ∃ W, (w3.setCell ⟨p5, 3, none⟩ (.int .i64 dl')).setCell ⟨p5, 4, none⟩ (.int .i64 dh') = W := ⟨_, rfl⟩
        rw [hW4] at j2 j3 j5 U1
        clear k2 k3 m5 U0
        have k2 := j2
        have k3 := j3
        have m5 := j5
        have U0 := U1
        clear j2 j3 j5 U1
        go_wp2_with fail
        clear hW4 zf i5
        have HX := Lib.hid (fun w' (u : Up W4 w') => Error_any (f := f) (s := s) (j := j) (dl := dl') (dh := dh') (ticks := ticks) (HI.out _ (U0.trans u)) (HI'.out _ (U0.trans u)) t |> fun q => (show Calls Try.prog 27 #[BV f s j dl' dh' ticks (.slice a n c) (.slice a' 0 c'), .int .i64 t] w' _ from q))
        refine (HR3.out _).mono ?_
        rintro e w5 ⟨rfl, rfl⟩
        clear HR3 wt
        go_wp2_with fail
        refine (HE.out _ U0).mono ?_
        rintro e w6 ⟨l, h, r, rfl, T1, u6⟩
        have m9 := blk_new w6 (.cells #[.int .i64 l, .int .i64 h] 23) _ rfl
        have l5 := blk_lt (u6.blk m5)
        replace m5 := blk_keep (.cells #[.int .i64 l, .int .i64 h] 23) (u6.blk m5)
        replace U0 := (U0.trans u6).alloc (.cells #[.int .i64 l, .int .i64 h] 23)
        have HE2 := Lib.hid (HX.out _ (u6.alloc (.cells #[.int .i64 l, .int .i64 h] 23)))
        clear u6 HE k2 k3 HX
        obtain ⟨p9, hp9⟩ : ∃ p, w6.heap.size = p := ⟨_, rfl⟩
        obtain ⟨W6, hW6⟩ : ∃ W, w6.alloc (.cells #[.int .i64 l, .int .i64 h] 23) = W := ⟨_, rfl⟩
        rw [hp9] at m9
        rw [hW6] at m9 m5 U0 HE2
        have HT1 := Lib.hid T1
        clear T1
        go_wp2_with fail
        clear hp9 hW6 l5
        refine HE2.out.mono ?_
        rintro e w7 ⟨l', h', r', rfl, T2, u7⟩
        have m11 := blk_new w7 (.cells #[.int .i64 l', .int .i64 h'] 23) _ rfl
        have l9 := blk_lt (u7.blk m9)
        replace m9 := blk_keep (.cells #[.int .i64 l', .int .i64 h'] 23) (u7.blk m9)
        replace U0 := (U0.trans u7).alloc (.cells #[.int .i64 l', .int .i64 h'] 23)
        clear u7 HE2 m5
        have key := Hid.out HT1 |>.wider T2 hb hb2 ⟨t1, by omega⟩ hwid
        clear T2 HT1
        rcases key with ⟨rfl, rfl | rfl⟩ | ⟨rfl, rfl, q1, q2⟩
        · go_wp2_with fail
          refine (HW.out _).mono ?_
          rintro e w8 ⟨rfl, u8⟩
          go_wp2
          go_ret
          exact ⟨rfl, U0.trans u8⟩
        · go_wp2_with fail
          refine (HW.out _).mono ?_
          rintro e w8 ⟨rfl, u8⟩
          go_wp2
          go_ret
          exact ⟨rfl, U0.trans u8⟩
        · have HWi := Lib.hid (fun w => show Calls Try.prog 45 #[SpV l h, SpV l' h'] w fun e w' => e = .returned (.bool true) ∧ Up w w' by rw [← decide_eq_true (show l' ≤ l ∧ h ≤ h' from ⟨q1, q2⟩)]; exact B_Within_any _ _ _ _ w)
          go_wp2_with fail
          refine (HWi.out _).mono ?_
          rintro e w8 ⟨rfl, u8⟩
          go_wp2_with fail
          refine (HW.out _).mono ?_
          rintro e w9 ⟨rfl, u9⟩
          go_wp2
          go_ret
          exact ⟨rfl, (U0.trans u8).trans u9⟩
      · have hln : n' = ls.length := I'.len.1
        subst hln
        have hl10 : ls.length ≤ 10 := g6
        have HR2 := Lib.hid (fun w => B_Rest_any n2 ls.length w (by omega) (by omega))
        have e1 := Int.emod_nonneg n2 (b := (ls.length : Int)) (by omega)
        have e2 := Int.emod_lt_of_pos n2 (b := (ls.length : Int)) (by omega)
        obtain ⟨k, hk⟩ : ∃ k : Nat, n2 % (ls.length : Int) = k := ⟨(n2 % (ls.length : Int)).toNat, by omega⟩
        rw [hk] at HR2 e1 e2
        have hkl : k < ls.length := by omega
        have hkl' : (k : Int) < (ls.length : Int) := by omega
        obtain ⟨a1, c1, q1, _, _, hm⟩ := I'.is
        injection q1 with q1 q2 q3
        subst q1 q3
        clear q2
        obtain ⟨g, off, rfl, gl, hc⟩ := hm (by omega)
        have hlk : S.lookOk ticks (ls.getD k (0, 0, 0)) = true := by
          rw [List.getD_eq_getElem?_getD, List.getElem?_eq_getElem hkl]
          exact List.all_eq_true.1 g7 _ (List.getElem_mem hkl)
        have HCELL := Lib.hid (fun w' (u : Up w w') => (⟨u.cell2 (hc k hkl).1, u.cell2 (hc k hkl).2.1, u.cell2 (hc k hkl).2.2⟩ : _ ∧ _ ∧ _))
        have hset := fun l h => S.set_looks (ls := ls) (k := k) hkl (l := l) (h := h)
        obtain ⟨z, hzz⟩ : ∃ z, ls.getD k (0, 0, 0) = z := ⟨_, rfl⟩
        rw [hzz] at hlk HCELL
        simp only [hzz] at hset
        obtain ⟨lt, ll, lh⟩ := z
        have hlk2 : inB lt 0 ticks = true ∧ S.spanOk ll lh 20000 = true := by
          have : (inB lt 0 ticks && S.spanOk ll lh 20000) = true := hlk
          rwa [Bool.and_eq_true] at this
        have hsp := S.spanOk_iff.1 hlk2.2
        obtain ⟨nl, hnl⟩ : ∃ x, max (-20000) (ll - by_) = x := ⟨_, rfl⟩
        obtain ⟨nh, hnh⟩ : ∃ x, min 20000 (lh + by_) = x := ⟨_, rfl⟩
        have hMx2 := max_run hnl
        have hMn2 := min_run hnh
        have HTl := Lib.hid (fun w => B_To_any nl nh w)
        have wc : IntKind.i64.wrap (ll - by_) = ll - by_ := IntWalk.i64_in _ (by omega)
        have wd : IntKind.i64.wrap (lh + by_) = lh + by_ := IntWalk.i64_in _ (by omega)
        have hset2 := hset nl nh (by show nl ≤ ll; omega) (by show lh ≤ nh; omega)
        have hb3 := S.book_looks (ls' := ls.set k (lt, nl, nh)) hb (by rw [List.length_set]; omega) (fun z hz => by
          rcases List.mem_or_eq_of_mem_set hz with q | q
          · exact List.all_eq_true.1 g7 _ q
          · subst q
            show (inB lt 0 ticks && S.spanOk nl nh 20000) = true
            rw [hlk2.1, Bool.true_and]
            exact S.spanOk_iff.2 (by omega))
        have hwid3 := fun v => S.Bk.Tru.looks (dl := dl) (dh := dh) (ticks := ticks) (xs := xs) (v := v) hset2
        obtain ⟨i0, hi, hz0, hz1, hz2⟩ := info_parts infoLook
        have hU := Try.underlying42
        have hlz : ((ls.length : Int) == 0) = false := by simpa using hl0
        have hlz2 : ¬ (ls.length : Int) = 0 := by omega
        clear hdl hdh g1 g6 g7 I I' r1 r2 hlk hlk2 hset hset2 hnl hnh hsp hzz hc hm hMx hMn HTo wa wb hb2 hwid
        have hb2 := hb3
        have hwid := hwid3
        clear hb3 hwid3 hk
        go_enter Try.func14, Try.ntmps14
        go_wp2_with fail
        refine (HS.out _ U0).mono ?_
        rintro e w1 ⟨rfl, u1⟩
        replace k2 := u1.blk k2
        replace k3 := u1.blk k3
        have l2 := blk_lt k2
        have l3 := blk_lt k3
        have i2 := k2
        have m5 := blk_new w1 (.cells (BC f s j dl dh ticks (.slice a n c) (.slice (some ⟨g, off, none⟩) ls.length c')) 44) _ rfl
        replace k2 := blk_keep (.cells (BC f s j dl dh ticks (.slice a n c) (.slice (some ⟨g, off, none⟩) ls.length c')) 44) k2
        replace k3 := blk_keep (.cells (BC f s j dl dh ticks (.slice a n c) (.slice (some ⟨g, off, none⟩) ls.length c')) 44) k3
        replace U0 := (U0.trans u1).alloc (.cells (BC f s j dl dh ticks (.slice a n c) (.slice (some ⟨g, off, none⟩) ls.length c')) 44)
        clear u1 HS
        obtain ⟨p5, hp5⟩ : ∃ p, w1.heap.size = p := ⟨_, rfl⟩
        obtain ⟨W2, hW2⟩ : ∃ W, w1.alloc (.cells (BC f s j dl dh ticks (.slice a n c) (.slice (some ⟨g, off, none⟩) ls.length c')) 44) = W := ⟨_, rfl⟩
        rw [hp5] at m5 l2 l3
        rw [hW2] at m5 k2 k3 U0
        go_wp2_with fail
        clear hp5 hW2 i2
        refine (HR1.out _).mono ?_
        rintro e w2 ⟨rfl, rfl⟩
        clear HR1
        go_wp2_with fail
        refine (HR0.out _).mono ?_
        rintro e w2 ⟨rfl, rfl⟩
        clear HR0
        go_wp2_with fail
        refine (HR2.out _).mono ?_
        rintro e w2 ⟨rfl, rfl⟩
        clear HR2
        have R0 := World.ownsRow_lit (base := W2.heap.size) (e := 71) (size := 3) W2 #[] 0 (Nat.le_refl _) (by unfold maxLen; omega) rfl
        have UA := U0.alloc (.cells #[] 71)
        have IA := HI'.out _ UA
        have hnews := IA.flat
        have hone := S.flat_one ls
        have hflen := S.flat_len ls
        have ls0 := U0.size
        have lk2 := blk_lt k2
        have lk3 := blk_lt k3
        have lk5 := blk_lt m5
        go_wp2_with (at_builtin; refine wpList_append_own _ rfl (.tmp 54) (.tmp 56) 42 rfl W2.heap.size 71 i0 (.agg #[.int .i64 0, .int .i64 0, .int .i64 0]) 3 24 hU hi hz0 hz1 hz2 rfl (by decide) _ 0 [] rfl R0 ⟨g, off, none⟩ ls.length c' (S.flat ls) rfl hflen hnews hone (by unfold maxLen; omega) (by omega) (by simp) ?_; intro v' w4 hown4 hgrow4 hv4; rw [Nat.zero_add, List.nil_append] at hown4; obtain ⟨g2, cap, cur, rfl, hg2, hbk, hcap, hcapm, hcs, htk⟩ := row_open hown4 (by omega); unfold maxLen at hcapm; have k2b := grown_blk hgrow4 (blk_keep _ k2) (row_block R0 lk2); have k3b := grown_blk hgrow4 (blk_keep _ k3) (row_block R0 lk3); have m5b := grown_blk hgrow4 (blk_keep _ m5) (row_block R0 lk5); have U4 : Up w w4 := UA.grown hgrow4 (fun k e => by have := row_base R0 k e; omega); have zf := frozB m5b)
        have U5 := U4.set (p := ⟨p5, 7, none⟩) (show w.heap.size ≤ p5 by omega) (.slice (some ⟨g2, 0, none⟩) ls.length cap)
        have j2 : mblk (w4.setCell ⟨p5, 7, none⟩ (.slice (some ⟨g2, 0, none⟩) ls.length cap)) w.heap.size = some (.cells (BC f s j dl dh ticks (.slice a n c) (.slice (some ⟨g, off, none⟩) ls.length c')) 44 (0, 0)) := by rw [blk_set _ _ _ _ (by show w.heap.size ≠ p5; omega)]; exact k2b
        have j3 : mblk (w4.setCell ⟨p5, 7, none⟩ (.slice (some ⟨g2, 0, none⟩) ls.length cap)) (w.heap.size + 1) = some (.cells #[.int .i64 n0, .int .i64 n1, .int .i64 n2, .int .i64 n3] 65 (0, 0)) := by rw [blk_set _ _ _ _ (by show w.heap.size + 1 ≠ p5; omega)]; exact k3b
        have j5 : mblk (w4.setCell ⟨p5, 7, none⟩ (.slice (some ⟨g2, 0, none⟩) ls.length cap)) p5 = some (.cells (BC f s j dl dh ticks (.slice a n c) (.slice (some ⟨g2, 0, none⟩) ls.length cap)) 44 (0, 0)) := blk_put m5b 7 _
        have jr : mblk (w4.setCell ⟨p5, 7, none⟩ (.slice (some ⟨g2, 0, none⟩) ls.length cap)) g2 = some (.cells cur 71 (0, 0)) := by rw [blk_set _ _ _ _ (by show g2 ≠ p5; omega)]; exact hbk
        obtain ⟨W5, hW5⟩ : ∃ W, w4.setCell ⟨p5, 7, none⟩ (.slice (some ⟨g2, 0, none⟩) ls.length cap) = W := ⟨_, rfl⟩
        rw [hW5] at U5 j2 j3 j5 jr
        have hpg : p5 < g2 := by omega
        clear k2 k3 m5 U0 R0 UA IA hnews hone hflen hgrow4 hown4 hv4 k2b k3b m5b U4 hbk ls0 lk2 lk3 lk5
        try rw [hW5]
        go_wp2_with fail
        clear hW5 zf
        obtain ⟨x1, x2, x3⟩ := HCELL.out _ U5
        refine (wpIn_wide (n := 5)).1 ?_
        refine wpIn_nrm ?_
        refine regionG (fun w' => (Up w w' ∧ mblk w' (w.heap.size + 1) = some (.cells #[.int .i64 n0, .int .i64 n1, .int .i64 n2, .int .i64 n3] 65 (0, 0)) ∧ mblk w' g2 = some (.cells cur 71 (0, 0))) ∧ mblk w' w.heap.size = some (.cells (BC f s j dl dh ticks (.slice a n c) (.slice (some ⟨g, off, none⟩) ls.length c')) 44 (0, 0)) ∧ mblk w' p5 = some (.cells (BC f s j dl dh ticks (.slice a n c) (.slice (some ⟨g2, 0, none⟩) ls.length cap)) 44 (0, 0)) ∧ w'.cell? ⟨g, off + k * 3, none⟩ = some (.int .i64 lt) ∧ w'.cell? ⟨g, off + k * 3 + 1, none⟩ = some (.int .i64 ll) ∧ w'.cell? ⟨g, off + k * 3 + 2, none⟩ = some (.int .i64 lh)) 32 (by kernel_rfl) ⟨⟨U5.drew, by rw [blk_drew]; exact j3, by rw [blk_drew]; exact jr⟩, by rw [blk_drew]; exact j2, by rw [blk_drew]; exact j5, x1, x2, x3⟩ (fun hHeld hCl => ?_)
        clear U5 j2 j3 j5 jr x1 x2 x3
        refine takeG (i := 0) (d := (some 59)) (v := ?v1) rfl rfl (by kernel_rfl) (by kernel_rfl) (by decide) hCl (by kernel_rfl) (by kernel_rfl) (by kernel_rfl) (fun _ _ _ h => h) (by rfl) ?hy1 (fun _ _ _ => trivial) (by assumption) (fun hCl' => ?_)
        case hy1 => ((intro w hSw; (try dsimp only at hSw); (try go_split_ands); go_simp); try with_reducible rfl)
        simp only [Act.put, List.setIfInBounds_toArray, List.set_cons_zero, List.set_cons_succ]
        replace hCl := hCl'; clear hCl'
        refine takeG (i := 2) (d := (some 61)) (v := ?v2) rfl rfl (by kernel_rfl) (by kernel_rfl) (by decide) hCl (by kernel_rfl) (by kernel_rfl) (by kernel_rfl) (fun _ _ _ h => h) (by rfl) ?hy2 (fun _ _ _ => trivial) (by assumption) (fun hCl' => ?_)
        case hy2 => ((intro w hSw; (try dsimp only at hSw); (try go_split_ands); go_simp); try with_reducible rfl)
        simp only [Act.put, List.setIfInBounds_toArray, List.set_cons_zero, List.set_cons_succ]
        replace hCl := hCl'; clear hCl'
        refine takeG (i := 3) (d := (some 62)) (v := ?v3) rfl rfl (by kernel_rfl) (by kernel_rfl) (by decide) hCl (by kernel_rfl) (by kernel_rfl) (by kernel_rfl) (fun _ _ _ h => h) (by rfl) ?hy3 (fun _ _ _ => trivial) (by assumption) (fun hCl' => ?_)
        case hy3 => ((intro w hSw; (try dsimp only at hSw); (try go_split_ands); go_simp); try with_reducible rfl)
        simp only [Act.put, List.setIfInBounds_toArray, List.set_cons_zero, List.set_cons_succ]
        replace hCl := hCl'; clear hCl'
        refine takeG (i := 5) (d := (some 64)) (v := ?v4) rfl rfl (by kernel_rfl) (by kernel_rfl) (by decide) hCl (by kernel_rfl) (by kernel_rfl) (by kernel_rfl) (fun _ _ _ h => h) (by rfl) ?hy4 (fun _ _ _ => trivial) (by assumption) (fun hCl' => ?_)
        case hy4 => ((intro w hSw; (try dsimp only at hSw); (try go_split_ands); go_simp); try with_reducible rfl)
        simp only [Act.put, List.setIfInBounds_toArray, List.set_cons_zero, List.set_cons_succ]
        replace hCl := hCl'; clear hCl'
        refine takeG (i := 9) (d := (some 68)) (v := ?v5) rfl rfl (by kernel_rfl) (by kernel_rfl) (by decide) hCl (by kernel_rfl) (by kernel_rfl) (by kernel_rfl) (fun _ _ _ h => h) (by rfl) ?hy5 (fun _ _ _ => trivial) (by assumption) (fun hCl' => ?_)
        case hy5 => ((intro w hSw; (try dsimp only at hSw); (try go_split_ands); go_simp); try with_reducible rfl)
        simp only [Act.put, List.setIfInBounds_toArray, List.set_cons_zero, List.set_cons_succ]
        replace hCl := hCl'; clear hCl'
        refine takeG (i := 11) (d := (some 70)) (v := ?v6) rfl rfl (by kernel_rfl) (by kernel_rfl) (by decide) hCl (by kernel_rfl) (by kernel_rfl) (by kernel_rfl) (fun _ _ _ h => h) (by rfl) ?hy6 (fun _ _ _ => trivial) (by assumption) (fun hCl' => ?_)
        case hy6 => ((intro w hSw; (try dsimp only at hSw); (try go_split_ands); go_simp); try with_reducible rfl)
        simp only [Act.put, List.setIfInBounds_toArray, List.set_cons_zero, List.set_cons_succ]
        replace hCl := hCl'; clear hCl'
        refine takeG (i := 16) (d := (some 75)) (v := ?v7) rfl rfl (by kernel_rfl) (by kernel_rfl) (by decide) hCl (by kernel_rfl) (by kernel_rfl) (by kernel_rfl) (fun _ _ _ h => h) (by rfl) ?hy7 (fun _ _ _ => trivial) (by assumption) (fun hCl' => ?_)
        case hy7 => ((intro w hSw; (try dsimp only at hSw); (try go_split_ands); go_simp); try with_reducible rfl)
        simp only [Act.put, List.setIfInBounds_toArray, List.set_cons_zero, List.set_cons_succ]
        replace hCl := hCl'; clear hCl'
        refine takeG (i := 19) (d := (some 78)) (v := ?v8) rfl rfl (by kernel_rfl) (by kernel_rfl) (by decide) hCl (by kernel_rfl) (by kernel_rfl) (by kernel_rfl) (fun _ _ _ h => h) (by rfl) ?hy8 (fun _ _ _ => trivial) (by assumption) (fun hCl' => ?_)
        case hy8 => ((intro w hSw; (try dsimp only at hSw); (try go_split_ands); go_simp); try with_reducible rfl)
        simp only [Act.put, List.setIfInBounds_toArray, List.set_cons_zero, List.set_cons_succ]
        replace hCl := hCl'; clear hCl'
        refine takeG (i := 21) (d := (some 80)) (v := ?v9) rfl rfl (by kernel_rfl) (by kernel_rfl) (by decide) hCl (by kernel_rfl) (by kernel_rfl) (by kernel_rfl) (fun _ _ _ h => h) (by rfl) ?hy9 (fun _ _ _ => trivial) (by assumption) (fun hCl' => ?_)
        case hy9 => ((intro w hSw; (try dsimp only at hSw); (try go_split_ands); go_simp); try with_reducible rfl)
        simp only [Act.put, List.setIfInBounds_toArray, List.set_cons_zero, List.set_cons_succ]
        replace hCl := hCl'; clear hCl'
        refine takeG (i := 26) (d := (some 85)) (v := ?v10) rfl rfl (by kernel_rfl) (by kernel_rfl) (by decide) hCl (by kernel_rfl) (by kernel_rfl) (by kernel_rfl) (fun _ _ _ h => h) (by rfl) ?hy10 (fun _ _ _ => trivial) (by assumption) (fun hCl' => ?_)
        case hy10 => ((intro w hSw; (try dsimp only at hSw); (try go_split_ands); go_simp); try with_reducible rfl)
        simp only [Act.put, List.setIfInBounds_toArray, List.set_cons_zero, List.set_cons_succ]
        replace hCl := hCl'; clear hCl'
        refine takeG (i := 1) (d := (some 60)) (v := ?v11) rfl rfl (by kernel_rfl) (by kernel_rfl) (by decide) hCl (by kernel_rfl) (by kernel_rfl) (by kernel_rfl) (fun _ _ _ h => h) (by rfl) ?hy11 (fun _ _ _ => trivial) (by assumption) (fun hCl' => ?_)
        case hy11 => ((intro w hSw; (try dsimp only at hSw); (try go_split_ands); go_simp); try with_reducible rfl)
        simp only [Act.put, List.setIfInBounds_toArray, List.set_cons_zero, List.set_cons_succ]
        replace hCl := hCl'; clear hCl'
        refine takeG (i := 4) (d := (some 63)) (v := ?v12) rfl rfl (by kernel_rfl) (by kernel_rfl) (by decide) hCl (by kernel_rfl) (by kernel_rfl) (by kernel_rfl) (fun _ _ _ h => h) (by rfl) ?hy12 (fun _ _ _ => trivial) (by assumption) (fun hCl' => ?_)
        case hy12 => ((intro w hSw; (try dsimp only at hSw); (try go_split_ands); go_simp); try with_reducible rfl)
        simp only [Act.put, List.setIfInBounds_toArray, List.set_cons_zero, List.set_cons_succ]
        replace hCl := hCl'; clear hCl'
        refine takeG (i := 10) (d := (some 69)) (v := ?v13) rfl rfl (by kernel_rfl) (by kernel_rfl) (by decide) hCl (by kernel_rfl) (by kernel_rfl) (by kernel_rfl) (fun _ _ _ h => h) (by rfl) ?hy13 (fun _ _ _ => trivial) (by assumption) (fun hCl' => ?_)
        case hy13 => ((intro w hSw; (try dsimp only at hSw); (try go_split_ands); go_simp); try with_reducible rfl)
        simp only [Act.put, List.setIfInBounds_toArray, List.set_cons_zero, List.set_cons_succ]
        replace hCl := hCl'; clear hCl'
        refine takeG (i := 20) (d := (some 79)) (v := ?v14) rfl rfl (by kernel_rfl) (by kernel_rfl) (by decide) hCl (by kernel_rfl) (by kernel_rfl) (by kernel_rfl) (fun _ _ _ h => h) (by rfl) ?hy14 (fun _ _ _ => trivial) (by assumption) (fun hCl' => ?_)
        case hy14 => ((intro w hSw; (try dsimp only at hSw); (try go_split_ands); go_simp); try with_reducible rfl)
        simp only [Act.put, List.setIfInBounds_toArray, List.set_cons_zero, List.set_cons_succ]
        replace hCl := hCl'; clear hCl'
        refine takeG (i := 6) (d := (some 65)) (v := ?v15) rfl rfl (by kernel_rfl) (by kernel_rfl) (by decide) hCl (by kernel_rfl) (by kernel_rfl) (by kernel_rfl) (fun _ _ _ h => h) (by rfl) ?hy15 (fun _ _ _ => trivial) (by assumption) (fun hCl' => ?_)
        case hy15 => ((intro w hSw; (try dsimp only at hSw); (try go_split_ands); go_simp); try with_reducible rfl)
        simp only [Act.put, List.setIfInBounds_toArray, List.set_cons_zero, List.set_cons_succ]
        replace hCl := hCl'; clear hCl'
        refine takeG (i := 12) (d := (some 71)) (v := ?v16) rfl rfl (by kernel_rfl) (by kernel_rfl) (by decide) hCl (by kernel_rfl) (by kernel_rfl) (by kernel_rfl) (fun _ _ _ h => h) (by rfl) ?hy16 (fun _ _ _ => trivial) (by assumption) (fun hCl' => ?_)
        case hy16 => ((intro w hSw; (try dsimp only at hSw); (try go_split_ands); go_simp); try with_reducible rfl)
        simp only [Act.put, List.setIfInBounds_toArray, List.set_cons_zero, List.set_cons_succ]
        replace hCl := hCl'; clear hCl'
        refine takeG (i := 22) (d := (some 81)) (v := ?v17) rfl rfl (by kernel_rfl) (by kernel_rfl) (by decide) hCl (by kernel_rfl) (by kernel_rfl) (by kernel_rfl) (fun _ _ _ h => h) (by rfl) ?hy17 (fun _ _ _ => trivial) (by assumption) (fun hCl' => ?_)
        case hy17 => ((intro w hSw; (try dsimp only at hSw); (try go_split_ands); go_simp); try with_reducible rfl)
        simp only [Act.put, List.setIfInBounds_toArray, List.set_cons_zero, List.set_cons_succ]
        replace hCl := hCl'; clear hCl'
        refine takeG (i := 7) (d := (some 66)) (v := ?v18) rfl rfl (by kernel_rfl) (by kernel_rfl) (by decide) hCl (by kernel_rfl) (by kernel_rfl) (by kernel_rfl) (fun _ _ _ h => h) (by rfl) ?hy18 (fun _ _ _ => trivial) (by assumption) (fun hCl' => ?_)
        case hy18 => ((intro w hSw; (try dsimp only at hSw); (try go_split_ands); go_simp); try with_reducible rfl)
        simp only [Act.put, List.setIfInBounds_toArray, List.set_cons_zero, List.set_cons_succ]
        replace hCl := hCl'; clear hCl'
        refine takeG (i := 13) (d := (some 72)) (v := ?v19) rfl rfl (by kernel_rfl) (by kernel_rfl) (by decide) hCl (by kernel_rfl) (by kernel_rfl) (by kernel_rfl) (fun _ _ _ h => h) (by rfl) ?hy19 (fun _ _ _ => trivial) (by assumption) (fun hCl' => ?_)
        case hy19 => ((intro w hSw; (try dsimp only at hSw); (try go_split_ands); go_simp); try with_reducible rfl)
        simp only [Act.put, List.setIfInBounds_toArray, List.set_cons_zero, List.set_cons_succ]
        replace hCl := hCl'; clear hCl'
        refine takeG (i := 23) (d := (some 82)) (v := ?v20) rfl rfl (by kernel_rfl) (by kernel_rfl) (by decide) hCl (by kernel_rfl) (by kernel_rfl) (by kernel_rfl) (fun _ _ _ h => h) (by rfl) ?hy20 (fun _ _ _ => trivial) (by assumption) (fun hCl' => ?_)
        case hy20 => ((intro w hSw; (try dsimp only at hSw); (try go_split_ands); go_simp); try with_reducible rfl)
        simp only [Act.put, List.setIfInBounds_toArray, List.set_cons_zero, List.set_cons_succ]
        replace hCl := hCl'; clear hCl'
        refine takeG (i := 8) (d := (some 67)) (v := ?v21) rfl rfl (by kernel_rfl) (by kernel_rfl) (by decide) hCl (by kernel_rfl) (by kernel_rfl) (by kernel_rfl) (fun _ _ _ h => h) (by rfl) ?hy21 (fun _ _ _ => trivial) (by assumption) (fun hCl' => ?_)
        case hy21 => ((intro w hSw; (try dsimp only at hSw); (try go_split_ands); go_simp); try with_reducible rfl)
        simp only [Act.put, List.setIfInBounds_toArray, List.set_cons_zero, List.set_cons_succ]
        replace hCl := hCl'; clear hCl'
        refine takeG (i := 14) (d := (some 73)) (v := ?v22) rfl rfl (by kernel_rfl) (by kernel_rfl) (by decide) hCl (by kernel_rfl) (by kernel_rfl) (by kernel_rfl) (fun _ _ _ h => h) (by rfl) ?hy22 (fun _ _ _ => trivial) (by assumption) (fun hCl' => ?_)
        case hy22 => ((intro w hSw; (try dsimp only at hSw); (try go_split_ands); go_simp); try with_reducible rfl)
        simp only [Act.put, List.setIfInBounds_toArray, List.set_cons_zero, List.set_cons_succ]
        replace hCl := hCl'; clear hCl'
        refine takeG (i := 24) (d := (some 83)) (v := ?v23) rfl rfl (by kernel_rfl) (by kernel_rfl) (by decide) hCl (by kernel_rfl) (by kernel_rfl) (by kernel_rfl) (fun _ _ _ h => h) (by rfl) ?hy23 (fun _ _ _ => trivial) (by assumption) (fun hCl' => ?_)
        case hy23 => ((intro w hSw; (try dsimp only at hSw); (try go_split_ands); go_simp); try with_reducible rfl)
        simp only [Act.put, List.setIfInBounds_toArray, List.set_cons_zero, List.set_cons_succ]
        replace hCl := hCl'; clear hCl'
        refine takeG (i := 15) (d := (some 74)) (v := ?v24) rfl rfl (by kernel_rfl) (by kernel_rfl) (by decide) hCl (by kernel_rfl) (by kernel_rfl) (by kernel_rfl) (fun _ _ _ h => h) (by rfl) ?hy24 (fun _ _ _ => trivial) (by assumption) (fun hCl' => ?_)
        case hy24 => ((intro w hSw; (try dsimp only at hSw); (try go_split_ands); go_simp); try with_reducible rfl)
        simp only [Act.put, List.setIfInBounds_toArray, List.set_cons_zero, List.set_cons_succ]
        replace hCl := hCl'; clear hCl'
        refine takeG (i := 25) (d := (some 84)) (v := ?v25) rfl rfl (by kernel_rfl) (by kernel_rfl) (by decide) hCl (by kernel_rfl) (by kernel_rfl) (by kernel_rfl) (fun _ _ _ h => h) (by rfl) ?hy25 (fun _ _ _ => trivial) (by assumption) (fun hCl' => ?_)
        case hy25 => ((intro w hSw; (try dsimp only at hSw); (try go_split_ands); go_simp); try with_reducible rfl)
        simp only [Act.put, List.setIfInBounds_toArray, List.set_cons_zero, List.set_cons_succ]
        replace hCl := hCl'; clear hCl'
        refine takeG (i := 17) (d := (some 76)) (v := ?v26) rfl rfl (by kernel_rfl) (by kernel_rfl) (by decide) hCl (by kernel_rfl) (by kernel_rfl) (by kernel_rfl) (fun _ _ _ h => h) (by rfl) ?hy26 (fun _ _ _ => trivial) (by assumption) (fun hCl' => ?_)
        case hy26 => ((intro w hSw; (try dsimp only at hSw); (try go_split_ands); go_simp); try with_reducible rfl)
        simp only [Act.put, List.setIfInBounds_toArray, List.set_cons_zero, List.set_cons_succ]
        replace hCl := hCl'; clear hCl'
        refine takeG (i := 27) (d := (some 86)) (v := ?v27) rfl rfl (by kernel_rfl) (by kernel_rfl) (by decide) hCl (by kernel_rfl) (by kernel_rfl) (by kernel_rfl) (fun _ _ _ h => h) (by rfl) ?hy27 (fun _ _ _ => trivial) (by assumption) (fun hCl' => ?_)
        case hy27 => ((intro w hSw; (try dsimp only at hSw); (try go_split_ands); go_simp); try with_reducible rfl)
        simp only [Act.put, List.setIfInBounds_toArray, List.set_cons_zero, List.set_cons_succ]
        replace hCl := hCl'; clear hCl'
        refine takeG (i := 18) (d := (some 77)) (v := ?v28) rfl rfl (by kernel_rfl) (by kernel_rfl) (by decide) hCl (by kernel_rfl) (by kernel_rfl) (by kernel_rfl) (fun _ _ _ h => h) (by rfl) ?hy28 (fun _ _ _ => trivial) (by assumption) (fun hCl' => ?_)
        case hy28 => ((intro w hSw; (try dsimp only at hSw); (try go_split_ands); go_simp); try with_reducible rfl)
        simp only [Act.put, List.setIfInBounds_toArray, List.set_cons_zero, List.set_cons_succ]
        replace hCl := hCl'; clear hCl'
        refine takeG (i := 28) (d := (some 87)) (v := ?v29) rfl rfl (by kernel_rfl) (by kernel_rfl) (by decide) hCl (by kernel_rfl) (by kernel_rfl) (by kernel_rfl) (fun _ _ _ h => h) (by rfl) ?hy29 (fun _ _ _ => trivial) (by assumption) (fun hCl' => ?_)
        case hy29 => ((intro w hSw; (try dsimp only at hSw); (try go_split_ands); go_simp); try with_reducible rfl)
        simp only [Act.put, List.setIfInBounds_toArray, List.set_cons_zero, List.set_cons_succ]
        replace hCl := hCl'; clear hCl'
        refine nextG (i := 29) (by kernel_rfl) rfl (by rfl) hCl (fun K hK => ?_)
        go_simp
        refine ⟨trivial, (callsIn_wide.2 (HTl.out _)).mono ?_⟩
        rintro e w6 ⟨rfl, u6⟩
        refine hK.out _ _ ⟨⟨hHeld.1.1.trans u6, u6.blk hHeld.1.2.1, u6.blk hHeld.1.2.2⟩, u6.blk hHeld.2.1, u6.blk hHeld.2.2.1, u6.cell2 hHeld.2.2.2.1, u6.cell2 hHeld.2.2.2.2.1, u6.cell2 hHeld.2.2.2.2.2⟩ (fun hHeld hCl => ?_)
        clear hK K u6 HTl
        refine takeG (i := 30) (d := (some 89)) (v := ?v31) rfl rfl (by kernel_rfl) (by kernel_rfl) (by decide) hCl (by kernel_rfl) (by kernel_rfl) (by kernel_rfl) (fun _ _ _ h => h) (by rfl) ?hy31 (fun _ _ _ => trivial) (by assumption) (fun hCl' => ?_)
        case hy31 => ((intro w hSw; (try dsimp only at hSw); (try go_split_ands); go_simp); try with_reducible rfl)
        simp only [Act.put, List.setIfInBounds_toArray, List.set_cons_zero, List.set_cons_succ]
        replace hCl := hCl'; clear hCl'
        refine takeG (i := 31) (d := (some 90)) (v := ?v32) rfl rfl (by kernel_rfl) (by kernel_rfl) (by decide) hCl (by kernel_rfl) (by kernel_rfl) (by kernel_rfl) (fun _ _ _ h => h) (by rfl) ?hy32 (fun _ _ _ => trivial) (by assumption) (fun hCl' => ?_)
        case hy32 => ((intro w hSw; (try dsimp only at hSw); (try go_split_ands); go_simp); try with_reducible rfl)
        simp only [Act.put, List.setIfInBounds_toArray, List.set_cons_zero, List.set_cons_succ]
        replace hCl := hCl'; clear hCl'
        obtain ⟨⟨V, q3, qr⟩, q2, q5, _⟩ := hHeld
        have zf := frozB qr
        obtain ⟨y0, y1, y2⟩ := S.flat_at ls k hkl
        have old : ∀ m u, m < ls.length * 3 → (S.flat ls)[m]? = some u → w6.cell? ⟨g2, m, none⟩ = some u := fun m u hm h => by
          rw [← htk, List.getElem?_take_of_lt hm, Array.getElem?_toList] at h
          rw [cellB qr]
          exact h
        have c0 := old _ _ (by omega) y0
        have c1 := old _ _ (by omega) y1
        have c2 := old _ _ (by omega) y2
        clear hCl old y0 y1 y2
        generalize ls.getD k (0, 0, 0) = z9 at c0 c1 c2
        have n01 : ¬ k * 3 = k * 3 + 1 := by omega
        have n02 : ¬ k * 3 = k * 3 + 2 := by omega
        have n12 : ¬ k * 3 + 1 = k * 3 + 2 := by omega
        refine lastG (i := 32) (by kernel_rfl) rfl (by rfl) (by decide) (fun K hK => ?_)
        go_simp
        have U7 := ((V.set (p := ⟨g2, k * 3, none⟩) (show w.heap.size ≤ g2 by omega) (.int .i64 lt)).set (p := ⟨g2, k * 3 + 1, none⟩) (show w.heap.size ≤ g2 by omega) (.int .i64 nl)).set (p := ⟨g2, k * 3 + 2, none⟩) (show w.heap.size ≤ g2 by omega) (.int .i64 nh)
        have j2 : mblk (((w6.setCell ⟨g2, k * 3, none⟩ (.int .i64 lt)).setCell ⟨g2, k * 3 + 1, none⟩ (.int .i64 nl)).setCell ⟨g2, k * 3 + 2, none⟩ (.int .i64 nh)) w.heap.size = some (.cells (BC f s j dl dh ticks (.slice a n c) (.slice (some ⟨g, off, none⟩) ls.length c')) 44 (0, 0)) := by rw [blk_set _ _ _ _ (by show w.heap.size ≠ g2; omega), blk_set _ _ _ _ (by show w.heap.size ≠ g2; omega), blk_set _ _ _ _ (by show w.heap.size ≠ g2; omega)]; exact q2
        have j3 : mblk (((w6.setCell ⟨g2, k * 3, none⟩ (.int .i64 lt)).setCell ⟨g2, k * 3 + 1, none⟩ (.int .i64 nl)).setCell ⟨g2, k * 3 + 2, none⟩ (.int .i64 nh)) (w.heap.size + 1) = some (.cells #[.int .i64 n0, .int .i64 n1, .int .i64 n2, .int .i64 n3] 65 (0, 0)) := by rw [blk_set _ _ _ _ (by show w.heap.size + 1 ≠ g2; omega), blk_set _ _ _ _ (by show w.heap.size + 1 ≠ g2; omega), blk_set _ _ _ _ (by show w.heap.size + 1 ≠ g2; omega)]; exact q3
        have j5 : mblk (((w6.setCell ⟨g2, k * 3, none⟩ (.int .i64 lt)).setCell ⟨g2, k * 3 + 1, none⟩ (.int .i64 nl)).setCell ⟨g2, k * 3 + 2, none⟩ (.int .i64 nh)) p5 = some (.cells (BC f s j dl dh ticks (.slice a n c) (.slice (some ⟨g2, 0, none⟩) ls.length cap)) 44 (0, 0)) := by rw [blk_set _ _ _ _ (by show p5 ≠ g2; omega), blk_set _ _ _ _ (by show p5 ≠ g2; omega), blk_set _ _ _ _ (by show p5 ≠ g2; omega)]; exact q5
        have LK := lks_set (blk_put (blk_put (blk_put qr (k * 3) (.int .i64 lt)) (k * 3 + 1) (.int .i64 nl)) (k * 3 + 2) (.int .i64 nh)) hkl hcap hl10 hcs htk
        obtain ⟨W7, hW7⟩ : ∃ W, ((w6.setCell ⟨g2, k * 3, none⟩ (.int .i64 lt)).setCell ⟨g2, k * 3 + 1, none⟩ (.int .i64 nl)).setCell ⟨g2, k * 3 + 2, none⟩ (.int .i64 nh) = W := ⟨_, rfl⟩
        rw [hW7] at U7 j2 j3 j5 LK
        try rw [hW7]
        refine hK.out _ _ ?_
        clear hK K hW7 V q2 q3 q5 qr zf c0 c1 c2 n01 n02 n12 htk
        have k2 := j2
        have k3 := j3
        have m5 := j5
        have U0 := U7
        have HX := Lib.hid (fun w' (u : Up W7 w') => Error_any (f := f) (s := s) (j := j) (dl := dl) (dh := dh) (ticks := ticks) (HI.out _ (U0.trans u)) (LK.up u) t)
        clear j2 j3 j5 U7
        refine doneG (by kernel_rfl) ?_ _
        refine S.nrm_intro ?_
        go_wp2_with fail
        refine (HR3.out _).mono ?_
        rintro e w5 ⟨rfl, rfl⟩
        clear HR3 wt
        go_wp2_with fail
        refine (HE.out _ U0).mono ?_
        rintro e w6 ⟨l, h, r, rfl, T1, u6⟩
        have m9 := blk_new w6 (.cells #[.int .i64 l, .int .i64 h] 23) _ rfl
        have l5 := blk_lt (u6.blk m5)
        replace m5 := blk_keep (.cells #[.int .i64 l, .int .i64 h] 23) (u6.blk m5)
        replace U0 := (U0.trans u6).alloc (.cells #[.int .i64 l, .int .i64 h] 23)
        have HE2 := Lib.hid (HX.out _ (u6.alloc (.cells #[.int .i64 l, .int .i64 h] 23)))
        clear u6 HE k2 k3 HX
        obtain ⟨p9, hp9⟩ : ∃ p, w6.heap.size = p := ⟨_, rfl⟩
        obtain ⟨W6, hW6⟩ : ∃ W, w6.alloc (.cells #[.int .i64 l, .int .i64 h] 23) = W := ⟨_, rfl⟩
        rw [hp9] at m9
        rw [hW6] at m9 m5 U0 HE2
        have HT1 := Lib.hid T1
        clear T1
        go_wp2_with fail
        clear hp9 hW6 l5
        refine HE2.out.mono ?_
        rintro e w7 ⟨l', h', r', rfl, T2, u7⟩
        have m11 := blk_new w7 (.cells #[.int .i64 l', .int .i64 h'] 23) _ rfl
        have l9 := blk_lt (u7.blk m9)
        replace m9 := blk_keep (.cells #[.int .i64 l', .int .i64 h'] 23) (u7.blk m9)
        replace U0 := (U0.trans u7).alloc (.cells #[.int .i64 l', .int .i64 h'] 23)
        clear u7 HE2 m5
        have key := Hid.out HT1 |>.wider T2 hb hb2 ⟨t1, by omega⟩ hwid
        clear T2 HT1
        rcases key with ⟨rfl, rfl | rfl⟩ | ⟨rfl, rfl, q1, q2⟩
        · go_wp2_with fail
          refine (HW.out _).mono ?_
          rintro e w8 ⟨rfl, u8⟩
          go_wp2
          go_ret
          exact ⟨rfl, U0.trans u8⟩
        · go_wp2_with fail
          refine (HW.out _).mono ?_
          rintro e w8 ⟨rfl, u8⟩
          go_wp2
          go_ret
          exact ⟨rfl, U0.trans u8⟩
        · have HWi := Lib.hid (fun w => show Calls Try.prog 45 #[SpV l h, SpV l' h'] w fun e w' => e = .returned (.bool true) ∧ Up w w' by rw [← decide_eq_true (show l' ≤ l ∧ h ≤ h' from ⟨q1, q2⟩)]; exact B_Within_any _ _ _ _ w)
          go_wp2_with fail
          refine (HWi.out _).mono ?_
          rintro e w8 ⟨rfl, u8⟩
          go_wp2_with fail
          refine (HW.out _).mono ?_
          rintro e w9 ⟨rfl, u9⟩
          go_wp2
          go_ret
          exact ⟨rfl, (U0.trans u8).trans u9⟩
end

end Go.Proofs.Ytckjggkikpgidaa
