import Derived.Test.YtcadpdbadgejfaaMor
/- The law ScaleMore. -/
namespace Go.Proofs.Ytcadpdbadgejfaa
open Go.RowKit

section
variable {f s j dl dh ticks : Int} {a a' : Option Addr} {n c n' c' : Nat} {xs : List Int} {ls : List (Int × Int × Int)}
set_option maxRecDepth 100000 in
set_option maxHeartbeats 16000000 in
set_option linter.unusedSimpArgs false in
theorem scaleMore_any (mt ml mh z : Int) {w : World} (I : Ints w (.slice a n c) xs) (I' : Lks w (.slice a' n' c') ls) : Calls Try.prog 13 #[BV f s j dl dh ticks (.slice a n c) (.slice a' n' c'), LV mt ml mh, .int .i64 z] w fun e w' => e = .returned (.bool true) ∧ Up w w' := by
  have U0 := ((Up.refl w).alloc (.cells (BC f s j dl dh ticks (.slice a n c) (.slice a' n' c')) 44)).alloc (.cells #[.int .i64 mt, .int .i64 ml, .int .i64 mh] 71)
  have k3 := blk_keep (.cells #[.int .i64 mt, .int .i64 ml, .int .i64 mh] 71) (blk_new w (.cells (BC f s j dl dh ticks (.slice a n c) (.slice a' n' c')) 44) _ rfl)
  have k4 := blk_new (w.alloc (.cells (BC f s j dl dh ticks (.slice a n c) (.slice a' n' c')) 44)) (.cells #[.int .i64 mt, .int .i64 ml, .int .i64 mh] 71) (w.heap.size + 1) (by simp)
  have HW := Lib.hid (fun w => l_works_any w)
  have HS := Lib.hid (fun w' (u : Up w w') => l_sound_any (f := f) (s := s) (j := j) (dl := dl) (dh := dh) (ticks := ticks) (I.up u) (I'.up u))
  cases hb : S.bookOk f s j dl dh ticks xs ls with
  | false =>
    rw [hb] at HS
    clear hb I I'
    go_enter Try.func13, Try.ntmps13
    go_wp2_with fail
    refine (HS.out _ U0).mono ?_
    rintro e w1 ⟨rfl, u1⟩
    replace k3 := u1.blk k3
    replace k4 := u1.blk k4
    replace U0 := U0.trans u1
    clear u1 HS
    go_wp2_with fail
    refine (HW.out _).mono ?_
    rintro e w2 ⟨rfl, u9⟩
    go_wp2
    go_ret
    exact ⟨rfl, U0.trans u9⟩
  | true =>
    rw [hb] at HS
    obtain ⟨g1, ⟨g2, g3⟩, ⟨g4, g5⟩, g6, g7⟩ := S.bookOk_iff.1 hb
    have hln' : n' = ls.length := I'.len.1
    by_cases hl10 : ls.length = 10
    · obtain rfl : n' = 10 := by omega
      clear hb I I' g1 g4 g5 g6 g7 hl10 hln'
      go_enter Try.func13, Try.ntmps13
      go_wp2_with fail
      refine (HS.out _ U0).mono ?_
      rintro e w1 ⟨rfl, u1⟩
      replace k3 := u1.blk k3
      replace k4 := u1.blk k4
      replace U0 := U0.trans u1
      clear u1 HS
      go_wp2_with fail
      refine (HW.out _).mono ?_
      rintro e w2 ⟨rfl, u9⟩
      go_wp2
      go_ret
      exact ⟨rfl, U0.trans u9⟩
    · subst hln'
      have h10 : ((ls.length : Int) == 10) = false := by simpa using (by omega : ¬ (ls.length : Int) = 10)
      have h10' : ¬ (ls.length : Int) = 10 := by omega
      have hl9 : ls.length ≤ 9 := by omega
      have HR := Lib.hid (fun w => B_Rest_any z ticks w (by omega) (by omega))
      have t1 := Int.emod_nonneg z (b := ticks) (by omega)
      have t2 := Int.emod_lt_of_pos z (b := ticks) (by omega)
      obtain ⟨t, ht⟩ : ∃ k : Nat, z % ticks = k := ⟨(z % ticks).toNat, by omega⟩
      rw [ht] at HR t1 t2
      clear ht
      have HE := Lib.hid (fun w' (u : Up w w') (k : Int) => Error_any (f := f) (s := s) (j := j) (dl := dl) (dh := dh) (ticks := ticks) (I.up u) (I'.up u) k)
      have HI := Lib.hid (fun w' (u : Up w w') => I.up u)
      have HI' := Lib.hid (fun w' (u : Up w w') => I'.up u)
      have HB1 := Lib.hid hb
      have HLn := Lib.hid I.len
      have HB2 := Lib.hid (fun ys (hy : ∀ y ∈ ys, y ∈ ls) (hl : ys.length ≤ 10) => show S.bookOk f s j dl dh ticks xs ys = true from S.book_looks hb hl (fun y h => List.all_eq_true.1 g7 _ (hy y h)))
      obtain ⟨⟨f1, f2⟩, ⟨s1, s2⟩, j1, d1, d2, d3⟩ := S.ok_iff.1 g1
      have HXs := Lib.hid (fun k (hk : k < xs.length) => S.keeps_bd xs 0 g5 k hk)
      clear g1 g5 g6 g7 I I' hb j1 hl10
      go_enter Try.func13, Try.ntmps13
      go_wp2_with fail
      refine (HS.out _ U0).mono ?_
      rintro e w1 ⟨rfl, u1⟩
      replace k3 := u1.blk k3
      replace k4 := u1.blk k4
      replace U0 := U0.trans u1
      clear u1 HS
      go_wp2_with fail
      refine (HR.out _).mono ?_
      rintro e w2 ⟨rfl, rfl⟩
      clear HR
      go_wp2_with fail
      apply S.mergeA (fun w' p8 p9 => Up w w' ∧ mblk w' w.heap.size = some (.cells (BC f s j dl dh ticks (.slice a n c) (.slice a' ls.length c')) 44 (0, 0)) ∧ mblk w' (w.heap.size + 1) = some (.cells #[.int .i64 mt, .int .i64 ml, .int .i64 mh] 71 (0, 0)) ∧ mblk w' p8 = some (.cells (BC f s j dl dh ticks (.slice a n c) (.slice a' ls.length c')) 44 (0, 0)) ∧ mblk w' p9 = some (.cells (BC f s j dl dh ticks (.slice a n c) (.slice a' ls.length c')) 44 (0, 0)) ∧ p8 ≠ p9 ∧ w.heap.size + 1 < p8 ∧ w.heap.size + 1 < p9)
      · intro HKey
        refine (wpIn_wide (n := 5)).1 ?_
        refine wpIn_nrm ?_
        refine regionG (fun w' => Up w w' ∧ mblk w' w.heap.size = some (.cells (BC f s j dl dh ticks (.slice a n c) (.slice a' ls.length c')) 44 (0, 0)) ∧ mblk w' (w.heap.size + 1) = some (.cells #[.int .i64 mt, .int .i64 ml, .int .i64 mh] 71 (0, 0))) 5 (by kernel_rfl) ⟨U0.drew, by rw [blk_drew]; exact k3, by rw [blk_drew]; exact k4⟩ (fun hHeld hCl => ?_)
        refine takeG (i := 0) (d := (some 33)) (v := ?v1) rfl rfl (by kernel_rfl) (by kernel_rfl) (by decide) hCl (by kernel_rfl) (by kernel_rfl) (by kernel_rfl) (fun _ _ _ h => h) (by rfl) ?hy1 (fun _ _ _ => trivial) (by assumption) (fun hCl' => ?_)
        case hy1 => ((intro w hSw; (try dsimp only at hSw); (try go_split_ands); go_simp); try with_reducible rfl)
        simp only [Act.put, List.setIfInBounds_toArray, List.set_cons_zero, List.set_cons_succ]
        replace hCl := hCl'; clear hCl'
        refine takeG (i := 1) (d := (some 34)) (v := ?v2) rfl rfl (by kernel_rfl) (by kernel_rfl) (by decide) hCl (by kernel_rfl) (by kernel_rfl) (by kernel_rfl) (fun _ _ _ h => h) (by rfl) ?hy2 (fun _ _ _ => trivial) (by assumption) (fun hCl' => ?_)
        case hy2 => ((intro w hSw; (try dsimp only at hSw); (try go_split_ands); go_simp); try with_reducible rfl)
        simp only [Act.put, List.setIfInBounds_toArray, List.set_cons_zero, List.set_cons_succ]
        replace hCl := hCl'; clear hCl'
        refine nextG2 (i := 2) (j := 3) (by kernel_rfl) rfl rfl (by rfl) (by rfl) hCl ?_ ?_
        · skip
          refine (fun K hK => ?_)
          go_simp
          have A1 : Up w1 (w1.alloc (.cells BCZ 44)).drew := Up.drew (Up.alloc (Up.refl w1) _)
          have z1 : mblk (w1.alloc (.cells BCZ 44)).drew w1.heap.size = some (.cells BCZ 44 (0, 0)) := by rw [blk_drew]; exact blk_new _ _ _ rfl
          obtain ⟨p8, hpx⟩ : ∃ q, w1.heap.size = q := ⟨_, rfl⟩
          obtain ⟨X1, hX1⟩ : ∃ X, (w1.alloc (.cells BCZ 44)).drew = X := ⟨_, rfl⟩
          rw [hX1] at A1 z1
          rw [hpx] at z1
          try rw [hX1]
          try rw [hpx]
          refine hK.out _ _ ⟨U0.trans A1, Up.blk A1 k3, Up.blk A1 k4⟩ (fun _ hCl => ?_)
          clear hK K hX1
          try simp only [Act.put, List.setIfInBounds_toArray, List.set_cons_zero, List.set_cons_succ]
          refine nextG (i := 3) (by kernel_rfl) rfl (by rfl) hCl (fun K hK => ?_)
          go_simp
          have A2 := Up.alloc A1 (.cells BCZ 44)
          have z2 := blk_keep (.cells BCZ 44) z1
          have y2 := blk_new X1 (.cells BCZ 44) _ rfl
          have hlt : p8 < X1.heap.size := blk_lt z1
          obtain ⟨p9, hpy⟩ : ∃ q, X1.heap.size = q := ⟨_, rfl⟩
          obtain ⟨X2, hX2⟩ : ∃ X, X1.alloc (.cells BCZ 44) = X := ⟨_, rfl⟩
          rw [hX2] at A2 z2 y2
          rw [hpy] at y2 hlt
          try rw [hX2]
          try rw [hpy]
          refine hK.out _ _ ⟨U0.trans A2, Up.blk A2 k3, Up.blk A2 k4⟩ (fun _ hCl => ?_)
          clear hK K hX2 A1 z1
          try simp only [Act.put, List.setIfInBounds_toArray, List.set_cons_zero, List.set_cons_succ]
          have g8 : mblk X2 p8 = some (.cells BCZ 44 (0, 0)) := z2
          have g9 : mblk X2 p9 = some (.cells BCZ 44 (0, 0)) := y2
          have gk3 := Up.blk A2 k3
          have gk4 := Up.blk A2 k4
          have U2 := U0.trans A2
          have hlw : w.heap.size + 1 < w1.heap.size := blk_lt k4
          have h8 : w.heap.size + 1 < p8 := by omega
          have h9 : w.heap.size + 1 < p9 := by omega
          have h89 : p8 ≠ p9 := by omega
          clear z2 y2 A2 hpx hpy hlt
          have zf := frozB g8
          refine nextG (i := 4) (by kernel_rfl) rfl (by rfl) hCl (fun K hK => ?_)
          go_simp
          obtain ⟨X3, hY⟩ : ∃ X, (((((((((((((((X2.setCell ⟨p8, 0, none⟩ (.int .i64 f))).setCell ⟨p8, 1, none⟩ (.int .i64 s))).setCell ⟨p8, 2, none⟩ (.int .i64 j))).setCell ⟨p8, 3, none⟩ (.int .i64 dl))).setCell ⟨p8, 4, none⟩ (.int .i64 dh))).setCell ⟨p8, 5, none⟩ (.int .i64 ticks))).setCell ⟨p8, 6, none⟩ (.slice a n c))).setCell ⟨p8, 7, none⟩ (.slice a' ls.length c')) = X := ⟨_, rfl⟩
          have U3 : Up w X3 := by rw [← hY]; exact Up.put8 U2 (show w.heap.size ≤ p8 by omega) (.int .i64 f) (.int .i64 s) (.int .i64 j) (.int .i64 dl) (.int .i64 dh) (.int .i64 ticks) (.slice a n c) (.slice a' ls.length c')
          have j8 : mblk X3 p8 = some (.cells (BC f s j dl dh ticks (.slice a n c) (.slice a' ls.length c')) 44 (0, 0)) := by rw [← hY]; exact put8_same g8 (.int .i64 f) (.int .i64 s) (.int .i64 j) (.int .i64 dl) (.int .i64 dh) (.int .i64 ticks) (.slice a n c) (.slice a' ls.length c')
          have j9 : mblk X3 p9 = some (.cells BCZ 44 (0, 0)) := by rw [← hY]; exact (put8_other X2 (show p9 ≠ p8 by omega) (.int .i64 f) (.int .i64 s) (.int .i64 j) (.int .i64 dl) (.int .i64 dh) (.int .i64 ticks) (.slice a n c) (.slice a' ls.length c')).trans g9
          have jk3 : mblk X3 w.heap.size = some (.cells (BC f s j dl dh ticks (.slice a n c) (.slice a' ls.length c')) 44 (0, 0)) := by rw [← hY]; exact (put8_other X2 (show w.heap.size ≠ p8 by omega) (.int .i64 f) (.int .i64 s) (.int .i64 j) (.int .i64 dl) (.int .i64 dh) (.int .i64 ticks) (.slice a n c) (.slice a' ls.length c')).trans gk3
          have jk4 : mblk X3 (w.heap.size + 1) = some (.cells #[.int .i64 mt, .int .i64 ml, .int .i64 mh] 71 (0, 0)) := by rw [← hY]; exact (put8_other X2 (show w.heap.size + 1 ≠ p8 by omega) (.int .i64 f) (.int .i64 s) (.int .i64 j) (.int .i64 dl) (.int .i64 dh) (.int .i64 ticks) (.slice a n c) (.slice a' ls.length c')).trans gk4
          try rw [hY]
          refine hK.out _ _ ⟨U3, jk3, jk4⟩ (fun _ hCl => ?_)
          clear hK K hY zf U2 g8 g9 gk3 gk4
          try simp only [Act.put, List.setIfInBounds_toArray, List.set_cons_zero, List.set_cons_succ]
          have U2 := U3
          have g8 := j8
          have g9 := j9
          have gk3 := jk3
          have gk4 := jk4
          clear U3 j8 j9 jk3 jk4 hCl
          have zf := frozB g9
          refine lastG (i := 5) (by kernel_rfl) rfl (by rfl) (by decide) (fun K hK => ?_)
          go_simp
          obtain ⟨X4, hY⟩ : ∃ X, (((((((((((((((X3.setCell ⟨p9, 0, none⟩ (.int .i64 f))).setCell ⟨p9, 1, none⟩ (.int .i64 s))).setCell ⟨p9, 2, none⟩ (.int .i64 j))).setCell ⟨p9, 3, none⟩ (.int .i64 dl))).setCell ⟨p9, 4, none⟩ (.int .i64 dh))).setCell ⟨p9, 5, none⟩ (.int .i64 ticks))).setCell ⟨p9, 6, none⟩ (.slice a n c))).setCell ⟨p9, 7, none⟩ (.slice a' ls.length c')) = X := ⟨_, rfl⟩
          have U3 : Up w X4 := by rw [← hY]; exact Up.put8 U2 (show w.heap.size ≤ p9 by omega) (.int .i64 f) (.int .i64 s) (.int .i64 j) (.int .i64 dl) (.int .i64 dh) (.int .i64 ticks) (.slice a n c) (.slice a' ls.length c')
          have j8 : mblk X4 p8 = some (.cells (BC f s j dl dh ticks (.slice a n c) (.slice a' ls.length c')) 44 (0, 0)) := by rw [← hY]; exact (put8_other X3 (show p8 ≠ p9 by omega) (.int .i64 f) (.int .i64 s) (.int .i64 j) (.int .i64 dl) (.int .i64 dh) (.int .i64 ticks) (.slice a n c) (.slice a' ls.length c')).trans g8
          have j9 : mblk X4 p9 = some (.cells (BC f s j dl dh ticks (.slice a n c) (.slice a' ls.length c')) 44 (0, 0)) := by rw [← hY]; exact put8_same g9 (.int .i64 f) (.int .i64 s) (.int .i64 j) (.int .i64 dl) (.int .i64 dh) (.int .i64 ticks) (.slice a n c) (.slice a' ls.length c')
          have jk3 : mblk X4 w.heap.size = some (.cells (BC f s j dl dh ticks (.slice a n c) (.slice a' ls.length c')) 44 (0, 0)) := by rw [← hY]; exact (put8_other X3 (show w.heap.size ≠ p9 by omega) (.int .i64 f) (.int .i64 s) (.int .i64 j) (.int .i64 dl) (.int .i64 dh) (.int .i64 ticks) (.slice a n c) (.slice a' ls.length c')).trans gk3
          have jk4 : mblk X4 (w.heap.size + 1) = some (.cells #[.int .i64 mt, .int .i64 ml, .int .i64 mh] 71 (0, 0)) := by rw [← hY]; exact (put8_other X3 (show w.heap.size + 1 ≠ p9 by omega) (.int .i64 f) (.int .i64 s) (.int .i64 j) (.int .i64 dl) (.int .i64 dh) (.int .i64 ticks) (.slice a n c) (.slice a' ls.length c')).trans gk4
          try rw [hY]
          refine hK.out _ _ ?_
          clear hK K hY
          refine doneG (by kernel_rfl) ?_ _
          refine S.nrm_intro ?_
          exact HKey.out _ p8 p9 ⟨U3, jk3, jk4, j8, j9, h89, h8, h9⟩
        · skip
          refine (fun K hK => ?_)
          go_simp
          have A1 : Up w1 (w1.alloc (.cells BCZ 44)).drew := Up.drew (Up.alloc (Up.refl w1) _)
          have z1 : mblk (w1.alloc (.cells BCZ 44)).drew w1.heap.size = some (.cells BCZ 44 (0, 0)) := by rw [blk_drew]; exact blk_new _ _ _ rfl
          obtain ⟨p9, hpx⟩ : ∃ q, w1.heap.size = q := ⟨_, rfl⟩
          obtain ⟨X1, hX1⟩ : ∃ X, (w1.alloc (.cells BCZ 44)).drew = X := ⟨_, rfl⟩
          rw [hX1] at A1 z1
          rw [hpx] at z1
          try rw [hX1]
          try rw [hpx]
          refine hK.out _ _ ⟨U0.trans A1, Up.blk A1 k3, Up.blk A1 k4⟩ (fun _ hCl => ?_)
          clear hK K hX1
          try simp only [Act.put, List.setIfInBounds_toArray, List.set_cons_zero, List.set_cons_succ]
          refine nextG (i := 2) (by kernel_rfl) rfl (by rfl) hCl (fun K hK => ?_)
          go_simp
          have A2 := Up.alloc A1 (.cells BCZ 44)
          have z2 := blk_keep (.cells BCZ 44) z1
          have y2 := blk_new X1 (.cells BCZ 44) _ rfl
          have hlt : p9 < X1.heap.size := blk_lt z1
          obtain ⟨p8, hpy⟩ : ∃ q, X1.heap.size = q := ⟨_, rfl⟩
          obtain ⟨X2, hX2⟩ : ∃ X, X1.alloc (.cells BCZ 44) = X := ⟨_, rfl⟩
          rw [hX2] at A2 z2 y2
          rw [hpy] at y2 hlt
          try rw [hX2]
          try rw [hpy]
          refine hK.out _ _ ⟨U0.trans A2, Up.blk A2 k3, Up.blk A2 k4⟩ (fun _ hCl => ?_)
          clear hK K hX2 A1 z1
          try simp only [Act.put, List.setIfInBounds_toArray, List.set_cons_zero, List.set_cons_succ]
          have g8 : mblk X2 p8 = some (.cells BCZ 44 (0, 0)) := y2
          have g9 : mblk X2 p9 = some (.cells BCZ 44 (0, 0)) := z2
          have gk3 := Up.blk A2 k3
          have gk4 := Up.blk A2 k4
          have U2 := U0.trans A2
          have hlw : w.heap.size + 1 < w1.heap.size := blk_lt k4
          have h8 : w.heap.size + 1 < p8 := by omega
          have h9 : w.heap.size + 1 < p9 := by omega
          have h89 : p8 ≠ p9 := by omega
          clear z2 y2 A2 hpx hpy hlt
          have zf := frozB g8
          refine nextG (i := 4) (by kernel_rfl) rfl (by rfl) hCl (fun K hK => ?_)
          go_simp
          obtain ⟨X3, hY⟩ : ∃ X, (((((((((((((((X2.setCell ⟨p8, 0, none⟩ (.int .i64 f))).setCell ⟨p8, 1, none⟩ (.int .i64 s))).setCell ⟨p8, 2, none⟩ (.int .i64 j))).setCell ⟨p8, 3, none⟩ (.int .i64 dl))).setCell ⟨p8, 4, none⟩ (.int .i64 dh))).setCell ⟨p8, 5, none⟩ (.int .i64 ticks))).setCell ⟨p8, 6, none⟩ (.slice a n c))).setCell ⟨p8, 7, none⟩ (.slice a' ls.length c')) = X := ⟨_, rfl⟩
          have U3 : Up w X3 := by rw [← hY]; exact Up.put8 U2 (show w.heap.size ≤ p8 by omega) (.int .i64 f) (.int .i64 s) (.int .i64 j) (.int .i64 dl) (.int .i64 dh) (.int .i64 ticks) (.slice a n c) (.slice a' ls.length c')
          have j8 : mblk X3 p8 = some (.cells (BC f s j dl dh ticks (.slice a n c) (.slice a' ls.length c')) 44 (0, 0)) := by rw [← hY]; exact put8_same g8 (.int .i64 f) (.int .i64 s) (.int .i64 j) (.int .i64 dl) (.int .i64 dh) (.int .i64 ticks) (.slice a n c) (.slice a' ls.length c')
          have j9 : mblk X3 p9 = some (.cells BCZ 44 (0, 0)) := by rw [← hY]; exact (put8_other X2 (show p9 ≠ p8 by omega) (.int .i64 f) (.int .i64 s) (.int .i64 j) (.int .i64 dl) (.int .i64 dh) (.int .i64 ticks) (.slice a n c) (.slice a' ls.length c')).trans g9
          have jk3 : mblk X3 w.heap.size = some (.cells (BC f s j dl dh ticks (.slice a n c) (.slice a' ls.length c')) 44 (0, 0)) := by rw [← hY]; exact (put8_other X2 (show w.heap.size ≠ p8 by omega) (.int .i64 f) (.int .i64 s) (.int .i64 j) (.int .i64 dl) (.int .i64 dh) (.int .i64 ticks) (.slice a n c) (.slice a' ls.length c')).trans gk3
          have jk4 : mblk X3 (w.heap.size + 1) = some (.cells #[.int .i64 mt, .int .i64 ml, .int .i64 mh] 71 (0, 0)) := by rw [← hY]; exact (put8_other X2 (show w.heap.size + 1 ≠ p8 by omega) (.int .i64 f) (.int .i64 s) (.int .i64 j) (.int .i64 dl) (.int .i64 dh) (.int .i64 ticks) (.slice a n c) (.slice a' ls.length c')).trans gk4
          try rw [hY]
          refine hK.out _ _ ⟨U3, jk3, jk4⟩ (fun _ hCl => ?_)
          clear hK K hY zf U2 g8 g9 gk3 gk4
          try simp only [Act.put, List.setIfInBounds_toArray, List.set_cons_zero, List.set_cons_succ]
          have U2 := U3
          have g8 := j8
          have g9 := j9
          have gk3 := jk3
          have gk4 := jk4
          clear U3 j8 j9 jk3 jk4 hCl
          have zf := frozB g9
          refine lastG (i := 5) (by kernel_rfl) rfl (by rfl) (by decide) (fun K hK => ?_)
          go_simp
          obtain ⟨X4, hY⟩ : ∃ X, (((((((((((((((X3.setCell ⟨p9, 0, none⟩ (.int .i64 f))).setCell ⟨p9, 1, none⟩ (.int .i64 s))).setCell ⟨p9, 2, none⟩ (.int .i64 j))).setCell ⟨p9, 3, none⟩ (.int .i64 dl))).setCell ⟨p9, 4, none⟩ (.int .i64 dh))).setCell ⟨p9, 5, none⟩ (.int .i64 ticks))).setCell ⟨p9, 6, none⟩ (.slice a n c))).setCell ⟨p9, 7, none⟩ (.slice a' ls.length c')) = X := ⟨_, rfl⟩
          have U3 : Up w X4 := by rw [← hY]; exact Up.put8 U2 (show w.heap.size ≤ p9 by omega) (.int .i64 f) (.int .i64 s) (.int .i64 j) (.int .i64 dl) (.int .i64 dh) (.int .i64 ticks) (.slice a n c) (.slice a' ls.length c')
          have j8 : mblk X4 p8 = some (.cells (BC f s j dl dh ticks (.slice a n c) (.slice a' ls.length c')) 44 (0, 0)) := by rw [← hY]; exact (put8_other X3 (show p8 ≠ p9 by omega) (.int .i64 f) (.int .i64 s) (.int .i64 j) (.int .i64 dl) (.int .i64 dh) (.int .i64 ticks) (.slice a n c) (.slice a' ls.length c')).trans g8
          have j9 : mblk X4 p9 = some (.cells (BC f s j dl dh ticks (.slice a n c) (.slice a' ls.length c')) 44 (0, 0)) := by rw [← hY]; exact put8_same g9 (.int .i64 f) (.int .i64 s) (.int .i64 j) (.int .i64 dl) (.int .i64 dh) (.int .i64 ticks) (.slice a n c) (.slice a' ls.length c')
          have jk3 : mblk X4 w.heap.size = some (.cells (BC f s j dl dh ticks (.slice a n c) (.slice a' ls.length c')) 44 (0, 0)) := by rw [← hY]; exact (put8_other X3 (show w.heap.size ≠ p9 by omega) (.int .i64 f) (.int .i64 s) (.int .i64 j) (.int .i64 dl) (.int .i64 dh) (.int .i64 ticks) (.slice a n c) (.slice a' ls.length c')).trans gk3
          have jk4 : mblk X4 (w.heap.size + 1) = some (.cells #[.int .i64 mt, .int .i64 ml, .int .i64 mh] 71 (0, 0)) := by rw [← hY]; exact (put8_other X3 (show w.heap.size + 1 ≠ p9 by omega) (.int .i64 f) (.int .i64 s) (.int .i64 j) (.int .i64 dl) (.int .i64 dh) (.int .i64 ticks) (.slice a n c) (.slice a' ls.length c')).trans gk4
          try rw [hY]
          refine hK.out _ _ ?_
          clear hK K hY
          refine doneG (by kernel_rfl) ?_ _
          refine S.nrm_intro ?_
          exact HKey.out _ p8 p9 ⟨U3, jk3, jk4, j8, j9, h89, h8, h9⟩
      intro W4 p8 p9 ⟨U4, k34, k44, x8, x9, h89, h8, h9⟩
      clear U0 k3 k4
      go_wp2_with fail
      apply S.mergeB (fun w' q0 v1 q5 g2 cap => Up w w' ∧ mblk w' w.heap.size = some (.cells (BC f s j dl dh ticks (.slice a n c) (.slice a' ls.length c')) 44 (0, 0)) ∧ mblk w' p8 = some (.cells (BC f s j dl dh ticks (.slice a n c) (.slice (some ⟨g2, 0, none⟩) (ls.length + 1) cap)) 44 (0, 0)) ∧ mblk w' p9 = some (.cells (BC f s j dl dh ticks (.slice a n c) (.slice a' ls.length c')) 44 (0, 0)) ∧ ls.length + 1 ≤ cap ∧ cap ≤ maxLen ∧ g2 ≠ p9 ∧ g2 ≠ p8 ∧ ∃ curx : Array Value, mblk w' g2 = some (.cells curx 71 (0, 0)) ∧ curx.size = cap * 3 ∧ curx.toList.take ((ls.length + 1) * 3) = S.flat (ls ++ [(mt, ml, mh)]))
      · intro HKey
        refine (wpIn_wide (n := 5)).1 ?_
        refine wpIn_nrm ?_
        refine regionG (fun w' => Up w w' ∧ mblk w' w.heap.size = some (.cells (BC f s j dl dh ticks (.slice a n c) (.slice a' ls.length c')) 44 (0, 0)) ∧ mblk w' (w.heap.size + 1) = some (.cells #[.int .i64 mt, .int .i64 ml, .int .i64 mh] 71 (0, 0)) ∧ mblk w' p8 = some (.cells (BC f s j dl dh ticks (.slice a n c) (.slice a' ls.length c')) 44 (0, 0)) ∧ mblk w' p9 = some (.cells (BC f s j dl dh ticks (.slice a n c) (.slice a' ls.length c')) 44 (0, 0))) 8 (by kernel_rfl) ⟨U4.drew, by rw [blk_drew]; exact k34, by rw [blk_drew]; exact k44, by rw [blk_drew]; exact x8, by rw [blk_drew]; exact x9⟩ (fun hHeld hCl => ?_)
        refine takeG (i := 1) (d := (some 36)) (v := ?v9) rfl rfl (by kernel_rfl) (by kernel_rfl) (by decide) hCl (by kernel_rfl) (by kernel_rfl) (by kernel_rfl) (fun _ _ _ h => h) (by rfl) ?hy9 (fun _ _ _ => trivial) (by assumption) (fun hCl' => ?_)
        case hy9 => ((intro w hSw; (try dsimp only at hSw); (try go_split_ands); go_simp); try with_reducible rfl)
        simp only [Act.put, List.setIfInBounds_toArray, List.set_cons_zero, List.set_cons_succ]
        replace hCl := hCl'; clear hCl'
        refine takeG (i := 4) (d := (some 39)) (v := ?v10) rfl rfl (by kernel_rfl) (by kernel_rfl) (by decide) hCl (by kernel_rfl) (by kernel_rfl) (by kernel_rfl) (fun _ _ _ h => h) (by rfl) ?hy10 (fun _ _ _ => trivial) (by assumption) (fun hCl' => ?_)
        case hy10 => ((intro w hSw; (try dsimp only at hSw); (try go_split_ands); go_simp); try with_reducible rfl)
        simp only [Act.put, List.setIfInBounds_toArray, List.set_cons_zero, List.set_cons_succ]
        replace hCl := hCl'; clear hCl'
        refine takeG (i := 2) (d := (some 37)) (v := ?v11) rfl rfl (by kernel_rfl) (by kernel_rfl) (by decide) hCl (by kernel_rfl) (by kernel_rfl) (by kernel_rfl) (fun _ _ _ h => h) (by rfl) ?hy11 (fun _ _ _ => trivial) (by assumption) (fun hCl' => ?_)
        case hy11 => ((intro w hSw; (try dsimp only at hSw); (try go_split_ands); go_simp); try with_reducible rfl)
        simp only [Act.put, List.setIfInBounds_toArray, List.set_cons_zero, List.set_cons_succ]
        replace hCl := hCl'; clear hCl'
        clear hHeld
        refine nextG2 (i := 0) (j := 5) (by kernel_rfl) rfl rfl (by rfl) (by rfl) hCl ?_ ?_
        · skip
          refine (fun K hK => ?_)
          go_simp
          have A1 : Up W4 (W4.alloc (.cells #[] 71)).drew := Up.drew (Up.alloc (Up.refl W4) _)
          have b1 := blk_lt (Up.blk (Up.refl W4) x8)
          have c1 := blk_lt (Up.blk (Up.refl W4) x9)
          have s1 := Up.size (Up.refl W4)
          have e1 : W4.heap.size ≤ (W4.alloc (.cells #[] 71)).drew.heap.size := by have := Up.size (Up.drew (Up.alloc (Up.refl W4) (.cells #[] 71))); exact this
          have R1 := row_up (World.ownsRow_lit (base := W4.heap.size) (e := 71) (size := 3) W4 #[] 0 (Nat.le_refl _) (by unfold maxLen; omega) rfl) (Up.refl _).drew
          obtain ⟨q0, hqf⟩ : ∃ q, W4.heap.size = q := ⟨_, rfl⟩
          obtain ⟨X1, hX⟩ : ∃ X, (W4.alloc (.cells #[] 71)).drew = X := ⟨_, rfl⟩
          rw [hX] at A1 e1 R1
          rw [hqf] at b1 c1 s1 e1 R1
          have z1 : q0 < X1.heap.size := (R1.lt q0 rfl).2
          try rw [hX]
          try rw [hqf]
          refine hK.out _ _ ⟨U4.trans A1, Up.blk A1 k34, Up.blk A1 k44, Up.blk A1 x8, Up.blk A1 x9⟩ (fun _ hCl => ?_)
          clear hK K hX
          try simp only [Act.put, List.setIfInBounds_toArray, List.set_cons_zero, List.set_cons_succ]
          refine nextG2 (i := 3) (j := 5) (by kernel_rfl) rfl rfl (by rfl) (by rfl) hCl ?_ ?_
          · skip
            refine (fun K hK => ?_)
            refine opIn_append_lks (.tmp 35) (.tmp 37) rfl (HI'.out _ (U4.trans A1)) rfl q0 _ 0 [] rfl R1 (by omega) (by omega) (by omega) ?_
            intro v1 X2 R2 hg2
            rw [Nat.zero_add, List.nil_append] at R2
            have A2 := Up.grown A1 hg2 (fun k e => by have := row_base R1 k e; omega)
            have z2 : q0 < X2.heap.size := Nat.lt_of_lt_of_le z1 hg2.size
            refine hK.out _ _ ⟨U4.trans A2, Up.blk A2 k34, Up.blk A2 k44, Up.blk A2 x8, Up.blk A2 x9⟩ (fun _ hCl => ?_)
            clear hK K hg2
            try simp only [Act.put, List.setIfInBounds_toArray, List.set_cons_zero, List.set_cons_succ]
            refine nextG (i := 5) (by kernel_rfl) rfl (by rfl) hCl (fun K hK => ?_)
            go_simp
            have A3 : Up W4 (X2.alloc (.cells #[.int .i64 mt, .int .i64 ml, .int .i64 mh] 71)) := (Up.alloc A2 _)
            have b3 := blk_lt (Up.blk A2 x8)
            have c3 := blk_lt (Up.blk A2 x9)
            have s3 := Up.size A2
            have e3 : X2.heap.size ≤ (X2.alloc (.cells #[.int .i64 mt, .int .i64 ml, .int .i64 mh] 71)).heap.size := by have := Up.size ((Up.alloc (Up.refl X2) (.cells #[.int .i64 mt, .int .i64 ml, .int .i64 mh] 71))); exact this
            have R3 := World.ownsRow.alloc R2 (.cells #[.int .i64 mt, .int .i64 ml, .int .i64 mh] 71)
            have l3 : mblk (X2.alloc (.cells #[.int .i64 mt, .int .i64 ml, .int .i64 mh] 71)) X2.heap.size = some (.cells #[.int .i64 mt, .int .i64 ml, .int .i64 mh] 71 (0, 0)) := by exact blk_new _ _ _ rfl
            have h50 : q0 < X2.heap.size := by have := z2; omega
            obtain ⟨q5, hq⟩ : ∃ q, X2.heap.size = q := ⟨_, rfl⟩
            obtain ⟨X3, hX⟩ : ∃ X, (X2.alloc (.cells #[.int .i64 mt, .int .i64 ml, .int .i64 mh] 71)) = X := ⟨_, rfl⟩
            rw [hX] at A3 e3 R3 l3
            rw [hq] at b3 c3 s3 e3 l3 h50
            have z3 : q0 < X3.heap.size := by omega
            try rw [hX]
            try rw [hq]
            refine hK.out _ _ ⟨U4.trans A3, Up.blk A3 k34, Up.blk A3 k44, Up.blk A3 x8, Up.blk A3 x9⟩ (fun _ hCl => ?_)
            clear hK K hX hq
            try simp only [Act.put, List.setIfInBounds_toArray, List.set_cons_zero, List.set_cons_succ]
            refine nextG (i := 6) (by kernel_rfl) rfl (by rfl) hCl (fun K hK => ?_)
            refine opIn_append_look (.tmp 38) (.tmp 40) rfl q5 l3 rfl q0 _ ls.length ls rfl R3 (by omega) (by omega) ?_
            intro v2 X4 R4 hg4
            have A4 := Up.grown A3 hg4 (fun k e => by have := row_base R3 k e; omega)
            obtain ⟨g2, cap, curx, rfl, hg2, hbk, hcap, hcapm, hcs, htk⟩ := row_open R4 (by omega)
            refine hK.out _ _ ⟨U4.trans A4, Up.blk A4 k34, Up.blk A4 k44, Up.blk A4 x8, Up.blk A4 x9⟩ (fun _ hCl => ?_)
            clear hK K hg4
            try simp only [Act.put, List.setIfInBounds_toArray, List.set_cons_zero, List.set_cons_succ]
            refine takeG (i := 7) (d := (some 42)) (v := ?v13) rfl rfl (by kernel_rfl) (by kernel_rfl) (by decide) hCl (by kernel_rfl) (by kernel_rfl) (by kernel_rfl) (fun _ _ _ h => h) (by rfl) ?hy13 (fun _ _ _ => trivial) (by assumption) (fun hCl' => ?_)
            case hy13 => ((intro w hSw; (try dsimp only at hSw); (try go_split_ands); go_simp); try with_reducible rfl)
            simp only [Act.put, List.setIfInBounds_toArray, List.set_cons_zero, List.set_cons_succ]
            replace hCl := hCl'; clear hCl'
            have pb := Up.blk A4 x8
            have zf := frozB pb
            clear hCl
            refine lastG (i := 8) (by kernel_rfl) rfl (by rfl) (by decide) (fun K hK => ?_)
            go_simp
            obtain ⟨Z, hZ⟩ : ∃ X, X4.setCell ⟨p8, 7, none⟩ (.slice (some ⟨g2, 0, none⟩) (ls.length + 1) cap) = X := ⟨_, rfl⟩
            have hsz := U4.size
            have U5 : Up w Z := by rw [← hZ]; exact Up.set (U4.trans A4) (p := ⟨p8, 7, none⟩) (show w.heap.size ≤ p8 by omega) _
            have k5 : mblk Z w.heap.size = some (.cells (BC f s j dl dh ticks (.slice a n c) (.slice a' ls.length c')) 44 (0, 0)) := by rw [← hZ, blk_set _ _ _ _ (by show w.heap.size ≠ p8; omega)]; exact Up.blk A4 k34
            have y8 : mblk Z p8 = some (.cells (BC f s j dl dh ticks (.slice a n c) (.slice (some ⟨g2, 0, none⟩) (ls.length + 1) cap)) 44 (0, 0)) := by rw [← hZ]; exact blk_put pb 7 _
            have y9 : mblk Z p9 = some (.cells (BC f s j dl dh ticks (.slice a n c) (.slice a' ls.length c')) 44 (0, 0)) := by rw [← hZ, blk_set _ _ _ _ (by show p9 ≠ p8; omega)]; exact Up.blk A4 x9
            have yb : mblk Z g2 = some (.cells curx 71 (0, 0)) := by rw [← hZ, blk_set _ _ _ _ (by show g2 ≠ p8; omega)]; exact hbk
            try rw [hZ]
            refine hK.out _ _ ?_
            clear hK K hZ
            refine doneG (by kernel_rfl) ?_ _
            refine S.nrm_intro ?_
            exact HKey.out _ q0 v1 q5 g2 cap ⟨U5, k5, y8, y9, hcap, hcapm, by omega, by omega, curx, yb, hcs, htk⟩
          · skip
            refine (fun K hK => ?_)
            go_simp
            have A2 : Up W4 (X1.alloc (.cells #[.int .i64 mt, .int .i64 ml, .int .i64 mh] 71)) := (Up.alloc A1 _)
            have b2 := blk_lt (Up.blk A1 x8)
            have c2 := blk_lt (Up.blk A1 x9)
            have s2 := Up.size A1
            have e2 : X1.heap.size ≤ (X1.alloc (.cells #[.int .i64 mt, .int .i64 ml, .int .i64 mh] 71)).heap.size := by have := Up.size ((Up.alloc (Up.refl X1) (.cells #[.int .i64 mt, .int .i64 ml, .int .i64 mh] 71))); exact this
            have R2 := World.ownsRow.alloc R1 (.cells #[.int .i64 mt, .int .i64 ml, .int .i64 mh] 71)
            have l2 : mblk (X1.alloc (.cells #[.int .i64 mt, .int .i64 ml, .int .i64 mh] 71)) X1.heap.size = some (.cells #[.int .i64 mt, .int .i64 ml, .int .i64 mh] 71 (0, 0)) := by exact blk_new _ _ _ rfl
            have h50 : q0 < X1.heap.size := by have := z1; omega
            obtain ⟨q5, hq⟩ : ∃ q, X1.heap.size = q := ⟨_, rfl⟩
            obtain ⟨X2, hX⟩ : ∃ X, (X1.alloc (.cells #[.int .i64 mt, .int .i64 ml, .int .i64 mh] 71)) = X := ⟨_, rfl⟩
            rw [hX] at A2 e2 R2 l2
            rw [hq] at b2 c2 s2 e2 l2 h50
            have z2 : q0 < X2.heap.size := by omega
            try rw [hX]
            try rw [hq]
            refine hK.out _ _ ⟨U4.trans A2, Up.blk A2 k34, Up.blk A2 k44, Up.blk A2 x8, Up.blk A2 x9⟩ (fun _ hCl => ?_)
            clear hK K hX hq
            try simp only [Act.put, List.setIfInBounds_toArray, List.set_cons_zero, List.set_cons_succ]
            refine nextG (i := 3) (by kernel_rfl) rfl (by rfl) hCl (fun K hK => ?_)
            refine opIn_append_lks (.tmp 35) (.tmp 37) rfl (HI'.out _ (U4.trans A2)) rfl q0 _ 0 [] rfl R2 (by omega) (by omega) (by omega) ?_
            intro v1 X3 R3 hg3
            rw [Nat.zero_add, List.nil_append] at R3
            have A3 := Up.grown A2 hg3 (fun k e => by have := row_base R2 k e; omega)
            have z3 : q0 < X3.heap.size := Nat.lt_of_lt_of_le z2 hg3.size
            have l3 := grown_blk hg3 l2 (show some q5 ≠ some q0 by simp; omega)
            refine hK.out _ _ ⟨U4.trans A3, Up.blk A3 k34, Up.blk A3 k44, Up.blk A3 x8, Up.blk A3 x9⟩ (fun _ hCl => ?_)
            clear hK K hg3
            try simp only [Act.put, List.setIfInBounds_toArray, List.set_cons_zero, List.set_cons_succ]
            refine nextG (i := 6) (by kernel_rfl) rfl (by rfl) hCl (fun K hK => ?_)
            refine opIn_append_look (.tmp 38) (.tmp 40) rfl q5 l3 rfl q0 _ ls.length ls rfl R3 (by omega) (by omega) ?_
            intro v2 X4 R4 hg4
            have A4 := Up.grown A3 hg4 (fun k e => by have := row_base R3 k e; omega)
            obtain ⟨g2, cap, curx, rfl, hg2, hbk, hcap, hcapm, hcs, htk⟩ := row_open R4 (by omega)
            refine hK.out _ _ ⟨U4.trans A4, Up.blk A4 k34, Up.blk A4 k44, Up.blk A4 x8, Up.blk A4 x9⟩ (fun _ hCl => ?_)
            clear hK K hg4
            try simp only [Act.put, List.setIfInBounds_toArray, List.set_cons_zero, List.set_cons_succ]
            refine takeG (i := 7) (d := (some 42)) (v := ?v15) rfl rfl (by kernel_rfl) (by kernel_rfl) (by decide) hCl (by kernel_rfl) (by kernel_rfl) (by kernel_rfl) (fun _ _ _ h => h) (by rfl) ?hy15 (fun _ _ _ => trivial) (by assumption) (fun hCl' => ?_)
            case hy15 => ((intro w hSw; (try dsimp only at hSw); (try go_split_ands); go_simp); try with_reducible rfl)
            simp only [Act.put, List.setIfInBounds_toArray, List.set_cons_zero, List.set_cons_succ]
            replace hCl := hCl'; clear hCl'
            have pb := Up.blk A4 x8
            have zf := frozB pb
            clear hCl
            refine lastG (i := 8) (by kernel_rfl) rfl (by rfl) (by decide) (fun K hK => ?_)
            go_simp
            obtain ⟨Z, hZ⟩ : ∃ X, X4.setCell ⟨p8, 7, none⟩ (.slice (some ⟨g2, 0, none⟩) (ls.length + 1) cap) = X := ⟨_, rfl⟩
            have hsz := U4.size
            have U5 : Up w Z := by rw [← hZ]; exact Up.set (U4.trans A4) (p := ⟨p8, 7, none⟩) (show w.heap.size ≤ p8 by omega) _
            have k5 : mblk Z w.heap.size = some (.cells (BC f s j dl dh ticks (.slice a n c) (.slice a' ls.length c')) 44 (0, 0)) := by rw [← hZ, blk_set _ _ _ _ (by show w.heap.size ≠ p8; omega)]; exact Up.blk A4 k34
            have y8 : mblk Z p8 = some (.cells (BC f s j dl dh ticks (.slice a n c) (.slice (some ⟨g2, 0, none⟩) (ls.length + 1) cap)) 44 (0, 0)) := by rw [← hZ]; exact blk_put pb 7 _
            have y9 : mblk Z p9 = some (.cells (BC f s j dl dh ticks (.slice a n c) (.slice a' ls.length c')) 44 (0, 0)) := by rw [← hZ, blk_set _ _ _ _ (by show p9 ≠ p8; omega)]; exact Up.blk A4 x9
            have yb : mblk Z g2 = some (.cells curx 71 (0, 0)) := by rw [← hZ, blk_set _ _ _ _ (by show g2 ≠ p8; omega)]; exact hbk
            try rw [hZ]
            refine hK.out _ _ ?_
            clear hK K hZ
            refine doneG (by kernel_rfl) ?_ _
            refine S.nrm_intro ?_
            exact HKey.out _ q0 v1 q5 g2 cap ⟨U5, k5, y8, y9, hcap, hcapm, by omega, by omega, curx, yb, hcs, htk⟩
        · skip
          refine (fun K hK => ?_)
          go_simp
          have A1 : Up W4 (W4.alloc (.cells #[.int .i64 mt, .int .i64 ml, .int .i64 mh] 71)).drew := Up.drew (Up.alloc (Up.refl W4) _)
          have b1 := blk_lt (Up.blk (Up.refl W4) x8)
          have c1 := blk_lt (Up.blk (Up.refl W4) x9)
          have s1 := Up.size (Up.refl W4)
          have e1 : W4.heap.size ≤ (W4.alloc (.cells #[.int .i64 mt, .int .i64 ml, .int .i64 mh] 71)).drew.heap.size := by have := Up.size (Up.drew (Up.alloc (Up.refl W4) (.cells #[.int .i64 mt, .int .i64 ml, .int .i64 mh] 71))); exact this
          have l1 : mblk (W4.alloc (.cells #[.int .i64 mt, .int .i64 ml, .int .i64 mh] 71)).drew W4.heap.size = some (.cells #[.int .i64 mt, .int .i64 ml, .int .i64 mh] 71 (0, 0)) := by rw [blk_drew]; exact blk_new _ _ _ rfl
          obtain ⟨q5, hqf⟩ : ∃ q, W4.heap.size = q := ⟨_, rfl⟩
          obtain ⟨X1, hX⟩ : ∃ X, (W4.alloc (.cells #[.int .i64 mt, .int .i64 ml, .int .i64 mh] 71)).drew = X := ⟨_, rfl⟩
          rw [hX] at A1 e1 l1
          rw [hqf] at b1 c1 s1 e1 l1
          try rw [hX]
          try rw [hqf]
          refine hK.out _ _ ⟨U4.trans A1, Up.blk A1 k34, Up.blk A1 k44, Up.blk A1 x8, Up.blk A1 x9⟩ (fun _ hCl => ?_)
          clear hK K hX
          try simp only [Act.put, List.setIfInBounds_toArray, List.set_cons_zero, List.set_cons_succ]
          refine nextG (i := 0) (by kernel_rfl) rfl (by rfl) hCl (fun K hK => ?_)
          go_simp
          have A2 : Up W4 (X1.alloc (.cells #[] 71)) := (Up.alloc A1 _)
          have b2 := blk_lt (Up.blk A1 x8)
          have c2 := blk_lt (Up.blk A1 x9)
          have s2 := Up.size A1
          have e2 : X1.heap.size ≤ (X1.alloc (.cells #[] 71)).heap.size := by have := Up.size ((Up.alloc (Up.refl X1) (.cells #[] 71))); exact this
          have R2 := World.ownsRow_lit (base := X1.heap.size) (e := 71) (size := 3) X1 #[] 0 (Nat.le_refl _) (by unfold maxLen; omega) rfl
          have l2 := blk_keep (.cells #[] 71) l1
          have h05 : q5 < X1.heap.size := blk_lt l1
          obtain ⟨q0, hq⟩ : ∃ q, X1.heap.size = q := ⟨_, rfl⟩
          obtain ⟨X2, hX⟩ : ∃ X, (X1.alloc (.cells #[] 71)) = X := ⟨_, rfl⟩
          rw [hX] at A2 e2 R2 l2
          rw [hq] at b2 c2 s2 e2 R2 h05
          have z2 : q0 < X2.heap.size := (R2.lt q0 rfl).2
          try rw [hX]
          try rw [hq]
          refine hK.out _ _ ⟨U4.trans A2, Up.blk A2 k34, Up.blk A2 k44, Up.blk A2 x8, Up.blk A2 x9⟩ (fun _ hCl => ?_)
          clear hK K hX hq
          try simp only [Act.put, List.setIfInBounds_toArray, List.set_cons_zero, List.set_cons_succ]
          refine nextG (i := 3) (by kernel_rfl) rfl (by rfl) hCl (fun K hK => ?_)
          refine opIn_append_lks (.tmp 35) (.tmp 37) rfl (HI'.out _ (U4.trans A2)) rfl q0 _ 0 [] rfl R2 (by omega) (by omega) (by omega) ?_
          intro v1 X3 R3 hg3
          rw [Nat.zero_add, List.nil_append] at R3
          have A3 := Up.grown A2 hg3 (fun k e => by have := row_base R2 k e; omega)
          have z3 : q0 < X3.heap.size := Nat.lt_of_lt_of_le z2 hg3.size
          have l3 := grown_blk hg3 l2 (show some q5 ≠ some q0 by simp; omega)
          refine hK.out _ _ ⟨U4.trans A3, Up.blk A3 k34, Up.blk A3 k44, Up.blk A3 x8, Up.blk A3 x9⟩ (fun _ hCl => ?_)
          clear hK K hg3
          try simp only [Act.put, List.setIfInBounds_toArray, List.set_cons_zero, List.set_cons_succ]
          refine nextG (i := 6) (by kernel_rfl) rfl (by rfl) hCl (fun K hK => ?_)
          refine opIn_append_look (.tmp 38) (.tmp 40) rfl q5 l3 rfl q0 _ ls.length ls rfl R3 (by omega) (by omega) ?_
          intro v2 X4 R4 hg4
          have A4 := Up.grown A3 hg4 (fun k e => by have := row_base R3 k e; omega)
          obtain ⟨g2, cap, curx, rfl, hg2, hbk, hcap, hcapm, hcs, htk⟩ := row_open R4 (by omega)
          refine hK.out _ _ ⟨U4.trans A4, Up.blk A4 k34, Up.blk A4 k44, Up.blk A4 x8, Up.blk A4 x9⟩ (fun _ hCl => ?_)
          clear hK K hg4
          try simp only [Act.put, List.setIfInBounds_toArray, List.set_cons_zero, List.set_cons_succ]
          refine takeG (i := 7) (d := (some 42)) (v := ?v18) rfl rfl (by kernel_rfl) (by kernel_rfl) (by decide) hCl (by kernel_rfl) (by kernel_rfl) (by kernel_rfl) (fun _ _ _ h => h) (by rfl) ?hy18 (fun _ _ _ => trivial) (by assumption) (fun hCl' => ?_)
          case hy18 => ((intro w hSw; (try dsimp only at hSw); (try go_split_ands); go_simp); try with_reducible rfl)
          simp only [Act.put, List.setIfInBounds_toArray, List.set_cons_zero, List.set_cons_succ]
          replace hCl := hCl'; clear hCl'
          have pb := Up.blk A4 x8
          have zf := frozB pb
          clear hCl
          refine lastG (i := 8) (by kernel_rfl) rfl (by rfl) (by decide) (fun K hK => ?_)
          go_simp
          obtain ⟨Z, hZ⟩ : ∃ X, X4.setCell ⟨p8, 7, none⟩ (.slice (some ⟨g2, 0, none⟩) (ls.length + 1) cap) = X := ⟨_, rfl⟩
          have hsz := U4.size
          have U5 : Up w Z := by rw [← hZ]; exact Up.set (U4.trans A4) (p := ⟨p8, 7, none⟩) (show w.heap.size ≤ p8 by omega) _
          have k5 : mblk Z w.heap.size = some (.cells (BC f s j dl dh ticks (.slice a n c) (.slice a' ls.length c')) 44 (0, 0)) := by rw [← hZ, blk_set _ _ _ _ (by show w.heap.size ≠ p8; omega)]; exact Up.blk A4 k34
          have y8 : mblk Z p8 = some (.cells (BC f s j dl dh ticks (.slice a n c) (.slice (some ⟨g2, 0, none⟩) (ls.length + 1) cap)) 44 (0, 0)) := by rw [← hZ]; exact blk_put pb 7 _
          have y9 : mblk Z p9 = some (.cells (BC f s j dl dh ticks (.slice a n c) (.slice a' ls.length c')) 44 (0, 0)) := by rw [← hZ, blk_set _ _ _ _ (by show p9 ≠ p8; omega)]; exact Up.blk A4 x9
          have yb : mblk Z g2 = some (.cells curx 71 (0, 0)) := by rw [← hZ, blk_set _ _ _ _ (by show g2 ≠ p8; omega)]; exact hbk
          try rw [hZ]
          refine hK.out _ _ ?_
          clear hK K hZ
          refine doneG (by kernel_rfl) ?_ _
          refine S.nrm_intro ?_
          exact HKey.out _ q0 v1 q5 g2 cap ⟨U5, k5, y8, y9, hcap, hcapm, by omega, by omega, curx, yb, hcs, htk⟩
      intro W5 q0 v1 q5 g2 cap ⟨U5, k5, y8, y9, hcap, hcapm, hg29, hg28, curx, yb, hcs, htk⟩
      clear U4 k34 k44 x8 x9
      have zf := frozB y9
      have i9 := y9
      have l8 := blk_lt y8
      have l9 := blk_lt y9
      have lk := blk_lt k5
      have lg := blk_lt yb
      have V := Up.set U5 (p := ⟨p9, 7, none⟩) (show w.heap.size ≤ p9 by omega) (.slice none 0 0)
      have k6 : mblk (W5.setCell ⟨p9, 7, none⟩ (.slice none 0 0)) w.heap.size = some (.cells (BC f s j dl dh ticks (.slice a n c) (.slice a' ls.length c')) 44 (0, 0)) := by rw [blk_set _ _ _ _ (by show w.heap.size ≠ p9; omega)]; exact k5
      have x8 : mblk (W5.setCell ⟨p9, 7, none⟩ (.slice none 0 0)) p8 = some (.cells (BC f s j dl dh ticks (.slice a n c) (.slice (some ⟨g2, 0, none⟩) (ls.length + 1) cap)) 44 (0, 0)) := by rw [blk_set _ _ _ _ (by show p8 ≠ p9; omega)]; exact y8
      have x9 : mblk (W5.setCell ⟨p9, 7, none⟩ (.slice none 0 0)) p9 = some (.cells (BC f s j dl dh ticks (.slice a n c) (.slice none 0 0)) 44 (0, 0)) := blk_put y9 7 _
      have xb : mblk (W5.setCell ⟨p9, 7, none⟩ (.slice none 0 0)) g2 = some (.cells curx 71 (0, 0)) := by rw [blk_set _ _ _ _ (by show g2 ≠ p9; omega)]; exact yb
      have hs6 : (W5.setCell ⟨p9, 7, none⟩ (.slice none 0 0)).heap.size = W5.heap.size := by simp
      have wz : IntKind.i64.wrap ((ls.length : Int) - 1) = (ls.length : Int) - 1 := IntWalk.i64_in _ (by omega)
      obtain ⟨bq, hbq⟩ : ∃ q, W5.heap.size = q := ⟨_, rfl⟩
      obtain ⟨W6, hW6⟩ : ∃ W, W5.setCell ⟨p9, 7, none⟩ (.slice none 0 0) = W := ⟨_, rfl⟩
      rw [hW6] at V k6 x8 x9 xb hs6
      rw [hbq] at hs6 l8 l9 lk lg
      have hbq6 : bq ≤ W6.heap.size := by omega
      clear U5 k5 y8 yb
      go_wp2_with fail
      try rw [hW6]
      clear hW6 hs6 zf i9 y9 hbq
      go_loopw [10] (fun i wr => ∃ (m : Nat) (zi : Int) (v : Value), m ≤ ls.length ∧ zi = (m : Int) - 1 ∧ i = .int .i64 zi ∧ Up w wr ∧ mblk wr w.heap.size = some (.cells (BC f s j dl dh ticks (.slice a n c) (.slice a' ls.length c')) 44 (0, 0)) ∧ mblk wr p8 = some (.cells (BC f s j dl dh ticks (.slice a n c) (.slice (some ⟨g2, 0, none⟩) (ls.length + 1) cap)) 44 (0, 0)) ∧ mblk wr p9 = some (.cells (BC f s j dl dh ticks (.slice a n c) v) 44 (0, 0)) ∧ mblk wr g2 = some (.cells curx 71 (0, 0)) ∧ wr.ownsRow bq 71 3 v (ls.length - m) (S.flat (ls.drop m).reverse) ∧ bq ≤ wr.heap.size) (fun i _ => (intOf i + 1).toNat)
      case atStart => exact ⟨ls.length, _, _, Nat.le_refl _, rfl, rfl, V, k6, x8, x9, xb, by rw [Nat.sub_self, List.drop_length]; exact World.ownsRow_nil _ _ _ _, hbq6⟩
      case round =>
        clear V k6 x8 x9 xb hbq6 wz
        obtain ⟨m, zi, v, hm, hz, rfl, V, k6, x8, x9, yb, hown, hbq⟩ := hrel
        by_cases h0 : m = 0
        · subst h0
          have hz' : ¬ (0 : Int) ≤ zi := by omega
          have hcn : ls.length - 0 = ls.length := by omega
          rw [hcn, List.drop_zero] at hown
          obtain ⟨Wn, hWn⟩ : ∃ W, wr = W := ⟨_, rfl⟩
          by_cases hl0 : ls.length = 0
          · have dl0 : decide (0 < ls.length) = false := decide_eq_false (by omega)
            have hl0' : ¬ (0 : Int) < (ls.length : Int) := by omega
            obtain ⟨ay, cy, rfl, _, _⟩ := row_val hown
            have LKy := lks_of_row hown (by omega)
            have hy1 : ∀ y ∈ ls.reverse, y ∈ ls := fun y h => List.mem_reverse.1 h
            have hy2 : ∀ y ∈ ls, y ∈ ls.reverse := fun y h => List.mem_reverse.2 h
            have hyl : ls.reverse.length ≤ 10 := by rw [List.length_reverse]; omega
            obtain ⟨ys, hys⟩ : ∃ q, ls.reverse = q := ⟨_, rfl⟩
            rw [hys] at LKy hy1 hy2 hyl
            clear hown hys hl0 hcn hbq hm hz
            subst hWn
            have LKx := lks_of_blk yb hcap hcapm hcs htk (by simp) (by omega)
            have HXx := Lib.hid (fun w' u => Error_any (f := f) (s := s) (j := j) (dl := dl) (dh := dh) (ticks := ticks) (HI.out w' (V.trans u)) (LKx.up u) (t : Int))
            have HXy := Lib.hid (fun w' u => Error_any (f := f) (s := s) (j := j) (dl := dl) (dh := dh) (ticks := ticks) (HI.out w' (V.trans u)) (LKy.up u) (t : Int))
            have HYb := HB2.out ys hy1 hyl
            have HYb' := Lib.hid HYb
            have hyy1 := Lib.hid hy1
            have hyy2 := Lib.hid hy2
            have AT := Up.refl wr
            have V0 := V
            clear yb LKx LKy HYb hy1 hy2 hyl HB2 HI'
            go_wp2_with fail
            refine (HE.out _ V (t : Int)).mono ?_
            rintro e w1 ⟨l, h, r, rfl, T1, u⟩
            clear V
            have HT1 := Lib.hid T1
            clear T1
            have m11 := blk_new w1 (.cells #[.int .i64 l, .int .i64 h] 23) _ rfl
            have b_k6 := blk_lt (u.blk k6)
            have b_x8 := blk_lt (u.blk x8)
            have b_x9 := blk_lt (u.blk x9)
            have A := Up.alloc u (.cells #[.int .i64 l, .int .i64 h] 23)
            replace k6 := Up.blk A k6
            replace x8 := Up.blk A x8
            replace x9 := Up.blk A x9
            replace AT := AT.trans A
            clear u A
            obtain ⟨p11, hp⟩ : ∃ p, w1.heap.size = p := ⟨_, rfl⟩
            obtain ⟨Z11, hZ⟩ : ∃ W, w1.alloc (.cells #[.int .i64 l, .int .i64 h] 23) = W := ⟨_, rfl⟩
            rw [hp] at m11 b_k6 b_x8 b_x9
            rw [hZ] at m11 AT k6 x8 x9
            go_wp2_with fail
            try rw [hZ]
            try rw [hp]
            clear hp hZ b_k6 b_x8 b_x9
            refine (HXx.out _ AT).mono ?_
            rintro e w2 ⟨lu, hu, r2, rfl, T2, u⟩
            have HT2 := Lib.hid T2
            clear T2
            have m13 := blk_new w2 (.cells #[.int .i64 lu, .int .i64 hu] 23) _ rfl
            have b_k6 := blk_lt (u.blk k6)
            have b_x9 := blk_lt (u.blk x9)
            have b_m11 := blk_lt (u.blk m11)
            have A := Up.alloc u (.cells #[.int .i64 lu, .int .i64 hu] 23)
            replace k6 := Up.blk A k6
            replace x9 := Up.blk A x9
            replace m11 := Up.blk A m11
            replace AT := AT.trans A
            clear u A
            obtain ⟨p13, hp⟩ : ∃ p, w2.heap.size = p := ⟨_, rfl⟩
            obtain ⟨Z13, hZ⟩ : ∃ W, w2.alloc (.cells #[.int .i64 lu, .int .i64 hu] 23) = W := ⟨_, rfl⟩
            rw [hp] at m13 b_k6 b_x9 b_m11
            rw [hZ] at m13 AT k6 x9 m11
            go_wp2_with fail
            try rw [hZ]
            try rw [hp]
            clear hp hZ b_k6 b_x9 b_m11
            refine (HXy.out _ AT).mono ?_
            rintro e w3 ⟨lv, hv, r3, rfl, T3, u⟩
            obtain ⟨rfl, rfl, rfl⟩ := HT1.out.same T3 HB1.out HYb'.out ⟨t1, by omega⟩ hyy2.out hyy1.out
            clear T3 HXx HXy
            have m15 := blk_new w3 (.cells #[.int .i64 l, .int .i64 h] 23) _ rfl
            have b_k6 := blk_lt (u.blk k6)
            have b_m11 := blk_lt (u.blk m11)
            have b_m13 := blk_lt (u.blk m13)
            have A := Up.alloc u (.cells #[.int .i64 l, .int .i64 h] 23)
            replace k6 := Up.blk A k6
            replace m11 := Up.blk A m11
            replace m13 := Up.blk A m13
            replace AT := AT.trans A
            clear u A
            obtain ⟨p15, hp⟩ : ∃ p, w3.heap.size = p := ⟨_, rfl⟩
            obtain ⟨Z15, hZ⟩ : ∃ W, w3.alloc (.cells #[.int .i64 l, .int .i64 h] 23) = W := ⟨_, rfl⟩
            rw [hp] at m15 b_k6 b_m11 b_m13
            rw [hZ] at m15 AT k6 m11 m13
            by_cases hr2 : r2 = 0
            · subst hr2
              have key := HT2.out.wider HT1.out HT2.out.ok0.1 HB1.out ⟨t1, by omega⟩ (fun v hv => hv.less)
              rcases key with ⟨h42, _⟩ | ⟨_, rfl, q1, q2⟩
              · omega
              · have HWi := Lib.hid (fun w => show Calls Try.prog 45 #[SpV lu hu, SpV l h] w fun e w' => e = .returned (.bool true) ∧ Up w w' by rw [← decide_eq_true (show l ≤ lu ∧ hu ≤ h from ⟨q1, q2⟩)]; exact B_Within_any _ _ _ _ w)
                clear q1 q2 HT2
                by_cases hk : t < xs.length
                · have hk' : (t : Int) < (n : Int) := by have := HLn.out; omega
                  have hxb := HXs.out t hk
                  obtain ⟨a2, c2, e2, _, _, hm2⟩ := (HI.out w (Up.refl w)).is
                  injection e2 with e2 e3 e4
                  subst e2 e4
                  clear e3
                  obtain ⟨ga, oa, rfl, gal, hca⟩ := hm2 (by omega)
                  have cxx := (((V0.trans AT).cell2 (hca t hk)))
                  obtain ⟨xv, hxv⟩ : ∃ x, xs.getD t 0 = x := ⟨_, rfl⟩
                  rw [hxv] at cxx hxb
                  have hgx := Lib.hid hxv
                  have HCx := Lib.hid (fun w' (u : Up Z15 w') => u.cell2 cxx)
                  clear hm2 hca hxv hk
                  go_wp2_with fail
                  refine (HWi.out _).mono ?_
                  rintro e w4 ⟨rfl, u⟩
                  replace k6 := u.blk k6
                  replace m11 := u.blk m11
                  have V4 := (V0.trans AT).trans u
                  have cx4 := HCx.out _ u
                  clear HCx
                  clear u AT V0 m15 m13
                  have wt : IntKind.i64.wrap ((t : Int) + 1) = (t : Int) + 1 := IntWalk.i64_in _ (by omega)
                  go_wp2_with fail
                  refine (HE.out _ V4 ((t : Int) + 1)).mono ?_
                  rintro e w5 ⟨l4, h4, r4, rfl, T4, u5⟩
                  obtain ⟨rfl, q3, q4⟩ := HT1.out.next T4 HB1.out t2
                  rw [hgx.out] at q3 q4
                  have A5 := Up.alloc u5 (.cells #[.int .i64 l4, .int .i64 h4] 23)
                  have m18 := blk_new w5 (.cells #[.int .i64 l4, .int .i64 h4] 23) _ rfl
                  have b1 := blk_lt (u5.blk m11)
                  have b2 := blk_lt (u5.blk k6)
                  replace m11 := Up.blk A5 m11
                  replace k6 := Up.blk A5 k6
                  replace V4 := V4.trans A5
                  clear T4 u5 A5
                  obtain ⟨p18, hp18⟩ : ∃ p, w5.heap.size = p := ⟨_, rfl⟩
                  obtain ⟨Z5, hZ5⟩ : ∃ W, w5.alloc (.cells #[.int .i64 l4, .int .i64 h4] 23) = W := ⟨_, rfl⟩
                  rw [hp18] at m18 b1 b2
                  rw [hZ5] at m18 m11 k6 V4
                  go_wp2_with fail
                  try rw [hZ5]
                  try rw [hp18]
                  clear hp18 hZ5 b1 b2
                  obtain ⟨f1l, _, f2h⟩ := HT1.out.fine
                  have wa : IntKind.i64.wrap (l + dl) = l + dl := IntWalk.i64_in _ (by omega)
                  have wc : IntKind.i64.wrap (h + dh) = h + dh := IntWalk.i64_in _ (by omega)
                  have wb : IntKind.i64.wrap (l + dl + xv) = l + dl + xv := IntWalk.i64_in _ (by omega)
                  have wd : IntKind.i64.wrap (h + dh + xv) = h + dh + xv := IntWalk.i64_in _ (by omega)
                  have HTo := Lib.hid (fun w => B_To_any (l + dl + xv) (h + dh + xv) w)
                  have Hwr := Lib.hid (fun w => show Calls Try.prog 45 #[SpV l4 h4, SpV (l + dl + xv) (h + dh + xv)] w fun e w' => e = .returned (.bool true) ∧ Up w w' by rw [← decide_eq_true (show l + dl + xv ≤ l4 ∧ h4 ≤ h + dh + xv from ⟨by omega, by omega⟩)]; exact B_Within_any _ _ _ _ w)
                  refine wp_region_held_drew (S := fun w' => Up w w' ∧ mblk w' w.heap.size = some (.cells (BC f s j dl dh ticks (.slice (some ⟨ga, oa, none⟩) n c) (.slice a' ls.length c')) 44 (0, 0)) ∧ mblk w' p11 = some (.cells #[.int .i64 l, .int .i64 h] 23 (0, 0)) ∧ mblk w' p18 = some (.cells #[.int .i64 l4, .int .i64 h4] 23 (0, 0))) (by kernel_rfl) ⟨V4.drew, by rw [blk_drew]; exact k6, by rw [blk_drew]; exact m11, by rw [blk_drew]; exact m18⟩ (fun hHeld => ?_)
                  clear V4 k6 m11 m18
                  refine takeH (i := 0) (d := (some 142)) (v := ?v20) rfl rfl (by kernel_rfl) (by kernel_rfl) (by kernel_rfl) (fun _ _ _ h => h) (by rfl) ?hy20 (by assumption) ?_
                  case hy20 => ((intro w hSw; (try dsimp only at hSw); (try go_split_ands); go_simp); try with_reducible rfl)
                  simp only [Act.put, List.setIfInBounds_toArray, List.set_cons_zero, List.set_cons_succ]
                  refine takeH (i := 1) (d := (some 143)) (v := ?v21) rfl rfl (by kernel_rfl) (by kernel_rfl) (by kernel_rfl) (fun _ _ _ h => h) (by rfl) ?hy21 (by assumption) ?_
                  case hy21 => ((intro w hSw; (try dsimp only at hSw); (try go_split_ands); go_simp); try with_reducible rfl)
                  simp only [Act.put, List.setIfInBounds_toArray, List.set_cons_zero, List.set_cons_succ]
                  refine takeH (i := 2) (d := (some 144)) (v := ?v22) rfl rfl (by kernel_rfl) (by kernel_rfl) (by kernel_rfl) (fun _ _ _ h => h) (by rfl) ?hy22 (by assumption) ?_
                  case hy22 => ((intro w hSw; (try dsimp only at hSw); (try go_split_ands); go_simp); try with_reducible rfl)
                  simp only [Act.put, List.setIfInBounds_toArray, List.set_cons_zero, List.set_cons_succ]
                  refine takeH (i := 3) (d := (some 145)) (v := ?v23) rfl rfl (by kernel_rfl) (by kernel_rfl) (by kernel_rfl) (fun _ _ _ h => h) (by rfl) ?hy23 (by assumption) ?_
                  case hy23 => ((intro w hSw; (try dsimp only at hSw); (try go_split_ands); go_simp); try with_reducible rfl)
                  simp only [Act.put, List.setIfInBounds_toArray, List.set_cons_zero, List.set_cons_succ]
                  refine takeH (i := 4) (d := (some 146)) (v := ?v24) rfl rfl (by kernel_rfl) (by kernel_rfl) (by kernel_rfl) (fun _ _ _ h => h) (by rfl) ?hy24 (by assumption) ?_
                  case hy24 => ((intro w hSw; (try dsimp only at hSw); (try go_split_ands); go_simp); try with_reducible rfl)
                  simp only [Act.put, List.setIfInBounds_toArray, List.set_cons_zero, List.set_cons_succ]
                  refine takeH (i := 6) (d := (some 148)) (v := ?v25) rfl rfl (by kernel_rfl) (by kernel_rfl) (by kernel_rfl) (fun _ _ _ h => h) (by rfl) ?hy25 (by assumption) ?_
                  case hy25 => ((intro w hSw; (try dsimp only at hSw); (try go_split_ands); go_simp); try with_reducible rfl)
                  simp only [Act.put, List.setIfInBounds_toArray, List.set_cons_zero, List.set_cons_succ]
                  refine takeH (i := 11) (d := (some 153)) (v := ?v26) rfl rfl (by kernel_rfl) (by kernel_rfl) (by kernel_rfl) (fun _ _ _ h => h) (by rfl) ?hy26 (by assumption) ?_
                  case hy26 => ((intro w hSw; (try dsimp only at hSw); (try go_split_ands); go_simp); try with_reducible rfl)
                  simp only [Act.put, List.setIfInBounds_toArray, List.set_cons_zero, List.set_cons_succ]
                  refine takeH (i := 13) (d := (some 155)) (v := ?v27) rfl rfl (by kernel_rfl) (by kernel_rfl) (by kernel_rfl) (fun _ _ _ h => h) (by rfl) ?hy27 (by assumption) ?_
                  case hy27 => ((intro w hSw; (try dsimp only at hSw); (try go_split_ands); go_simp); try with_reducible rfl)
                  simp only [Act.put, List.setIfInBounds_toArray, List.set_cons_zero, List.set_cons_succ]
                  refine takeH (i := 15) (d := (some 157)) (v := ?v28) rfl rfl (by kernel_rfl) (by kernel_rfl) (by kernel_rfl) (fun _ _ _ h => h) (by rfl) ?hy28 (by assumption) ?_
                  case hy28 => ((intro w hSw; (try dsimp only at hSw); (try go_split_ands); go_simp); try with_reducible rfl)
                  simp only [Act.put, List.setIfInBounds_toArray, List.set_cons_zero, List.set_cons_succ]
                  refine takeH (i := 20) (d := (some 162)) (v := ?v29) rfl rfl (by kernel_rfl) (by kernel_rfl) (by kernel_rfl) (fun _ _ _ h => h) (by rfl) ?hy29 (by assumption) ?_
                  case hy29 => ((intro w hSw; (try dsimp only at hSw); (try go_split_ands); go_simp); try with_reducible rfl)
                  simp only [Act.put, List.setIfInBounds_toArray, List.set_cons_zero, List.set_cons_succ]
                  refine takeH (i := 5) (d := (some 147)) (v := ?v30) rfl rfl (by kernel_rfl) (by kernel_rfl) (by kernel_rfl) (fun _ _ _ h => h) (by rfl) ?hy30 (by assumption) ?_
                  case hy30 => ((intro w hSw; (try dsimp only at hSw); (try go_split_ands); go_simp); try with_reducible rfl)
                  simp only [Act.put, List.setIfInBounds_toArray, List.set_cons_zero, List.set_cons_succ]
                  refine takeH (i := 7) (d := (some 149)) (v := ?v31) rfl rfl (by kernel_rfl) (by kernel_rfl) (by kernel_rfl) (fun _ _ _ h => h) (by rfl) ?hy31 (by assumption) ?_
                  case hy31 => ((intro w hSw; (try dsimp only at hSw); (try go_split_ands); go_simp); try with_reducible rfl)
                  simp only [Act.put, List.setIfInBounds_toArray, List.set_cons_zero, List.set_cons_succ]
                  refine takeH (i := 14) (d := (some 156)) (v := ?v32) rfl rfl (by kernel_rfl) (by kernel_rfl) (by kernel_rfl) (fun _ _ _ h => h) (by rfl) ?hy32 (by assumption) ?_
                  case hy32 => ((intro w hSw; (try dsimp only at hSw); (try go_split_ands); go_simp); try with_reducible rfl)
                  simp only [Act.put, List.setIfInBounds_toArray, List.set_cons_zero, List.set_cons_succ]
                  refine takeH (i := 16) (d := (some 158)) (v := ?v33) rfl rfl (by kernel_rfl) (by kernel_rfl) (by kernel_rfl) (fun _ _ _ h => h) (by rfl) ?hy33 (by assumption) ?_
                  case hy33 => ((intro w hSw; (try dsimp only at hSw); (try go_split_ands); go_simp); try with_reducible rfl)
                  simp only [Act.put, List.setIfInBounds_toArray, List.set_cons_zero, List.set_cons_succ]
                  refine takeH (i := 8) (d := (some 150)) (v := ?v34) rfl rfl (by kernel_rfl) (by kernel_rfl) (by kernel_rfl) (fun _ _ _ h => h) (by rfl) ?hy34 (by assumption) ?_
                  case hy34 => ((intro w hSw; (try dsimp only at hSw); (try go_split_ands); go_simp); try with_reducible rfl)
                  simp only [Act.put, List.setIfInBounds_toArray, List.set_cons_zero, List.set_cons_succ]
                  refine takeH (i := 17) (d := (some 159)) (v := ?v35) rfl rfl (by kernel_rfl) (by kernel_rfl) (by kernel_rfl) (fun _ _ _ h => h) (by rfl) ?hy35 (by assumption) ?_
                  case hy35 => ((intro w hSw; (try dsimp only at hSw); (try go_split_ands); go_simp); try with_reducible rfl)
                  simp only [Act.put, List.setIfInBounds_toArray, List.set_cons_zero, List.set_cons_succ]
                  refine takeH (i := 9) (d := (some 151)) (v := ?v36) rfl rfl (by kernel_rfl) (by kernel_rfl) (by kernel_rfl) (fun _ _ _ h => h) (by rfl) ?hy36 (by assumption) ?_
                  case hy36 => ((intro w hSw; (try dsimp only at hSw); (try go_split_ands); go_simp); try with_reducible rfl)
                  simp only [Act.put, List.setIfInBounds_toArray, List.set_cons_zero, List.set_cons_succ]
                  refine takeH (i := 18) (d := (some 160)) (v := ?v37) rfl rfl (by kernel_rfl) (by kernel_rfl) (by kernel_rfl) (fun _ _ _ h => h) (by rfl) ?hy37 (by assumption) ?_
                  case hy37 => ((intro w hSw; (try dsimp only at hSw); (try go_split_ands); go_simp); try with_reducible rfl)
                  simp only [Act.put, List.setIfInBounds_toArray, List.set_cons_zero, List.set_cons_succ]
                  refine takeH (i := 10) (d := (some 152)) (v := ?v38) rfl rfl (by kernel_rfl) (by kernel_rfl) (by kernel_rfl) (fun _ _ _ h => h) (by rfl) ?hy38 (by assumption) ?_
                  case hy38 => ((intro w hSw; (try dsimp only at hSw); (try go_split_ands); go_simp); try with_reducible rfl)
                  simp only [Act.put, List.setIfInBounds_toArray, List.set_cons_zero, List.set_cons_succ]
                  refine takeH (i := 19) (d := (some 161)) (v := ?v39) rfl rfl (by kernel_rfl) (by kernel_rfl) (by kernel_rfl) (fun _ _ _ h => h) (by rfl) ?hy39 (by assumption) ?_
                  case hy39 => ((intro w hSw; (try dsimp only at hSw); (try go_split_ands); go_simp); try with_reducible rfl)
                  simp only [Act.put, List.setIfInBounds_toArray, List.set_cons_zero, List.set_cons_succ]
                  refine takeH (i := 12) (d := (some 154)) (v := ?v40) rfl rfl (by kernel_rfl) (by kernel_rfl) (by kernel_rfl) (fun _ _ _ h => h) (by rfl) ?hy40 (by assumption) ?_
                  case hy40 => ((intro w hSw; (try dsimp only at hSw); (try go_split_ands); go_simp); try with_reducible rfl)
                  simp only [Act.put, List.setIfInBounds_toArray, List.set_cons_zero, List.set_cons_succ]
                  refine takeH (i := 21) (d := (some 163)) (v := ?v41) rfl rfl (by kernel_rfl) (by kernel_rfl) (by kernel_rfl) (fun _ _ _ h => h) (by rfl) ?hy41 (by assumption) ?_
                  case hy41 => ((intro w hSw; (try dsimp only at hSw); (try go_split_ands); go_simp); try with_reducible rfl)
                  simp only [Act.put, List.setIfInBounds_toArray, List.set_cons_zero, List.set_cons_succ]
                  refine wpAnyH_ready (rs := [22]) (by kernel_rfl) (by simp) ?_
                  refine AllReadyH.cons rfl (fun K hK => ?_) AllReadyH.nil
                  go_simp
                  refine (HTo.out _).mono ?_
                  rintro e w6 ⟨rfl, u6⟩
                  go_wp2_with fail
                  refine hK.out _ _ ⟨hHeld.1.trans u6, u6.blk hHeld.2.1, u6.blk hHeld.2.2.1, u6.blk hHeld.2.2.2⟩ (fun hHeld => ?_)
                  clear hK K u6
                  refine wpAnyH_ready (rs := [23]) (by kernel_rfl) (by simp) ?_
                  refine AllReadyH.cons rfl (fun K hK => ?_) AllReadyH.nil
                  go_simp
                  refine (Hwr.out _).mono ?_
                  rintro e w6 ⟨rfl, u6⟩
                  go_wp2_with fail
                  refine hK.out _ _ ⟨hHeld.1.trans u6, u6.blk hHeld.2.1, u6.blk hHeld.2.2.1, u6.blk hHeld.2.2.2⟩ (fun hHeld => ?_)
                  clear hK K u6
                  refine takeH (i := 24) (d := (some 166)) (v := ?v44) rfl rfl (by kernel_rfl) (by kernel_rfl) (by kernel_rfl) (fun _ _ _ h => h) (by rfl) ?hy44 (by assumption) ?_
                  case hy44 => ((intro w hSw; (try dsimp only at hSw); (try go_split_ands); go_simp); try with_reducible rfl)
                  simp only [Act.put, List.setIfInBounds_toArray, List.set_cons_zero, List.set_cons_succ]
                  refine takeH (i := 25) (d := (some 167)) (v := ?v45) rfl rfl (by kernel_rfl) (by kernel_rfl) (by kernel_rfl) (fun _ _ _ h => h) (by rfl) ?hy45 (by assumption) ?_
                  case hy45 => ((intro w hSw; (try dsimp only at hSw); (try go_split_ands); go_simp); try with_reducible rfl)
                  simp only [Act.put, List.setIfInBounds_toArray, List.set_cons_zero, List.set_cons_succ]
                  refine wpAnyH_ready (rs := [26]) (by kernel_rfl) (by simp) ?_
                  refine AllReadyH.cons rfl (fun K hK => ?_) AllReadyH.nil
                  go_simp
                  refine (HW.out _).mono ?_
                  rintro e w6 ⟨rfl, u6⟩
                  go_wp2_with fail
                  refine hK.out _ _ ⟨hHeld.1.trans u6, u6.blk hHeld.2.1, u6.blk hHeld.2.2.1, u6.blk hHeld.2.2.2⟩ (fun hHeld => ?_)
                  clear hK K u6
                  refine takeH (i := 27) (d := (some 169)) (v := ?v47) rfl rfl (by kernel_rfl) (by kernel_rfl) (by kernel_rfl) (fun _ _ _ h => h) (by rfl) ?hy47 (by assumption) ?_
                  case hy47 => ((intro w hSw; (try dsimp only at hSw); (try go_split_ands); go_simp); try with_reducible rfl)
                  simp only [Act.put, List.setIfInBounds_toArray, List.set_cons_zero, List.set_cons_succ]
                  refine takeH (i := 28) (d := (some 6)) (v := ?v48) rfl rfl (by kernel_rfl) (by kernel_rfl) (by kernel_rfl) (fun _ _ _ h => h) (by rfl) ?hy48 (by assumption) ?_
                  case hy48 => ((intro w hSw; (try dsimp only at hSw); (try go_split_ands); go_simp); try with_reducible rfl)
                  simp only [Act.put, List.setIfInBounds_toArray, List.set_cons_zero, List.set_cons_succ]
                  refine wpAnyH_done (by kernel_rfl) ?_ _
                  go_wp2
                  go_ret
                  exact ⟨rfl, hHeld.1⟩
                · have hk' : ¬ (t : Int) < (n : Int) := by have := HLn.out; omega
                  have hgx := Lib.hid (show xs.getD t 0 = 0 by rw [List.getD_eq_getElem?_getD, List.getElem?_eq_none (by omega)]; rfl)
                  clear hk
                  go_wp2_with fail
                  refine (HWi.out _).mono ?_
                  rintro e w4 ⟨rfl, u⟩
                  replace k6 := u.blk k6
                  replace m11 := u.blk m11
                  have V4 := (V0.trans AT).trans u
                  clear u AT V0 m15 m13
                  have wt : IntKind.i64.wrap ((t : Int) + 1) = (t : Int) + 1 := IntWalk.i64_in _ (by omega)
                  go_wp2_with fail
                  refine (HE.out _ V4 ((t : Int) + 1)).mono ?_
                  rintro e w5 ⟨l4, h4, r4, rfl, T4, u5⟩
                  obtain ⟨rfl, q3, q4⟩ := HT1.out.next T4 HB1.out t2
                  rw [hgx.out] at q3 q4
                  have A5 := Up.alloc u5 (.cells #[.int .i64 l4, .int .i64 h4] 23)
                  have m18 := blk_new w5 (.cells #[.int .i64 l4, .int .i64 h4] 23) _ rfl
                  have b1 := blk_lt (u5.blk m11)
                  have b2 := blk_lt (u5.blk k6)
                  replace m11 := Up.blk A5 m11
                  replace k6 := Up.blk A5 k6
                  replace V4 := V4.trans A5
                  clear T4 u5 A5
                  obtain ⟨p18, hp18⟩ : ∃ p, w5.heap.size = p := ⟨_, rfl⟩
                  obtain ⟨Z5, hZ5⟩ : ∃ W, w5.alloc (.cells #[.int .i64 l4, .int .i64 h4] 23) = W := ⟨_, rfl⟩
                  rw [hp18] at m18 b1 b2
                  rw [hZ5] at m18 m11 k6 V4
                  go_wp2_with fail
                  try rw [hZ5]
                  try rw [hp18]
                  clear hp18 hZ5 b1 b2
                  obtain ⟨f1l, _, f2h⟩ := HT1.out.fine
                  have wa : IntKind.i64.wrap (l + dl) = l + dl := IntWalk.i64_in _ (by omega)
                  have wc : IntKind.i64.wrap (h + dh) = h + dh := IntWalk.i64_in _ (by omega)
                  have wb : IntKind.i64.wrap (l + dl + 0) = l + dl := by rw [Int.add_zero]; exact wa
                  have wd : IntKind.i64.wrap (h + dh + 0) = h + dh := by rw [Int.add_zero]; exact wc
                  have HTo := Lib.hid (fun w => B_To_any (l + dl) (h + dh) w)
                  have Hwr := Lib.hid (fun w => show Calls Try.prog 45 #[SpV l4 h4, SpV (l + dl) (h + dh)] w fun e w' => e = .returned (.bool true) ∧ Up w w' by rw [← decide_eq_true (show l + dl ≤ l4 ∧ h4 ≤ h + dh from ⟨by omega, by omega⟩)]; exact B_Within_any _ _ _ _ w)
                  refine wp_region_held_drew (S := fun w' => Up w w' ∧ mblk w' w.heap.size = some (.cells (BC f s j dl dh ticks (.slice a n c) (.slice a' ls.length c')) 44 (0, 0)) ∧ mblk w' p11 = some (.cells #[.int .i64 l, .int .i64 h] 23 (0, 0)) ∧ mblk w' p18 = some (.cells #[.int .i64 l4, .int .i64 h4] 23 (0, 0))) (by kernel_rfl) ⟨V4.drew, by rw [blk_drew]; exact k6, by rw [blk_drew]; exact m11, by rw [blk_drew]; exact m18⟩ (fun hHeld => ?_)
                  clear V4 k6 m11 m18
                  refine takeH (i := 0) (d := (some 142)) (v := ?v49) rfl rfl (by kernel_rfl) (by kernel_rfl) (by kernel_rfl) (fun _ _ _ h => h) (by rfl) ?hy49 (by assumption) ?_
                  case hy49 => ((intro w hSw; (try dsimp only at hSw); (try go_split_ands); go_simp); try with_reducible rfl)
                  simp only [Act.put, List.setIfInBounds_toArray, List.set_cons_zero, List.set_cons_succ]
                  refine takeH (i := 1) (d := (some 143)) (v := ?v50) rfl rfl (by kernel_rfl) (by kernel_rfl) (by kernel_rfl) (fun _ _ _ h => h) (by rfl) ?hy50 (by assumption) ?_
                  case hy50 => ((intro w hSw; (try dsimp only at hSw); (try go_split_ands); go_simp); try with_reducible rfl)
                  simp only [Act.put, List.setIfInBounds_toArray, List.set_cons_zero, List.set_cons_succ]
                  refine takeH (i := 2) (d := (some 144)) (v := ?v51) rfl rfl (by kernel_rfl) (by kernel_rfl) (by kernel_rfl) (fun _ _ _ h => h) (by rfl) ?hy51 (by assumption) ?_
                  case hy51 => ((intro w hSw; (try dsimp only at hSw); (try go_split_ands); go_simp); try with_reducible rfl)
                  simp only [Act.put, List.setIfInBounds_toArray, List.set_cons_zero, List.set_cons_succ]
                  refine takeH (i := 3) (d := (some 145)) (v := ?v52) rfl rfl (by kernel_rfl) (by kernel_rfl) (by kernel_rfl) (fun _ _ _ h => h) (by rfl) ?hy52 (by assumption) ?_
                  case hy52 => ((intro w hSw; (try dsimp only at hSw); (try go_split_ands); go_simp); try with_reducible rfl)
                  simp only [Act.put, List.setIfInBounds_toArray, List.set_cons_zero, List.set_cons_succ]
                  refine takeH (i := 4) (d := (some 146)) (v := ?v53) rfl rfl (by kernel_rfl) (by kernel_rfl) (by kernel_rfl) (fun _ _ _ h => h) (by rfl) ?hy53 (by assumption) ?_
                  case hy53 => ((intro w hSw; (try dsimp only at hSw); (try go_split_ands); go_simp); try with_reducible rfl)
                  simp only [Act.put, List.setIfInBounds_toArray, List.set_cons_zero, List.set_cons_succ]
                  refine takeH (i := 6) (d := (some 148)) (v := ?v54) rfl rfl (by kernel_rfl) (by kernel_rfl) (by kernel_rfl) (fun _ _ _ h => h) (by rfl) ?hy54 (by assumption) ?_
                  case hy54 => ((intro w hSw; (try dsimp only at hSw); (try go_split_ands); go_simp); try with_reducible rfl)
                  simp only [Act.put, List.setIfInBounds_toArray, List.set_cons_zero, List.set_cons_succ]
                  refine takeH (i := 11) (d := (some 153)) (v := ?v55) rfl rfl (by kernel_rfl) (by kernel_rfl) (by kernel_rfl) (fun _ _ _ h => h) (by rfl) ?hy55 (by assumption) ?_
                  case hy55 => ((intro w hSw; (try dsimp only at hSw); (try go_split_ands); go_simp); try with_reducible rfl)
                  simp only [Act.put, List.setIfInBounds_toArray, List.set_cons_zero, List.set_cons_succ]
                  refine takeH (i := 13) (d := (some 155)) (v := ?v56) rfl rfl (by kernel_rfl) (by kernel_rfl) (by kernel_rfl) (fun _ _ _ h => h) (by rfl) ?hy56 (by assumption) ?_
                  case hy56 => ((intro w hSw; (try dsimp only at hSw); (try go_split_ands); go_simp); try with_reducible rfl)
                  simp only [Act.put, List.setIfInBounds_toArray, List.set_cons_zero, List.set_cons_succ]
                  refine takeH (i := 15) (d := (some 157)) (v := ?v57) rfl rfl (by kernel_rfl) (by kernel_rfl) (by kernel_rfl) (fun _ _ _ h => h) (by rfl) ?hy57 (by assumption) ?_
                  case hy57 => ((intro w hSw; (try dsimp only at hSw); (try go_split_ands); go_simp); try with_reducible rfl)
                  simp only [Act.put, List.setIfInBounds_toArray, List.set_cons_zero, List.set_cons_succ]
                  refine takeH (i := 20) (d := (some 162)) (v := ?v58) rfl rfl (by kernel_rfl) (by kernel_rfl) (by kernel_rfl) (fun _ _ _ h => h) (by rfl) ?hy58 (by assumption) ?_
                  case hy58 => ((intro w hSw; (try dsimp only at hSw); (try go_split_ands); go_simp); try with_reducible rfl)
                  simp only [Act.put, List.setIfInBounds_toArray, List.set_cons_zero, List.set_cons_succ]
                  refine takeH (i := 5) (d := (some 147)) (v := ?v59) rfl rfl (by kernel_rfl) (by kernel_rfl) (by kernel_rfl) (fun _ _ _ h => h) (by rfl) ?hy59 (by assumption) ?_
                  case hy59 => ((intro w hSw; (try dsimp only at hSw); (try go_split_ands); go_simp); try with_reducible rfl)
                  simp only [Act.put, List.setIfInBounds_toArray, List.set_cons_zero, List.set_cons_succ]
                  refine takeH (i := 7) (d := (some 149)) (v := ?v60) rfl rfl (by kernel_rfl) (by kernel_rfl) (by kernel_rfl) (fun _ _ _ h => h) (by rfl) ?hy60 (by assumption) ?_
                  case hy60 => ((intro w hSw; (try dsimp only at hSw); (try go_split_ands); go_simp); try with_reducible rfl)
                  simp only [Act.put, List.setIfInBounds_toArray, List.set_cons_zero, List.set_cons_succ]
                  refine takeH (i := 14) (d := (some 156)) (v := ?v61) rfl rfl (by kernel_rfl) (by kernel_rfl) (by kernel_rfl) (fun _ _ _ h => h) (by rfl) ?hy61 (by assumption) ?_
                  case hy61 => ((intro w hSw; (try dsimp only at hSw); (try go_split_ands); go_simp); try with_reducible rfl)
                  simp only [Act.put, List.setIfInBounds_toArray, List.set_cons_zero, List.set_cons_succ]
                  refine takeH (i := 16) (d := (some 158)) (v := ?v62) rfl rfl (by kernel_rfl) (by kernel_rfl) (by kernel_rfl) (fun _ _ _ h => h) (by rfl) ?hy62 (by assumption) ?_
                  case hy62 => ((intro w hSw; (try dsimp only at hSw); (try go_split_ands); go_simp); try with_reducible rfl)
                  simp only [Act.put, List.setIfInBounds_toArray, List.set_cons_zero, List.set_cons_succ]
                  refine takeH (i := 8) (d := (some 150)) (v := ?v63) rfl rfl (by kernel_rfl) (by kernel_rfl) (by kernel_rfl) (fun _ _ _ h => h) (by rfl) ?hy63 (by assumption) ?_
                  case hy63 => ((intro w hSw; (try dsimp only at hSw); (try go_split_ands); go_simp); try with_reducible rfl)
                  simp only [Act.put, List.setIfInBounds_toArray, List.set_cons_zero, List.set_cons_succ]
                  refine takeH (i := 17) (d := (some 159)) (v := ?v64) rfl rfl (by kernel_rfl) (by kernel_rfl) (by kernel_rfl) (fun _ _ _ h => h) (by rfl) ?hy64 (by assumption) ?_
                  case hy64 => ((intro w hSw; (try dsimp only at hSw); (try go_split_ands); go_simp); try with_reducible rfl)
                  simp only [Act.put, List.setIfInBounds_toArray, List.set_cons_zero, List.set_cons_succ]
                  refine takeH (i := 9) (d := (some 151)) (v := ?v65) rfl rfl (by kernel_rfl) (by kernel_rfl) (by kernel_rfl) (fun _ _ _ h => h) (by rfl) ?hy65 (by assumption) ?_
                  case hy65 => ((intro w hSw; (try dsimp only at hSw); (try go_split_ands); go_simp); try with_reducible rfl)
                  simp only [Act.put, List.setIfInBounds_toArray, List.set_cons_zero, List.set_cons_succ]
                  refine takeH (i := 18) (d := (some 160)) (v := ?v66) rfl rfl (by kernel_rfl) (by kernel_rfl) (by kernel_rfl) (fun _ _ _ h => h) (by rfl) ?hy66 (by assumption) ?_
                  case hy66 => ((intro w hSw; (try dsimp only at hSw); (try go_split_ands); go_simp); try with_reducible rfl)
                  simp only [Act.put, List.setIfInBounds_toArray, List.set_cons_zero, List.set_cons_succ]
                  refine takeH (i := 10) (d := (some 152)) (v := ?v67) rfl rfl (by kernel_rfl) (by kernel_rfl) (by kernel_rfl) (fun _ _ _ h => h) (by rfl) ?hy67 (by assumption) ?_
                  case hy67 => ((intro w hSw; (try dsimp only at hSw); (try go_split_ands); go_simp); try with_reducible rfl)
                  simp only [Act.put, List.setIfInBounds_toArray, List.set_cons_zero, List.set_cons_succ]
                  refine takeH (i := 19) (d := (some 161)) (v := ?v68) rfl rfl (by kernel_rfl) (by kernel_rfl) (by kernel_rfl) (fun _ _ _ h => h) (by rfl) ?hy68 (by assumption) ?_
                  case hy68 => ((intro w hSw; (try dsimp only at hSw); (try go_split_ands); go_simp); try with_reducible rfl)
                  simp only [Act.put, List.setIfInBounds_toArray, List.set_cons_zero, List.set_cons_succ]
                  refine takeH (i := 12) (d := (some 154)) (v := ?v69) rfl rfl (by kernel_rfl) (by kernel_rfl) (by kernel_rfl) (fun _ _ _ h => h) (by rfl) ?hy69 (by assumption) ?_
                  case hy69 => ((intro w hSw; (try dsimp only at hSw); (try go_split_ands); go_simp); try with_reducible rfl)
                  simp only [Act.put, List.setIfInBounds_toArray, List.set_cons_zero, List.set_cons_succ]
                  refine takeH (i := 21) (d := (some 163)) (v := ?v70) rfl rfl (by kernel_rfl) (by kernel_rfl) (by kernel_rfl) (fun _ _ _ h => h) (by rfl) ?hy70 (by assumption) ?_
                  case hy70 => ((intro w hSw; (try dsimp only at hSw); (try go_split_ands); go_simp); try with_reducible rfl)
                  simp only [Act.put, List.setIfInBounds_toArray, List.set_cons_zero, List.set_cons_succ]
                  refine wpAnyH_ready (rs := [22]) (by kernel_rfl) (by simp) ?_
                  refine AllReadyH.cons rfl (fun K hK => ?_) AllReadyH.nil
                  go_simp
                  refine (HTo.out _).mono ?_
                  rintro e w6 ⟨rfl, u6⟩
                  go_wp2_with fail
                  refine hK.out _ _ ⟨hHeld.1.trans u6, u6.blk hHeld.2.1, u6.blk hHeld.2.2.1, u6.blk hHeld.2.2.2⟩ (fun hHeld => ?_)
                  clear hK K u6
                  refine wpAnyH_ready (rs := [23]) (by kernel_rfl) (by simp) ?_
                  refine AllReadyH.cons rfl (fun K hK => ?_) AllReadyH.nil
                  go_simp
                  refine (Hwr.out _).mono ?_
                  rintro e w6 ⟨rfl, u6⟩
                  go_wp2_with fail
                  refine hK.out _ _ ⟨hHeld.1.trans u6, u6.blk hHeld.2.1, u6.blk hHeld.2.2.1, u6.blk hHeld.2.2.2⟩ (fun hHeld => ?_)
                  clear hK K u6
                  refine takeH (i := 24) (d := (some 166)) (v := ?v73) rfl rfl (by kernel_rfl) (by kernel_rfl) (by kernel_rfl) (fun _ _ _ h => h) (by rfl) ?hy73 (by assumption) ?_
                  case hy73 => ((intro w hSw; (try dsimp only at hSw); (try go_split_ands); go_simp); try with_reducible rfl)
                  simp only [Act.put, List.setIfInBounds_toArray, List.set_cons_zero, List.set_cons_succ]
                  refine takeH (i := 25) (d := (some 167)) (v := ?v74) rfl rfl (by kernel_rfl) (by kernel_rfl) (by kernel_rfl) (fun _ _ _ h => h) (by rfl) ?hy74 (by assumption) ?_
                  case hy74 => ((intro w hSw; (try dsimp only at hSw); (try go_split_ands); go_simp); try with_reducible rfl)
                  simp only [Act.put, List.setIfInBounds_toArray, List.set_cons_zero, List.set_cons_succ]
                  refine wpAnyH_ready (rs := [26]) (by kernel_rfl) (by simp) ?_
                  refine AllReadyH.cons rfl (fun K hK => ?_) AllReadyH.nil
                  go_simp
                  refine (HW.out _).mono ?_
                  rintro e w6 ⟨rfl, u6⟩
                  go_wp2_with fail
                  refine hK.out _ _ ⟨hHeld.1.trans u6, u6.blk hHeld.2.1, u6.blk hHeld.2.2.1, u6.blk hHeld.2.2.2⟩ (fun hHeld => ?_)
                  clear hK K u6
                  refine takeH (i := 27) (d := (some 169)) (v := ?v76) rfl rfl (by kernel_rfl) (by kernel_rfl) (by kernel_rfl) (fun _ _ _ h => h) (by rfl) ?hy76 (by assumption) ?_
                  case hy76 => ((intro w hSw; (try dsimp only at hSw); (try go_split_ands); go_simp); try with_reducible rfl)
                  simp only [Act.put, List.setIfInBounds_toArray, List.set_cons_zero, List.set_cons_succ]
                  refine takeH (i := 28) (d := (some 6)) (v := ?v77) rfl rfl (by kernel_rfl) (by kernel_rfl) (by kernel_rfl) (fun _ _ _ h => h) (by rfl) ?hy77 (by assumption) ?_
                  case hy77 => ((intro w hSw; (try dsimp only at hSw); (try go_split_ands); go_simp); try with_reducible rfl)
                  simp only [Act.put, List.setIfInBounds_toArray, List.set_cons_zero, List.set_cons_succ]
                  refine wpAnyH_done (by kernel_rfl) ?_ _
                  go_wp2
                  go_ret
                  exact ⟨rfl, hHeld.1⟩
            · obtain ⟨rfl, rfl⟩ := HT2.out.ne0 hr2
              have h42 : r2 = 40 ∨ r2 = 42 := by
                cases hbx : S.bookOk f s j dl dh ticks xs (ls ++ [(mt, ml, mh)])
                · exact .inl (HT2.out.no hbx).2.2
                · rcases HT2.out.yes hbx ⟨t1, by omega⟩ with ⟨_, _, q, _⟩ | ⟨q, _⟩
                  · exact .inr q
                  · exact absurd q hr2
              clear HT2 HT1
              rcases h42 with rfl | rfl
              · go_wp2_with fail
                refine (HW.out _).mono ?_
                rintro e w4 ⟨rfl, u⟩
                go_wp2
                go_ret
                exact ⟨rfl, (V0.trans AT).trans u⟩
              · go_wp2_with fail
                refine (HW.out _).mono ?_
                rintro e w4 ⟨rfl, u⟩
                go_wp2
                go_ret
                exact ⟨rfl, (V0.trans AT).trans u⟩
          · have hl0' : (0 : Int) < (ls.length : Int) := by omega
            have hlp : 0 < ls.length := by omega
            obtain ⟨a1, c1, e1, _, _, hmm⟩ := (HI'.out w (Up.refl w)).is
            injection e1 with e1 e2 e3
            subst e1 e3
            clear e2
            obtain ⟨g, off, rfl, gl, hc⟩ := hmm (by omega)
            obtain ⟨y1, y2, y3⟩ := hc 0 hlp
            obtain ⟨zz, hzz⟩ : ∃ q, ls.getD 0 (0, 0, 0) = q := ⟨_, rfl⟩
            have hzm : zz ∈ ls := by
              rw [← hzz, List.getD_eq_getElem?_getD, List.getElem?_eq_getElem hlp]
              exact List.getElem_mem hlp
            rw [hzz] at y1 y2 y3
            obtain ⟨lt, ll, lh⟩ := zz
            simp only at y1 y2 y3
            replace y1 := V.cell2 y1
            replace y2 := V.cell2 y2
            replace y3 := V.cell2 y3
            clear hc hmm hzz hWn
            go_wp2_with fail
            refine (wpIn_wide (n := 5)).1 ?_
            refine wpIn_nrm ?_
            refine regionG (fun w' => (Up w w' ∧ mblk w' p8 = some (.cells (BC f s j dl dh ticks (.slice a n c) (.slice (some ⟨g2, 0, none⟩) (ls.length + 1) cap)) 44 (0, 0)) ∧ mblk w' g2 = some (.cells curx 71 (0, 0))) ∧ mblk w' w.heap.size = some (.cells (BC f s j dl dh ticks (.slice a n c) (.slice (some ⟨g, off, none⟩) ls.length c')) 44 (0, 0)) ∧ mblk w' p9 = some (.cells (BC f s j dl dh ticks (.slice a n c) v) 44 (0, 0)) ∧ w'.cell? ⟨g, off, none⟩ = some (.int .i64 lt) ∧ w'.cell? ⟨g, off + 1, none⟩ = some (.int .i64 ll) ∧ w'.cell? ⟨g, off + 2, none⟩ = some (.int .i64 lh)) 9 (by kernel_rfl) ⟨⟨V.drew, by rw [blk_drew]; exact x8, by rw [blk_drew]; exact yb⟩, by rw [blk_drew]; exact k6, by rw [blk_drew]; exact x9, y1, y2, y3⟩ (fun hHeld hCl => ?_)
            refine takeG (i := 0) (d := (some 66)) (v := ?v78) rfl rfl (by kernel_rfl) (by kernel_rfl) (by decide) hCl (by kernel_rfl) (by kernel_rfl) (by kernel_rfl) (fun _ _ _ h => h) (by rfl) ?hy78 (fun _ _ _ => trivial) (by assumption) (fun hCl' => ?_)
            case hy78 => ((intro w hSw; (try dsimp only at hSw); (try go_split_ands); go_simp); try with_reducible rfl)
            simp only [Act.put, List.setIfInBounds_toArray, List.set_cons_zero, List.set_cons_succ]
            replace hCl := hCl'; clear hCl'
            refine takeG (i := 2) (d := (some 68)) (v := ?v79) rfl rfl (by kernel_rfl) (by kernel_rfl) (by decide) hCl (by kernel_rfl) (by kernel_rfl) (by kernel_rfl) (fun _ _ _ h => h) (by rfl) ?hy79 (fun _ _ _ => trivial) (by assumption) (fun hCl' => ?_)
            case hy79 => ((intro w hSw; (try dsimp only at hSw); (try go_split_ands); go_simp); try with_reducible rfl)
            simp only [Act.put, List.setIfInBounds_toArray, List.set_cons_zero, List.set_cons_succ]
            replace hCl := hCl'; clear hCl'
            refine takeG (i := 1) (d := (some 67)) (v := ?v80) rfl rfl (by kernel_rfl) (by kernel_rfl) (by decide) hCl (by kernel_rfl) (by kernel_rfl) (by kernel_rfl) (fun _ _ _ h => h) (by rfl) ?hy80 (fun _ _ _ => trivial) (by assumption) (fun hCl' => ?_)
            case hy80 => ((intro w hSw; (try dsimp only at hSw); (try go_split_ands); go_simp); try with_reducible rfl)
            simp only [Act.put, List.setIfInBounds_toArray, List.set_cons_zero, List.set_cons_succ]
            replace hCl := hCl'; clear hCl'
            refine takeG (i := 3) (d := (some 69)) (v := ?v81) rfl rfl (by kernel_rfl) (by kernel_rfl) (by decide) hCl (by kernel_rfl) (by kernel_rfl) (by kernel_rfl) (fun _ _ _ h => h) (by rfl) ?hy81 (fun _ _ _ => trivial) (by assumption) (fun hCl' => ?_)
            case hy81 => ((intro w hSw; (try dsimp only at hSw); (try go_split_ands); go_simp); try with_reducible rfl)
            simp only [Act.put, List.setIfInBounds_toArray, List.set_cons_zero, List.set_cons_succ]
            replace hCl := hCl'; clear hCl'
            refine takeG (i := 4) (d := (some 70)) (v := ?v82) rfl rfl (by kernel_rfl) (by kernel_rfl) (by decide) hCl (by kernel_rfl) (by kernel_rfl) (by kernel_rfl) (fun _ _ _ h => h) (by rfl) ?hy82 (fun _ _ _ => trivial) (by assumption) (fun hCl' => ?_)
            case hy82 => ((intro w hSw; (try dsimp only at hSw); (try go_split_ands); go_simp); try with_reducible rfl)
            simp only [Act.put, List.setIfInBounds_toArray, List.set_cons_zero, List.set_cons_succ]
            replace hCl := hCl'; clear hCl'
            refine takeG (i := 5) (d := (some 71)) (v := ?v83) rfl rfl (by kernel_rfl) (by kernel_rfl) (by decide) hCl (by kernel_rfl) (by kernel_rfl) (by kernel_rfl) (fun _ _ _ h => h) (by rfl) ?hy83 (fun _ _ _ => trivial) (by assumption) (fun hCl' => ?_)
            case hy83 => ((intro w hSw; (try dsimp only at hSw); (try go_split_ands); go_simp); try with_reducible rfl)
            simp only [Act.put, List.setIfInBounds_toArray, List.set_cons_zero, List.set_cons_succ]
            replace hCl := hCl'; clear hCl'
            refine nextG (i := 6) (by kernel_rfl) rfl (by rfl) hCl (fun K hK => ?_)
            go_simp
            clear hHeld
            have A1 : Up wr (wr.alloc (.cells #[.int .i64 lt, .int .i64 ll, .int .i64 lh] 71)).drew := Up.drew (Up.alloc (Up.refl wr) _)
            have pl : mblk (wr.alloc (.cells #[.int .i64 lt, .int .i64 ll, .int .i64 lh] 71)).drew wr.heap.size = some (.cells #[.int .i64 lt, .int .i64 ll, .int .i64 lh] 71 (0, 0)) := by rw [blk_drew]; exact blk_new _ _ _ rfl
            obtain ⟨q7, hq7⟩ : ∃ q, wr.heap.size = q := ⟨_, rfl⟩
            obtain ⟨X1, hX1⟩ : ∃ X, (wr.alloc (.cells #[.int .i64 lt, .int .i64 ll, .int .i64 lh] 71)).drew = X := ⟨_, rfl⟩
            rw [hX1] at A1 pl
            rw [hq7] at pl
            have hb1 : bq ≤ X1.heap.size := Nat.le_trans hbq (Up.size A1)
            try rw [hX1]
            try rw [hq7]
            refine hK.out _ _ ⟨⟨V.trans A1, Up.blk A1 x8, Up.blk A1 yb⟩, Up.blk A1 k6, Up.blk A1 x9, Up.cell2 A1 y1, Up.cell2 A1 y2, Up.cell2 A1 y3⟩ (fun _ hCl => ?_)
            clear hK K hX1 hq7
            try simp only [Act.put, List.setIfInBounds_toArray, List.set_cons_zero, List.set_cons_succ]
            refine nextG (i := 7) (by kernel_rfl) rfl (by rfl) hCl (fun K hK => ?_)
            have R1 := row_up hown A1
            refine opIn_append_look (.tmp 67) (.tmp 72) rfl q7 pl rfl bq _ (ls.length) ls.reverse rfl R1 (by omega) hb1 ?_
            intro v2 X2 R2 hg2
            obtain ⟨ra, rc, rfl, _, _⟩ := row_val R2
            have V2 := Up.grown (V.trans A1) hg2 (fun k e => by have := row_base R1 k e; omega)
            have e8 := grown_blk hg2 (Up.blk A1 x8) (row_block R1 l8)
            have e9 := grown_blk hg2 (Up.blk A1 x9) (row_block R1 l9)
            have ek := grown_blk hg2 (Up.blk A1 k6) (row_block R1 lk)
            have eb := grown_blk hg2 (Up.blk A1 yb) (row_block R1 lg)
            have f1 := hg2.cell (Up.cell2 A1 y1) (row_block R1 (show g < bq by omega))
            have f2 := hg2.cell (Up.cell2 A1 y2) (row_block R1 (show g < bq by omega))
            have f3 := hg2.cell (Up.cell2 A1 y3) (row_block R1 (show g < bq by omega))
            have hb2 : bq ≤ X2.heap.size := Nat.le_trans hb1 hg2.size
            refine hK.out _ _ ⟨⟨V2, e8, eb⟩, ek, e9, f1, f2, f3⟩ (fun _ hCl => ?_)
            clear hK K hg2 A1 pl R1 hb1
            try simp only [Act.put, List.setIfInBounds_toArray, List.set_cons_zero, List.set_cons_succ]
            refine takeG (i := 8) (d := (some 74)) (v := ?v85) rfl rfl (by kernel_rfl) (by kernel_rfl) (by decide) hCl (by kernel_rfl) (by kernel_rfl) (by kernel_rfl) (fun _ _ _ h => h) (by rfl) ?hy85 (fun _ _ _ => trivial) (by assumption) (fun hCl' => ?_)
            case hy85 => ((intro w hSw; (try dsimp only at hSw); (try go_split_ands); go_simp); try with_reducible rfl)
            simp only [Act.put, List.setIfInBounds_toArray, List.set_cons_zero, List.set_cons_succ]
            replace hCl := hCl'; clear hCl'
            have zf := frozB e9
            clear hCl
            refine lastG (i := 9) (by kernel_rfl) rfl (by rfl) (by decide) (fun K hK => ?_)
            go_simp
            obtain ⟨Z, hZ⟩ : ∃ X, X2.setCell ⟨p9, 7, none⟩ (.slice ra (ls.length + 1) rc) = X := ⟨_, rfl⟩
            have V3 : Up w Z := by rw [← hZ]; exact Up.set V2 (p := ⟨p9, 7, none⟩) (show w.heap.size ≤ p9 by omega) _
            have k3 : mblk Z w.heap.size = some (.cells (BC f s j dl dh ticks (.slice a n c) (.slice (some ⟨g, off, none⟩) ls.length c')) 44 (0, 0)) := by rw [← hZ, blk_set _ _ _ _ (by show w.heap.size ≠ p9; omega)]; exact ek
            have d8 : mblk Z p8 = some (.cells (BC f s j dl dh ticks (.slice a n c) (.slice (some ⟨g2, 0, none⟩) (ls.length + 1) cap)) 44 (0, 0)) := by rw [← hZ, blk_set _ _ _ _ (by show p8 ≠ p9; omega)]; exact e8
            have d9 : mblk Z p9 = some (.cells (BC f s j dl dh ticks (.slice a n c) (.slice ra (ls.length + 1) rc)) 44 (0, 0)) := by rw [← hZ]; exact blk_put e9 7 _
            have db : mblk Z g2 = some (.cells curx 71 (0, 0)) := by rw [← hZ, blk_set _ _ _ _ (by show g2 ≠ p9; omega)]; exact eb
            have R3 := ownsRow_setCell_other R2 (a := ⟨p9, 7, none⟩) (fun e => row_block R2 l9 e.symm) (.slice ra (ls.length + 1) rc)
            have hb3 : bq ≤ Z.heap.size := by have := Up.size V3; rw [← hZ]; simpa using hb2
            rw [hZ] at R3
            try rw [hZ]
            refine hK.out _ _ ?_
            clear hK K hZ V2 ek e8 e9 eb R2 zf f1 f2 f3 hb2 V k6 x8 x9 yb hown hbq y1 y2 y3
            refine doneG (by kernel_rfl) ?_ _
            refine S.nrm_intro ?_
            have LKy := lks_of_row R3 (by omega)
            have hy1 : ∀ y ∈ ls.reverse ++ [(lt, ll, lh)], y ∈ ls := fun y h => (List.mem_append.1 h).elim (fun h => List.mem_reverse.1 h) (fun h => by rw [List.mem_singleton] at h; rw [h]; exact hzm)
            have hy2 : ∀ y ∈ ls, y ∈ ls.reverse ++ [(lt, ll, lh)] := fun y h => List.mem_append_left _ (List.mem_reverse.2 h)
            have hyl : (ls.reverse ++ [(lt, ll, lh)]).length ≤ 10 := by rw [List.length_append, List.length_reverse]; simp; omega
            obtain ⟨ys, hys⟩ : ∃ q, ls.reverse ++ [(lt, ll, lh)] = q := ⟨_, rfl⟩
            rw [hys] at LKy hy1 hy2 hyl
            have V := V3
            have k6 := k3
            have x8 := d8
            have x9 := d9
            have yb := db
            clear R3 hys hcn hb3 V3 k3 d8 d9 db hm hz hzm gl hl0 l8 l9 lk lg
            have LKx := lks_of_blk yb hcap hcapm hcs htk (by simp) (by omega)
            have HXx := Lib.hid (fun w' u => Error_any (f := f) (s := s) (j := j) (dl := dl) (dh := dh) (ticks := ticks) (HI.out w' (V.trans u)) (LKx.up u) (t : Int))
            have HXy := Lib.hid (fun w' u => Error_any (f := f) (s := s) (j := j) (dl := dl) (dh := dh) (ticks := ticks) (HI.out w' (V.trans u)) (LKy.up u) (t : Int))
            have HYb := HB2.out ys hy1 hyl
            have HYb' := Lib.hid HYb
            have hyy1 := Lib.hid hy1
            have hyy2 := Lib.hid hy2
            have AT := Up.refl Z
            have V0 := V
            clear yb LKx LKy HYb hy1 hy2 hyl HB2 HI'
            go_wp2_with fail
            refine (HE.out _ V (t : Int)).mono ?_
            rintro e w1 ⟨l, h, r, rfl, T1, u⟩
            clear V
            have HT1 := Lib.hid T1
            clear T1
            have m11 := blk_new w1 (.cells #[.int .i64 l, .int .i64 h] 23) _ rfl
            have b_k6 := blk_lt (u.blk k6)
            have b_x8 := blk_lt (u.blk x8)
            have b_x9 := blk_lt (u.blk x9)
            have A := Up.alloc u (.cells #[.int .i64 l, .int .i64 h] 23)
            replace k6 := Up.blk A k6
            replace x8 := Up.blk A x8
            replace x9 := Up.blk A x9
            replace AT := AT.trans A
            clear u A
            obtain ⟨p11, hp⟩ : ∃ p, w1.heap.size = p := ⟨_, rfl⟩
            obtain ⟨Z11, hZ⟩ : ∃ W, w1.alloc (.cells #[.int .i64 l, .int .i64 h] 23) = W := ⟨_, rfl⟩
            rw [hp] at m11 b_k6 b_x8 b_x9
            rw [hZ] at m11 AT k6 x8 x9
            go_wp2_with fail
            try rw [hZ]
            try rw [hp]
            clear hp hZ b_k6 b_x8 b_x9
            refine (HXx.out _ AT).mono ?_
            rintro e w2 ⟨lu, hu, r2, rfl, T2, u⟩
            have HT2 := Lib.hid T2
            clear T2
            have m13 := blk_new w2 (.cells #[.int .i64 lu, .int .i64 hu] 23) _ rfl
            have b_k6 := blk_lt (u.blk k6)
            have b_x9 := blk_lt (u.blk x9)
            have b_m11 := blk_lt (u.blk m11)
            have A := Up.alloc u (.cells #[.int .i64 lu, .int .i64 hu] 23)
            replace k6 := Up.blk A k6
            replace x9 := Up.blk A x9
            replace m11 := Up.blk A m11
            replace AT := AT.trans A
            clear u A
            obtain ⟨p13, hp⟩ : ∃ p, w2.heap.size = p := ⟨_, rfl⟩
            obtain ⟨Z13, hZ⟩ : ∃ W, w2.alloc (.cells #[.int .i64 lu, .int .i64 hu] 23) = W := ⟨_, rfl⟩
            rw [hp] at m13 b_k6 b_x9 b_m11
            rw [hZ] at m13 AT k6 x9 m11
            go_wp2_with fail
            try rw [hZ]
            try rw [hp]
            clear hp hZ b_k6 b_x9 b_m11
            refine (HXy.out _ AT).mono ?_
            rintro e w3 ⟨lv, hv, r3, rfl, T3, u⟩
            obtain ⟨rfl, rfl, rfl⟩ := HT1.out.same T3 HB1.out HYb'.out ⟨t1, by omega⟩ hyy2.out hyy1.out
            clear T3 HXx HXy
            have m15 := blk_new w3 (.cells #[.int .i64 l, .int .i64 h] 23) _ rfl
            have b_k6 := blk_lt (u.blk k6)
            have b_m11 := blk_lt (u.blk m11)
            have b_m13 := blk_lt (u.blk m13)
            have A := Up.alloc u (.cells #[.int .i64 l, .int .i64 h] 23)
            replace k6 := Up.blk A k6
            replace m11 := Up.blk A m11
            replace m13 := Up.blk A m13
            replace AT := AT.trans A
            clear u A
            obtain ⟨p15, hp⟩ : ∃ p, w3.heap.size = p := ⟨_, rfl⟩
            obtain ⟨Z15, hZ⟩ : ∃ W, w3.alloc (.cells #[.int .i64 l, .int .i64 h] 23) = W := ⟨_, rfl⟩
            rw [hp] at m15 b_k6 b_m11 b_m13
            rw [hZ] at m15 AT k6 m11 m13
            by_cases hr2 : r2 = 0
            · subst hr2
              have key := HT2.out.wider HT1.out HT2.out.ok0.1 HB1.out ⟨t1, by omega⟩ (fun v hv => hv.less)
              rcases key with ⟨h42, _⟩ | ⟨_, rfl, q1, q2⟩
              · omega
              · have HWi := Lib.hid (fun w => show Calls Try.prog 45 #[SpV lu hu, SpV l h] w fun e w' => e = .returned (.bool true) ∧ Up w w' by rw [← decide_eq_true (show l ≤ lu ∧ hu ≤ h from ⟨q1, q2⟩)]; exact B_Within_any _ _ _ _ w)
                clear q1 q2 HT2
                by_cases hk : t < xs.length
                · have hk' : (t : Int) < (n : Int) := by have := HLn.out; omega
                  have hxb := HXs.out t hk
                  obtain ⟨a2, c2, e2, _, _, hm2⟩ := (HI.out w (Up.refl w)).is
                  injection e2 with e2 e3 e4
                  subst e2 e4
                  clear e3
                  obtain ⟨ga, oa, rfl, gal, hca⟩ := hm2 (by omega)
                  have cxx := (((V0.trans AT).cell2 (hca t hk)))
                  obtain ⟨xv, hxv⟩ : ∃ x, xs.getD t 0 = x := ⟨_, rfl⟩
                  rw [hxv] at cxx hxb
                  have hgx := Lib.hid hxv
                  have HCx := Lib.hid (fun w' (u : Up Z15 w') => u.cell2 cxx)
                  clear hm2 hca hxv hk
                  go_wp2_with fail
                  refine (HWi.out _).mono ?_
                  rintro e w4 ⟨rfl, u⟩
                  replace k6 := u.blk k6
                  replace m11 := u.blk m11
                  have V4 := (V0.trans AT).trans u
                  have cx4 := HCx.out _ u
                  clear HCx
                  clear u AT V0 m15 m13
                  have wt : IntKind.i64.wrap ((t : Int) + 1) = (t : Int) + 1 := IntWalk.i64_in _ (by omega)
                  go_wp2_with fail
                  refine (HE.out _ V4 ((t : Int) + 1)).mono ?_
                  rintro e w5 ⟨l4, h4, r4, rfl, T4, u5⟩
                  obtain ⟨rfl, q3, q4⟩ := HT1.out.next T4 HB1.out t2
                  rw [hgx.out] at q3 q4
                  have A5 := Up.alloc u5 (.cells #[.int .i64 l4, .int .i64 h4] 23)
                  have m18 := blk_new w5 (.cells #[.int .i64 l4, .int .i64 h4] 23) _ rfl
                  have b1 := blk_lt (u5.blk m11)
                  have b2 := blk_lt (u5.blk k6)
                  replace m11 := Up.blk A5 m11
                  replace k6 := Up.blk A5 k6
                  replace V4 := V4.trans A5
                  clear T4 u5 A5
                  obtain ⟨p18, hp18⟩ : ∃ p, w5.heap.size = p := ⟨_, rfl⟩
                  obtain ⟨Z5, hZ5⟩ : ∃ W, w5.alloc (.cells #[.int .i64 l4, .int .i64 h4] 23) = W := ⟨_, rfl⟩
                  rw [hp18] at m18 b1 b2
                  rw [hZ5] at m18 m11 k6 V4
                  go_wp2_with fail
                  try rw [hZ5]
                  try rw [hp18]
                  clear hp18 hZ5 b1 b2
                  obtain ⟨f1l, _, f2h⟩ := HT1.out.fine
                  have wa : IntKind.i64.wrap (l + dl) = l + dl := IntWalk.i64_in _ (by omega)
                  have wc : IntKind.i64.wrap (h + dh) = h + dh := IntWalk.i64_in _ (by omega)
                  have wb : IntKind.i64.wrap (l + dl + xv) = l + dl + xv := IntWalk.i64_in _ (by omega)
                  have wd : IntKind.i64.wrap (h + dh + xv) = h + dh + xv := IntWalk.i64_in _ (by omega)
                  have HTo := Lib.hid (fun w => B_To_any (l + dl + xv) (h + dh + xv) w)
                  have HZ := Lib.hid (fun w => show Calls Try.prog 45 #[SpV l4 h4, SpV (l + dl + xv) (h + dh + xv)] w fun e w' => e = .returned (.bool true) ∧ Up w w' by rw [← decide_eq_true (show l + dl + xv ≤ l4 ∧ h4 ≤ h + dh + xv from ⟨by omega, by omega⟩)]; exact B_Within_any _ _ _ _ w)
                  refine wp_region_held_drew (S := fun w' => Up w w' ∧ mblk w' w.heap.size = some (.cells (BC f s j dl dh ticks (.slice (some ⟨ga, oa, none⟩) n c) (.slice (some ⟨g, off, none⟩) ls.length c')) 44 (0, 0)) ∧ mblk w' p11 = some (.cells #[.int .i64 l, .int .i64 h] 23 (0, 0)) ∧ mblk w' p18 = some (.cells #[.int .i64 l4, .int .i64 h4] 23 (0, 0))) (by kernel_rfl) ⟨V4.drew, by rw [blk_drew]; exact k6, by rw [blk_drew]; exact m11, by rw [blk_drew]; exact m18⟩ (fun hHeld => ?_)
                  clear V4 k6 m11 m18
                  refine takeH (i := 0) (d := (some 142)) (v := ?v87) rfl rfl (by kernel_rfl) (by kernel_rfl) (by kernel_rfl) (fun _ _ _ h => h) (by rfl) ?hy87 (by assumption) ?_
                  case hy87 => ((intro w hSw; (try dsimp only at hSw); (try go_split_ands); go_simp); try with_reducible rfl)
                  simp only [Act.put, List.setIfInBounds_toArray, List.set_cons_zero, List.set_cons_succ]
                  refine takeH (i := 1) (d := (some 143)) (v := ?v88) rfl rfl (by kernel_rfl) (by kernel_rfl) (by kernel_rfl) (fun _ _ _ h => h) (by rfl) ?hy88 (by assumption) ?_
                  case hy88 => ((intro w hSw; (try dsimp only at hSw); (try go_split_ands); go_simp); try with_reducible rfl)
                  simp only [Act.put, List.setIfInBounds_toArray, List.set_cons_zero, List.set_cons_succ]
                  refine takeH (i := 2) (d := (some 144)) (v := ?v89) rfl rfl (by kernel_rfl) (by kernel_rfl) (by kernel_rfl) (fun _ _ _ h => h) (by rfl) ?hy89 (by assumption) ?_
                  case hy89 => ((intro w hSw; (try dsimp only at hSw); (try go_split_ands); go_simp); try with_reducible rfl)
                  simp only [Act.put, List.setIfInBounds_toArray, List.set_cons_zero, List.set_cons_succ]
                  refine takeH (i := 3) (d := (some 145)) (v := ?v90) rfl rfl (by kernel_rfl) (by kernel_rfl) (by kernel_rfl) (fun _ _ _ h => h) (by rfl) ?hy90 (by assumption) ?_
                  case hy90 => ((intro w hSw; (try dsimp only at hSw); (try go_split_ands); go_simp); try with_reducible rfl)
                  simp only [Act.put, List.setIfInBounds_toArray, List.set_cons_zero, List.set_cons_succ]
                  refine takeH (i := 4) (d := (some 146)) (v := ?v91) rfl rfl (by kernel_rfl) (by kernel_rfl) (by kernel_rfl) (fun _ _ _ h => h) (by rfl) ?hy91 (by assumption) ?_
                  case hy91 => ((intro w hSw; (try dsimp only at hSw); (try go_split_ands); go_simp); try with_reducible rfl)
                  simp only [Act.put, List.setIfInBounds_toArray, List.set_cons_zero, List.set_cons_succ]
                  refine takeH (i := 6) (d := (some 148)) (v := ?v92) rfl rfl (by kernel_rfl) (by kernel_rfl) (by kernel_rfl) (fun _ _ _ h => h) (by rfl) ?hy92 (by assumption) ?_
                  case hy92 => ((intro w hSw; (try dsimp only at hSw); (try go_split_ands); go_simp); try with_reducible rfl)
                  simp only [Act.put, List.setIfInBounds_toArray, List.set_cons_zero, List.set_cons_succ]
                  refine takeH (i := 11) (d := (some 153)) (v := ?v93) rfl rfl (by kernel_rfl) (by kernel_rfl) (by kernel_rfl) (fun _ _ _ h => h) (by rfl) ?hy93 (by assumption) ?_
                  case hy93 => ((intro w hSw; (try dsimp only at hSw); (try go_split_ands); go_simp); try with_reducible rfl)
                  simp only [Act.put, List.setIfInBounds_toArray, List.set_cons_zero, List.set_cons_succ]
                  refine takeH (i := 13) (d := (some 155)) (v := ?v94) rfl rfl (by kernel_rfl) (by kernel_rfl) (by kernel_rfl) (fun _ _ _ h => h) (by rfl) ?hy94 (by assumption) ?_
                  case hy94 => ((intro w hSw; (try dsimp only at hSw); (try go_split_ands); go_simp); try with_reducible rfl)
                  simp only [Act.put, List.setIfInBounds_toArray, List.set_cons_zero, List.set_cons_succ]
                  refine takeH (i := 15) (d := (some 157)) (v := ?v95) rfl rfl (by kernel_rfl) (by kernel_rfl) (by kernel_rfl) (fun _ _ _ h => h) (by rfl) ?hy95 (by assumption) ?_
                  case hy95 => ((intro w hSw; (try dsimp only at hSw); (try go_split_ands); go_simp); try with_reducible rfl)
                  simp only [Act.put, List.setIfInBounds_toArray, List.set_cons_zero, List.set_cons_succ]
                  refine takeH (i := 20) (d := (some 162)) (v := ?v96) rfl rfl (by kernel_rfl) (by kernel_rfl) (by kernel_rfl) (fun _ _ _ h => h) (by rfl) ?hy96 (by assumption) ?_
                  case hy96 => ((intro w hSw; (try dsimp only at hSw); (try go_split_ands); go_simp); try with_reducible rfl)
                  simp only [Act.put, List.setIfInBounds_toArray, List.set_cons_zero, List.set_cons_succ]
                  refine takeH (i := 5) (d := (some 147)) (v := ?v97) rfl rfl (by kernel_rfl) (by kernel_rfl) (by kernel_rfl) (fun _ _ _ h => h) (by rfl) ?hy97 (by assumption) ?_
                  case hy97 => ((intro w hSw; (try dsimp only at hSw); (try go_split_ands); go_simp); try with_reducible rfl)
                  simp only [Act.put, List.setIfInBounds_toArray, List.set_cons_zero, List.set_cons_succ]
                  refine takeH (i := 7) (d := (some 149)) (v := ?v98) rfl rfl (by kernel_rfl) (by kernel_rfl) (by kernel_rfl) (fun _ _ _ h => h) (by rfl) ?hy98 (by assumption) ?_
                  case hy98 => ((intro w hSw; (try dsimp only at hSw); (try go_split_ands); go_simp); try with_reducible rfl)
                  simp only [Act.put, List.setIfInBounds_toArray, List.set_cons_zero, List.set_cons_succ]
                  refine takeH (i := 14) (d := (some 156)) (v := ?v99) rfl rfl (by kernel_rfl) (by kernel_rfl) (by kernel_rfl) (fun _ _ _ h => h) (by rfl) ?hy99 (by assumption) ?_
                  case hy99 => ((intro w hSw; (try dsimp only at hSw); (try go_split_ands); go_simp); try with_reducible rfl)
                  simp only [Act.put, List.setIfInBounds_toArray, List.set_cons_zero, List.set_cons_succ]
                  refine takeH (i := 16) (d := (some 158)) (v := ?v100) rfl rfl (by kernel_rfl) (by kernel_rfl) (by kernel_rfl) (fun _ _ _ h => h) (by rfl) ?hy100 (by assumption) ?_
                  case hy100 => ((intro w hSw; (try dsimp only at hSw); (try go_split_ands); go_simp); try with_reducible rfl)
                  simp only [Act.put, List.setIfInBounds_toArray, List.set_cons_zero, List.set_cons_succ]
                  refine takeH (i := 8) (d := (some 150)) (v := ?v101) rfl rfl (by kernel_rfl) (by kernel_rfl) (by kernel_rfl) (fun _ _ _ h => h) (by rfl) ?hy101 (by assumption) ?_
                  case hy101 => ((intro w hSw; (try dsimp only at hSw); (try go_split_ands); go_simp); try with_reducible rfl)
                  simp only [Act.put, List.setIfInBounds_toArray, List.set_cons_zero, List.set_cons_succ]
                  refine takeH (i := 17) (d := (some 159)) (v := ?v102) rfl rfl (by kernel_rfl) (by kernel_rfl) (by kernel_rfl) (fun _ _ _ h => h) (by rfl) ?hy102 (by assumption) ?_
                  case hy102 => ((intro w hSw; (try dsimp only at hSw); (try go_split_ands); go_simp); try with_reducible rfl)
                  simp only [Act.put, List.setIfInBounds_toArray, List.set_cons_zero, List.set_cons_succ]
                  refine takeH (i := 9) (d := (some 151)) (v := ?v103) rfl rfl (by kernel_rfl) (by kernel_rfl) (by kernel_rfl) (fun _ _ _ h => h) (by rfl) ?hy103 (by assumption) ?_
                  case hy103 => ((intro w hSw; (try dsimp only at hSw); (try go_split_ands); go_simp); try with_reducible rfl)
                  simp only [Act.put, List.setIfInBounds_toArray, List.set_cons_zero, List.set_cons_succ]
                  refine takeH (i := 18) (d := (some 160)) (v := ?v104) rfl rfl (by kernel_rfl) (by kernel_rfl) (by kernel_rfl) (fun _ _ _ h => h) (by rfl) ?hy104 (by assumption) ?_
                  case hy104 => ((intro w hSw; (try dsimp only at hSw); (try go_split_ands); go_simp); try with_reducible rfl)
                  simp only [Act.put, List.setIfInBounds_toArray, List.set_cons_zero, List.set_cons_succ]
                  refine takeH (i := 10) (d := (some 152)) (v := ?v105) rfl rfl (by kernel_rfl) (by kernel_rfl) (by kernel_rfl) (fun _ _ _ h => h) (by rfl) ?hy105 (by assumption) ?_
                  case hy105 => ((intro w hSw; (try dsimp only at hSw); (try go_split_ands); go_simp); try with_reducible rfl)
                  simp only [Act.put, List.setIfInBounds_toArray, List.set_cons_zero, List.set_cons_succ]
                  refine takeH (i := 19) (d := (some 161)) (v := ?v106) rfl rfl (by kernel_rfl) (by kernel_rfl) (by kernel_rfl) (fun _ _ _ h => h) (by rfl) ?hy106 (by assumption) ?_
                  case hy106 => ((intro w hSw; (try dsimp only at hSw); (try go_split_ands); go_simp); try with_reducible rfl)
                  simp only [Act.put, List.setIfInBounds_toArray, List.set_cons_zero, List.set_cons_succ]
                  refine takeH (i := 12) (d := (some 154)) (v := ?v107) rfl rfl (by kernel_rfl) (by kernel_rfl) (by kernel_rfl) (fun _ _ _ h => h) (by rfl) ?hy107 (by assumption) ?_
                  case hy107 => ((intro w hSw; (try dsimp only at hSw); (try go_split_ands); go_simp); try with_reducible rfl)
                  simp only [Act.put, List.setIfInBounds_toArray, List.set_cons_zero, List.set_cons_succ]
                  refine takeH (i := 21) (d := (some 163)) (v := ?v108) rfl rfl (by kernel_rfl) (by kernel_rfl) (by kernel_rfl) (fun _ _ _ h => h) (by rfl) ?hy108 (by assumption) ?_
                  case hy108 => ((intro w hSw; (try dsimp only at hSw); (try go_split_ands); go_simp); try with_reducible rfl)
                  simp only [Act.put, List.setIfInBounds_toArray, List.set_cons_zero, List.set_cons_succ]
                  refine wpAnyH_ready (rs := [22]) (by kernel_rfl) (by simp) ?_
                  refine AllReadyH.cons rfl (fun K hK => ?_) AllReadyH.nil
                  go_simp
                  refine (HTo.out _).mono ?_
                  rintro e w6 ⟨rfl, u6⟩
                  go_wp2_with fail
                  refine hK.out _ _ ⟨hHeld.1.trans u6, u6.blk hHeld.2.1, u6.blk hHeld.2.2.1, u6.blk hHeld.2.2.2⟩ (fun hHeld => ?_)
                  clear hK K u6
                  refine wpAnyH_ready (rs := [23]) (by kernel_rfl) (by simp) ?_
                  refine AllReadyH.cons rfl (fun K hK => ?_) AllReadyH.nil
                  go_simp
                  refine (HZ.out _).mono ?_
                  rintro e w6 ⟨rfl, u6⟩
                  go_wp2_with fail
                  refine hK.out _ _ ⟨hHeld.1.trans u6, u6.blk hHeld.2.1, u6.blk hHeld.2.2.1, u6.blk hHeld.2.2.2⟩ (fun hHeld => ?_)
                  clear hK K u6
                  refine takeH (i := 24) (d := (some 166)) (v := ?v111) rfl rfl (by kernel_rfl) (by kernel_rfl) (by kernel_rfl) (fun _ _ _ h => h) (by rfl) ?hy111 (by assumption) ?_
                  case hy111 => ((intro w hSw; (try dsimp only at hSw); (try go_split_ands); go_simp); try with_reducible rfl)
                  simp only [Act.put, List.setIfInBounds_toArray, List.set_cons_zero, List.set_cons_succ]
                  refine takeH (i := 25) (d := (some 167)) (v := ?v112) rfl rfl (by kernel_rfl) (by kernel_rfl) (by kernel_rfl) (fun _ _ _ h => h) (by rfl) ?hy112 (by assumption) ?_
                  case hy112 => ((intro w hSw; (try dsimp only at hSw); (try go_split_ands); go_simp); try with_reducible rfl)
                  simp only [Act.put, List.setIfInBounds_toArray, List.set_cons_zero, List.set_cons_succ]
                  refine wpAnyH_ready (rs := [26]) (by kernel_rfl) (by simp) ?_
                  refine AllReadyH.cons rfl (fun K hK => ?_) AllReadyH.nil
                  go_simp
                  refine (HW.out _).mono ?_
                  rintro e w6 ⟨rfl, u6⟩
                  go_wp2_with fail
                  refine hK.out _ _ ⟨hHeld.1.trans u6, u6.blk hHeld.2.1, u6.blk hHeld.2.2.1, u6.blk hHeld.2.2.2⟩ (fun hHeld => ?_)
                  clear hK K u6
                  refine takeH (i := 27) (d := (some 169)) (v := ?v114) rfl rfl (by kernel_rfl) (by kernel_rfl) (by kernel_rfl) (fun _ _ _ h => h) (by rfl) ?hy114 (by assumption) ?_
                  case hy114 => ((intro w hSw; (try dsimp only at hSw); (try go_split_ands); go_simp); try with_reducible rfl)
                  simp only [Act.put, List.setIfInBounds_toArray, List.set_cons_zero, List.set_cons_succ]
                  refine takeH (i := 28) (d := (some 6)) (v := ?v115) rfl rfl (by kernel_rfl) (by kernel_rfl) (by kernel_rfl) (fun _ _ _ h => h) (by rfl) ?hy115 (by assumption) ?_
                  case hy115 => ((intro w hSw; (try dsimp only at hSw); (try go_split_ands); go_simp); try with_reducible rfl)
                  simp only [Act.put, List.setIfInBounds_toArray, List.set_cons_zero, List.set_cons_succ]
                  refine wpAnyH_done (by kernel_rfl) ?_ _
                  go_wp2
                  go_ret
                  exact ⟨rfl, hHeld.1⟩
                · have hk' : ¬ (t : Int) < (n : Int) := by have := HLn.out; omega
                  have hgx := Lib.hid (show xs.getD t 0 = 0 by rw [List.getD_eq_getElem?_getD, List.getElem?_eq_none (by omega)]; rfl)
                  clear hk
                  go_wp2_with fail
                  refine (HWi.out _).mono ?_
                  rintro e w4 ⟨rfl, u⟩
                  replace k6 := u.blk k6
                  replace m11 := u.blk m11
                  have V4 := (V0.trans AT).trans u
                  clear u AT V0 m15 m13
                  have wt : IntKind.i64.wrap ((t : Int) + 1) = (t : Int) + 1 := IntWalk.i64_in _ (by omega)
                  go_wp2_with fail
                  refine (HE.out _ V4 ((t : Int) + 1)).mono ?_
                  rintro e w5 ⟨l4, h4, r4, rfl, T4, u5⟩
                  obtain ⟨rfl, q3, q4⟩ := HT1.out.next T4 HB1.out t2
                  rw [hgx.out] at q3 q4
                  have A5 := Up.alloc u5 (.cells #[.int .i64 l4, .int .i64 h4] 23)
                  have m18 := blk_new w5 (.cells #[.int .i64 l4, .int .i64 h4] 23) _ rfl
                  have b1 := blk_lt (u5.blk m11)
                  have b2 := blk_lt (u5.blk k6)
                  replace m11 := Up.blk A5 m11
                  replace k6 := Up.blk A5 k6
                  replace V4 := V4.trans A5
                  clear T4 u5 A5
                  obtain ⟨p18, hp18⟩ : ∃ p, w5.heap.size = p := ⟨_, rfl⟩
                  obtain ⟨Z5, hZ5⟩ : ∃ W, w5.alloc (.cells #[.int .i64 l4, .int .i64 h4] 23) = W := ⟨_, rfl⟩
                  rw [hp18] at m18 b1 b2
                  rw [hZ5] at m18 m11 k6 V4
                  go_wp2_with fail
                  try rw [hZ5]
                  try rw [hp18]
                  clear hp18 hZ5 b1 b2
                  obtain ⟨f1l, _, f2h⟩ := HT1.out.fine
                  have wa : IntKind.i64.wrap (l + dl) = l + dl := IntWalk.i64_in _ (by omega)
                  have wc : IntKind.i64.wrap (h + dh) = h + dh := IntWalk.i64_in _ (by omega)
                  have wb : IntKind.i64.wrap (l + dl + 0) = l + dl := by rw [Int.add_zero]; exact wa
                  have wd : IntKind.i64.wrap (h + dh + 0) = h + dh := by rw [Int.add_zero]; exact wc
                  have HTo := Lib.hid (fun w => B_To_any (l + dl) (h + dh) w)
                  have HZ := Lib.hid (fun w => show Calls Try.prog 45 #[SpV l4 h4, SpV (l + dl) (h + dh)] w fun e w' => e = .returned (.bool true) ∧ Up w w' by rw [← decide_eq_true (show l + dl ≤ l4 ∧ h4 ≤ h + dh from ⟨by omega, by omega⟩)]; exact B_Within_any _ _ _ _ w)
                  refine wp_region_held_drew (S := fun w' => Up w w' ∧ mblk w' w.heap.size = some (.cells (BC f s j dl dh ticks (.slice a n c) (.slice (some ⟨g, off, none⟩) ls.length c')) 44 (0, 0)) ∧ mblk w' p11 = some (.cells #[.int .i64 l, .int .i64 h] 23 (0, 0)) ∧ mblk w' p18 = some (.cells #[.int .i64 l4, .int .i64 h4] 23 (0, 0))) (by kernel_rfl) ⟨V4.drew, by rw [blk_drew]; exact k6, by rw [blk_drew]; exact m11, by rw [blk_drew]; exact m18⟩ (fun hHeld => ?_)
                  clear V4 k6 m11 m18
                  refine takeH (i := 0) (d := (some 142)) (v := ?v116) rfl rfl (by kernel_rfl) (by kernel_rfl) (by kernel_rfl) (fun _ _ _ h => h) (by rfl) ?hy116 (by assumption) ?_
                  case hy116 => ((intro w hSw; (try dsimp only at hSw); (try go_split_ands); go_simp); try with_reducible rfl)
                  simp only [Act.put, List.setIfInBounds_toArray, List.set_cons_zero, List.set_cons_succ]
                  refine takeH (i := 1) (d := (some 143)) (v := ?v117) rfl rfl (by kernel_rfl) (by kernel_rfl) (by kernel_rfl) (fun _ _ _ h => h) (by rfl) ?hy117 (by assumption) ?_
                  case hy117 => ((intro w hSw; (try dsimp only at hSw); (try go_split_ands); go_simp); try with_reducible rfl)
                  simp only [Act.put, List.setIfInBounds_toArray, List.set_cons_zero, List.set_cons_succ]
                  refine takeH (i := 2) (d := (some 144)) (v := ?v118) rfl rfl (by kernel_rfl) (by kernel_rfl) (by kernel_rfl) (fun _ _ _ h => h) (by rfl) ?hy118 (by assumption) ?_
                  case hy118 => ((intro w hSw; (try dsimp only at hSw); (try go_split_ands); go_simp); try with_reducible rfl)
                  simp only [Act.put, List.setIfInBounds_toArray, List.set_cons_zero, List.set_cons_succ]
                  refine takeH (i := 3) (d := (some 145)) (v := ?v119) rfl rfl (by kernel_rfl) (by kernel_rfl) (by kernel_rfl) (fun _ _ _ h => h) (by rfl) ?hy119 (by assumption) ?_
                  case hy119 => ((intro w hSw; (try dsimp only at hSw); (try go_split_ands); go_simp); try with_reducible rfl)
                  simp only [Act.put, List.setIfInBounds_toArray, List.set_cons_zero, List.set_cons_succ]
                  refine takeH (i := 4) (d := (some 146)) (v := ?v120) rfl rfl (by kernel_rfl) (by kernel_rfl) (by kernel_rfl) (fun _ _ _ h => h) (by rfl) ?hy120 (by assumption) ?_
                  case hy120 => ((intro w hSw; (try dsimp only at hSw); (try go_split_ands); go_simp); try with_reducible rfl)
                  simp only [Act.put, List.setIfInBounds_toArray, List.set_cons_zero, List.set_cons_succ]
                  refine takeH (i := 6) (d := (some 148)) (v := ?v121) rfl rfl (by kernel_rfl) (by kernel_rfl) (by kernel_rfl) (fun _ _ _ h => h) (by rfl) ?hy121 (by assumption) ?_
                  case hy121 => ((intro w hSw; (try dsimp only at hSw); (try go_split_ands); go_simp); try with_reducible rfl)
                  simp only [Act.put, List.setIfInBounds_toArray, List.set_cons_zero, List.set_cons_succ]
                  refine takeH (i := 11) (d := (some 153)) (v := ?v122) rfl rfl (by kernel_rfl) (by kernel_rfl) (by kernel_rfl) (fun _ _ _ h => h) (by rfl) ?hy122 (by assumption) ?_
                  case hy122 => ((intro w hSw; (try dsimp only at hSw); (try go_split_ands); go_simp); try with_reducible rfl)
                  simp only [Act.put, List.setIfInBounds_toArray, List.set_cons_zero, List.set_cons_succ]
                  refine takeH (i := 13) (d := (some 155)) (v := ?v123) rfl rfl (by kernel_rfl) (by kernel_rfl) (by kernel_rfl) (fun _ _ _ h => h) (by rfl) ?hy123 (by assumption) ?_
                  case hy123 => ((intro w hSw; (try dsimp only at hSw); (try go_split_ands); go_simp); try with_reducible rfl)
                  simp only [Act.put, List.setIfInBounds_toArray, List.set_cons_zero, List.set_cons_succ]
                  refine takeH (i := 15) (d := (some 157)) (v := ?v124) rfl rfl (by kernel_rfl) (by kernel_rfl) (by kernel_rfl) (fun _ _ _ h => h) (by rfl) ?hy124 (by assumption) ?_
                  case hy124 => ((intro w hSw; (try dsimp only at hSw); (try go_split_ands); go_simp); try with_reducible rfl)
                  simp only [Act.put, List.setIfInBounds_toArray, List.set_cons_zero, List.set_cons_succ]
                  refine takeH (i := 20) (d := (some 162)) (v := ?v125) rfl rfl (by kernel_rfl) (by kernel_rfl) (by kernel_rfl) (fun _ _ _ h => h) (by rfl) ?hy125 (by assumption) ?_
                  case hy125 => ((intro w hSw; (try dsimp only at hSw); (try go_split_ands); go_simp); try with_reducible rfl)
                  simp only [Act.put, List.setIfInBounds_toArray, List.set_cons_zero, List.set_cons_succ]
                  refine takeH (i := 5) (d := (some 147)) (v := ?v126) rfl rfl (by kernel_rfl) (by kernel_rfl) (by kernel_rfl) (fun _ _ _ h => h) (by rfl) ?hy126 (by assumption) ?_
                  case hy126 => ((intro w hSw; (try dsimp only at hSw); (try go_split_ands); go_simp); try with_reducible rfl)
                  simp only [Act.put, List.setIfInBounds_toArray, List.set_cons_zero, List.set_cons_succ]
                  refine takeH (i := 7) (d := (some 149)) (v := ?v127) rfl rfl (by kernel_rfl) (by kernel_rfl) (by kernel_rfl) (fun _ _ _ h => h) (by rfl) ?hy127 (by assumption) ?_
                  case hy127 => ((intro w hSw; (try dsimp only at hSw); (try go_split_ands); go_simp); try with_reducible rfl)
                  simp only [Act.put, List.setIfInBounds_toArray, List.set_cons_zero, List.set_cons_succ]
                  refine takeH (i := 14) (d := (some 156)) (v := ?v128) rfl rfl (by kernel_rfl) (by kernel_rfl) (by kernel_rfl) (fun _ _ _ h => h) (by rfl) ?hy128 (by assumption) ?_
                  case hy128 => ((intro w hSw; (try dsimp only at hSw); (try go_split_ands); go_simp); try with_reducible rfl)
                  simp only [Act.put, List.setIfInBounds_toArray, List.set_cons_zero, List.set_cons_succ]
                  refine takeH (i := 16) (d := (some 158)) (v := ?v129) rfl rfl (by kernel_rfl) (by kernel_rfl) (by kernel_rfl) (fun _ _ _ h => h) (by rfl) ?hy129 (by assumption) ?_
                  case hy129 => ((intro w hSw; (try dsimp only at hSw); (try go_split_ands); go_simp); try with_reducible rfl)
                  simp only [Act.put, List.setIfInBounds_toArray, List.set_cons_zero, List.set_cons_succ]
                  refine takeH (i := 8) (d := (some 150)) (v := ?v130) rfl rfl (by kernel_rfl) (by kernel_rfl) (by kernel_rfl) (fun _ _ _ h => h) (by rfl) ?hy130 (by assumption) ?_
                  case hy130 => ((intro w hSw; (try dsimp only at hSw); (try go_split_ands); go_simp); try with_reducible rfl)
                  simp only [Act.put, List.setIfInBounds_toArray, List.set_cons_zero, List.set_cons_succ]
                  refine takeH (i := 17) (d := (some 159)) (v := ?v131) rfl rfl (by kernel_rfl) (by kernel_rfl) (by kernel_rfl) (fun _ _ _ h => h) (by rfl) ?hy131 (by assumption) ?_
                  case hy131 => ((intro w hSw; (try dsimp only at hSw); (try go_split_ands); go_simp); try with_reducible rfl)
                  simp only [Act.put, List.setIfInBounds_toArray, List.set_cons_zero, List.set_cons_succ]
                  refine takeH (i := 9) (d := (some 151)) (v := ?v132) rfl rfl (by kernel_rfl) (by kernel_rfl) (by kernel_rfl) (fun _ _ _ h => h) (by rfl) ?hy132 (by assumption) ?_
                  case hy132 => ((intro w hSw; (try dsimp only at hSw); (try go_split_ands); go_simp); try with_reducible rfl)
                  simp only [Act.put, List.setIfInBounds_toArray, List.set_cons_zero, List.set_cons_succ]
                  refine takeH (i := 18) (d := (some 160)) (v := ?v133) rfl rfl (by kernel_rfl) (by kernel_rfl) (by kernel_rfl) (fun _ _ _ h => h) (by rfl) ?hy133 (by assumption) ?_
                  case hy133 => ((intro w hSw; (try dsimp only at hSw); (try go_split_ands); go_simp); try with_reducible rfl)
                  simp only [Act.put, List.setIfInBounds_toArray, List.set_cons_zero, List.set_cons_succ]
                  refine takeH (i := 10) (d := (some 152)) (v := ?v134) rfl rfl (by kernel_rfl) (by kernel_rfl) (by kernel_rfl) (fun _ _ _ h => h) (by rfl) ?hy134 (by assumption) ?_
                  case hy134 => ((intro w hSw; (try dsimp only at hSw); (try go_split_ands); go_simp); try with_reducible rfl)
                  simp only [Act.put, List.setIfInBounds_toArray, List.set_cons_zero, List.set_cons_succ]
                  refine takeH (i := 19) (d := (some 161)) (v := ?v135) rfl rfl (by kernel_rfl) (by kernel_rfl) (by kernel_rfl) (fun _ _ _ h => h) (by rfl) ?hy135 (by assumption) ?_
                  case hy135 => ((intro w hSw; (try dsimp only at hSw); (try go_split_ands); go_simp); try with_reducible rfl)
                  simp only [Act.put, List.setIfInBounds_toArray, List.set_cons_zero, List.set_cons_succ]
                  refine takeH (i := 12) (d := (some 154)) (v := ?v136) rfl rfl (by kernel_rfl) (by kernel_rfl) (by kernel_rfl) (fun _ _ _ h => h) (by rfl) ?hy136 (by assumption) ?_
                  case hy136 => ((intro w hSw; (try dsimp only at hSw); (try go_split_ands); go_simp); try with_reducible rfl)
                  simp only [Act.put, List.setIfInBounds_toArray, List.set_cons_zero, List.set_cons_succ]
                  refine takeH (i := 21) (d := (some 163)) (v := ?v137) rfl rfl (by kernel_rfl) (by kernel_rfl) (by kernel_rfl) (fun _ _ _ h => h) (by rfl) ?hy137 (by assumption) ?_
                  case hy137 => ((intro w hSw; (try dsimp only at hSw); (try go_split_ands); go_simp); try with_reducible rfl)
                  simp only [Act.put, List.setIfInBounds_toArray, List.set_cons_zero, List.set_cons_succ]
                  refine wpAnyH_ready (rs := [22]) (by kernel_rfl) (by simp) ?_
                  refine AllReadyH.cons rfl (fun K hK => ?_) AllReadyH.nil
                  go_simp
                  refine (HTo.out _).mono ?_
                  rintro e w6 ⟨rfl, u6⟩
                  go_wp2_with fail
                  refine hK.out _ _ ⟨hHeld.1.trans u6, u6.blk hHeld.2.1, u6.blk hHeld.2.2.1, u6.blk hHeld.2.2.2⟩ (fun hHeld => ?_)
                  clear hK K u6
                  refine wpAnyH_ready (rs := [23]) (by kernel_rfl) (by simp) ?_
                  refine AllReadyH.cons rfl (fun K hK => ?_) AllReadyH.nil
                  go_simp
                  refine (HZ.out _).mono ?_
                  rintro e w6 ⟨rfl, u6⟩
                  go_wp2_with fail
                  refine hK.out _ _ ⟨hHeld.1.trans u6, u6.blk hHeld.2.1, u6.blk hHeld.2.2.1, u6.blk hHeld.2.2.2⟩ (fun hHeld => ?_)
                  clear hK K u6
                  refine takeH (i := 24) (d := (some 166)) (v := ?v140) rfl rfl (by kernel_rfl) (by kernel_rfl) (by kernel_rfl) (fun _ _ _ h => h) (by rfl) ?hy140 (by assumption) ?_
                  case hy140 => ((intro w hSw; (try dsimp only at hSw); (try go_split_ands); go_simp); try with_reducible rfl)
                  simp only [Act.put, List.setIfInBounds_toArray, List.set_cons_zero, List.set_cons_succ]
                  refine takeH (i := 25) (d := (some 167)) (v := ?v141) rfl rfl (by kernel_rfl) (by kernel_rfl) (by kernel_rfl) (fun _ _ _ h => h) (by rfl) ?hy141 (by assumption) ?_
                  case hy141 => ((intro w hSw; (try dsimp only at hSw); (try go_split_ands); go_simp); try with_reducible rfl)
                  simp only [Act.put, List.setIfInBounds_toArray, List.set_cons_zero, List.set_cons_succ]
                  refine wpAnyH_ready (rs := [26]) (by kernel_rfl) (by simp) ?_
                  refine AllReadyH.cons rfl (fun K hK => ?_) AllReadyH.nil
                  go_simp
                  refine (HW.out _).mono ?_
                  rintro e w6 ⟨rfl, u6⟩
                  go_wp2_with fail
                  refine hK.out _ _ ⟨hHeld.1.trans u6, u6.blk hHeld.2.1, u6.blk hHeld.2.2.1, u6.blk hHeld.2.2.2⟩ (fun hHeld => ?_)
                  clear hK K u6
                  refine takeH (i := 27) (d := (some 169)) (v := ?v143) rfl rfl (by kernel_rfl) (by kernel_rfl) (by kernel_rfl) (fun _ _ _ h => h) (by rfl) ?hy143 (by assumption) ?_
                  case hy143 => ((intro w hSw; (try dsimp only at hSw); (try go_split_ands); go_simp); try with_reducible rfl)
                  simp only [Act.put, List.setIfInBounds_toArray, List.set_cons_zero, List.set_cons_succ]
                  refine takeH (i := 28) (d := (some 6)) (v := ?v144) rfl rfl (by kernel_rfl) (by kernel_rfl) (by kernel_rfl) (fun _ _ _ h => h) (by rfl) ?hy144 (by assumption) ?_
                  case hy144 => ((intro w hSw; (try dsimp only at hSw); (try go_split_ands); go_simp); try with_reducible rfl)
                  simp only [Act.put, List.setIfInBounds_toArray, List.set_cons_zero, List.set_cons_succ]
                  refine wpAnyH_done (by kernel_rfl) ?_ _
                  go_wp2
                  go_ret
                  exact ⟨rfl, hHeld.1⟩
            · obtain ⟨rfl, rfl⟩ := HT2.out.ne0 hr2
              have h42 : r2 = 40 ∨ r2 = 42 := by
                cases hbx : S.bookOk f s j dl dh ticks xs (ls ++ [(mt, ml, mh)])
                · exact .inl (HT2.out.no hbx).2.2
                · rcases HT2.out.yes hbx ⟨t1, by omega⟩ with ⟨_, _, q, _⟩ | ⟨q, _⟩
                  · exact .inr q
                  · exact absurd q hr2
              clear HT2 HT1
              rcases h42 with rfl | rfl
              · go_wp2_with fail
                refine (HW.out _).mono ?_
                rintro e w4 ⟨rfl, u⟩
                go_wp2
                go_ret
                exact ⟨rfl, (V0.trans AT).trans u⟩
              · go_wp2_with fail
                refine (HW.out _).mono ?_
                rintro e w4 ⟨rfl, u⟩
                go_wp2
                go_ret
                exact ⟨rfl, (V0.trans AT).trans u⟩
        · obtain ⟨u, rfl⟩ : ∃ u, m = u + 1 := ⟨m - 1, by omega⟩
          obtain rfl : zi = (u : Int) := by omega
          have hu : u < ls.length := by omega
          have hu' : (u : Int) < (ls.length : Int) := by omega
          have hu0 : (0 : Int) ≤ (u : Int) := by omega
          obtain ⟨a1, c1, e1, _, _, hmm⟩ := (HI'.out w (Up.refl w)).is
          injection e1 with e1 e2 e3
          subst e1 e3
          clear e2
          obtain ⟨g, off, rfl, gl, hc⟩ := hmm (by omega)
          obtain ⟨y1, y2, y3⟩ := hc u hu
          have hrev := S.rev_drop hu
          obtain ⟨zz, hzz⟩ : ∃ q, ls.getD u (0, 0, 0) = q := ⟨_, rfl⟩
          rw [hzz] at y1 y2 y3 hrev
          obtain ⟨lt, ll, lh⟩ := zz
          simp only at y1 y2 y3
          replace y1 := V.cell2 y1
          replace y2 := V.cell2 y2
          replace y3 := V.cell2 y3
          have hcn : ls.length - (u + 1) + 1 = ls.length - u := by omega
          have wz2 : IntKind.i64.wrap ((u : Int) - 1) = (u : Int) - 1 := IntWalk.i64_in _ (by omega)
          clear hc hmm hzz hz h0
          go_wp2_with fail
          refine (wpIn_wide (n := 5)).1 ?_
          refine wpIn_nrm ?_
          refine regionG (fun w' => (Up w w' ∧ mblk w' p8 = some (.cells (BC f s j dl dh ticks (.slice a n c) (.slice (some ⟨g2, 0, none⟩) (ls.length + 1) cap)) 44 (0, 0)) ∧ mblk w' g2 = some (.cells curx 71 (0, 0))) ∧ mblk w' w.heap.size = some (.cells (BC f s j dl dh ticks (.slice a n c) (.slice (some ⟨g, off, none⟩) ls.length c')) 44 (0, 0)) ∧ mblk w' p9 = some (.cells (BC f s j dl dh ticks (.slice a n c) v) 44 (0, 0)) ∧ w'.cell? ⟨g, off + u * 3, none⟩ = some (.int .i64 lt) ∧ w'.cell? ⟨g, off + u * 3 + 1, none⟩ = some (.int .i64 ll) ∧ w'.cell? ⟨g, off + u * 3 + 2, none⟩ = some (.int .i64 lh)) 10 (by kernel_rfl) ⟨⟨V.drew, by rw [blk_drew]; exact x8, by rw [blk_drew]; exact yb⟩, by rw [blk_drew]; exact k6, by rw [blk_drew]; exact x9, y1, y2, y3⟩ (fun hHeld hCl => ?_)
          refine takeG (i := 0) (d := (some 52)) (v := ?v145) rfl rfl (by kernel_rfl) (by kernel_rfl) (by decide) hCl (by kernel_rfl) (by kernel_rfl) (by kernel_rfl) (fun _ _ _ h => h) (by rfl) ?hy145 (fun _ _ _ => trivial) (by assumption) (fun hCl' => ?_)
          case hy145 => ((intro w hSw; (try dsimp only at hSw); (try go_split_ands); go_simp); try with_reducible rfl)
          simp only [Act.put, List.setIfInBounds_toArray, List.set_cons_zero, List.set_cons_succ]
          replace hCl := hCl'; clear hCl'
          refine takeG (i := 2) (d := (some 54)) (v := ?v146) rfl rfl (by kernel_rfl) (by kernel_rfl) (by decide) hCl (by kernel_rfl) (by kernel_rfl) (by kernel_rfl) (fun _ _ _ h => h) (by rfl) ?hy146 (fun _ _ _ => trivial) (by assumption) (fun hCl' => ?_)
          case hy146 => ((intro w hSw; (try dsimp only at hSw); (try go_split_ands); go_simp); try with_reducible rfl)
          simp only [Act.put, List.setIfInBounds_toArray, List.set_cons_zero, List.set_cons_succ]
          replace hCl := hCl'; clear hCl'
          refine takeG (i := 4) (d := (some 56)) (v := ?v147) rfl rfl (by kernel_rfl) (by kernel_rfl) (by decide) hCl (by kernel_rfl) (by kernel_rfl) (by kernel_rfl) (fun _ _ _ h => h) (by rfl) ?hy147 (fun _ _ _ => trivial) (by assumption) (fun hCl' => ?_)
          case hy147 => ((intro w hSw; (try dsimp only at hSw); (try go_split_ands); go_simp); try with_reducible rfl)
          simp only [Act.put, List.setIfInBounds_toArray, List.set_cons_zero, List.set_cons_succ]
          replace hCl := hCl'; clear hCl'
          refine takeG (i := 1) (d := (some 53)) (v := ?v148) rfl rfl (by kernel_rfl) (by kernel_rfl) (by decide) hCl (by kernel_rfl) (by kernel_rfl) (by kernel_rfl) (fun _ _ _ h => h) (by rfl) ?hy148 (fun _ _ _ => trivial) (by assumption) (fun hCl' => ?_)
          case hy148 => ((intro w hSw; (try dsimp only at hSw); (try go_split_ands); go_simp); try with_reducible rfl)
          simp only [Act.put, List.setIfInBounds_toArray, List.set_cons_zero, List.set_cons_succ]
          replace hCl := hCl'; clear hCl'
          refine takeG (i := 3) (d := (some 55)) (v := ?v149) rfl rfl (by kernel_rfl) (by kernel_rfl) (by decide) hCl (by kernel_rfl) (by kernel_rfl) (by kernel_rfl) (fun _ _ _ h => h) (by rfl) ?hy149 (fun _ _ _ => trivial) (by assumption) (fun hCl' => ?_)
          case hy149 => ((intro w hSw; (try dsimp only at hSw); (try go_split_ands); go_simp); try with_reducible rfl)
          simp only [Act.put, List.setIfInBounds_toArray, List.set_cons_zero, List.set_cons_succ]
          replace hCl := hCl'; clear hCl'
          refine takeG (i := 5) (d := (some 57)) (v := ?v150) rfl rfl (by kernel_rfl) (by kernel_rfl) (by decide) hCl (by kernel_rfl) (by kernel_rfl) (by kernel_rfl) (fun _ _ _ h => h) (by rfl) ?hy150 (fun _ _ _ => trivial) (by assumption) (fun hCl' => ?_)
          case hy150 => ((intro w hSw; (try dsimp only at hSw); (try go_split_ands); go_simp); try with_reducible rfl)
          simp only [Act.put, List.setIfInBounds_toArray, List.set_cons_zero, List.set_cons_succ]
          replace hCl := hCl'; clear hCl'
          refine takeG (i := 6) (d := (some 58)) (v := ?v151) rfl rfl (by kernel_rfl) (by kernel_rfl) (by decide) hCl (by kernel_rfl) (by kernel_rfl) (by kernel_rfl) (fun _ _ _ h => h) (by rfl) ?hy151 (fun _ _ _ => trivial) (by assumption) (fun hCl' => ?_)
          case hy151 => ((intro w hSw; (try dsimp only at hSw); (try go_split_ands); go_simp); try with_reducible rfl)
          simp only [Act.put, List.setIfInBounds_toArray, List.set_cons_zero, List.set_cons_succ]
          replace hCl := hCl'; clear hCl'
          refine nextG (i := 7) (by kernel_rfl) rfl (by rfl) hCl (fun K hK => ?_)
          go_simp
          clear hHeld
          have A1 : Up wr (wr.alloc (.cells #[.int .i64 lt, .int .i64 ll, .int .i64 lh] 71)).drew := Up.drew (Up.alloc (Up.refl wr) _)
          have pl : mblk (wr.alloc (.cells #[.int .i64 lt, .int .i64 ll, .int .i64 lh] 71)).drew wr.heap.size = some (.cells #[.int .i64 lt, .int .i64 ll, .int .i64 lh] 71 (0, 0)) := by rw [blk_drew]; exact blk_new _ _ _ rfl
          obtain ⟨q7, hq7⟩ : ∃ q, wr.heap.size = q := ⟨_, rfl⟩
          obtain ⟨X1, hX1⟩ : ∃ X, (wr.alloc (.cells #[.int .i64 lt, .int .i64 ll, .int .i64 lh] 71)).drew = X := ⟨_, rfl⟩
          rw [hX1] at A1 pl
          rw [hq7] at pl
          have hb1 : bq ≤ X1.heap.size := Nat.le_trans hbq (Up.size A1)
          try rw [hX1]
          try rw [hq7]
          refine hK.out _ _ ⟨⟨V.trans A1, Up.blk A1 x8, Up.blk A1 yb⟩, Up.blk A1 k6, Up.blk A1 x9, Up.cell2 A1 y1, Up.cell2 A1 y2, Up.cell2 A1 y3⟩ (fun _ hCl => ?_)
          clear hK K hX1 hq7
          try simp only [Act.put, List.setIfInBounds_toArray, List.set_cons_zero, List.set_cons_succ]
          refine nextG (i := 8) (by kernel_rfl) rfl (by rfl) hCl (fun K hK => ?_)
          have R1 := row_up hown A1
          refine opIn_append_look (.tmp 53) (.tmp 59) rfl q7 pl rfl bq _ (ls.length - (u + 1)) (ls.drop (u + 1)).reverse rfl R1 (by omega) hb1 ?_
          intro v2 X2 R2 hg2
          rw [hcn, hrev] at R2
          obtain ⟨ra, rc, rfl, _, _⟩ := row_val R2
          have V2 := Up.grown (V.trans A1) hg2 (fun k e => by have := row_base R1 k e; omega)
          have e8 := grown_blk hg2 (Up.blk A1 x8) (row_block R1 l8)
          have e9 := grown_blk hg2 (Up.blk A1 x9) (row_block R1 l9)
          have ek := grown_blk hg2 (Up.blk A1 k6) (row_block R1 lk)
          have eb := grown_blk hg2 (Up.blk A1 yb) (row_block R1 lg)
          have f1 := hg2.cell (Up.cell2 A1 y1) (row_block R1 (show g < bq by omega))
          have f2 := hg2.cell (Up.cell2 A1 y2) (row_block R1 (show g < bq by omega))
          have f3 := hg2.cell (Up.cell2 A1 y3) (row_block R1 (show g < bq by omega))
          have hb2 : bq ≤ X2.heap.size := Nat.le_trans hb1 hg2.size
          refine hK.out _ _ ⟨⟨V2, e8, eb⟩, ek, e9, f1, f2, f3⟩ (fun _ hCl => ?_)
          clear hK K hg2 A1 pl R1 hb1
          try simp only [Act.put, List.setIfInBounds_toArray, List.set_cons_zero, List.set_cons_succ]
          refine takeG (i := 9) (d := (some 61)) (v := ?v153) rfl rfl (by kernel_rfl) (by kernel_rfl) (by decide) hCl (by kernel_rfl) (by kernel_rfl) (by kernel_rfl) (fun _ _ _ h => h) (by rfl) ?hy153 (fun _ _ _ => trivial) (by assumption) (fun hCl' => ?_)
          case hy153 => ((intro w hSw; (try dsimp only at hSw); (try go_split_ands); go_simp); try with_reducible rfl)
          simp only [Act.put, List.setIfInBounds_toArray, List.set_cons_zero, List.set_cons_succ]
          replace hCl := hCl'; clear hCl'
          have zf := frozB e9
          clear hCl
          refine lastG (i := 10) (by kernel_rfl) rfl (by rfl) (by decide) (fun K hK => ?_)
          go_simp
          obtain ⟨Z, hZ⟩ : ∃ X, X2.setCell ⟨p9, 7, none⟩ (.slice ra (ls.length - u) rc) = X := ⟨_, rfl⟩
          have V3 : Up w Z := by rw [← hZ]; exact Up.set V2 (p := ⟨p9, 7, none⟩) (show w.heap.size ≤ p9 by omega) _
          have k3 : mblk Z w.heap.size = some (.cells (BC f s j dl dh ticks (.slice a n c) (.slice (some ⟨g, off, none⟩) ls.length c')) 44 (0, 0)) := by rw [← hZ, blk_set _ _ _ _ (by show w.heap.size ≠ p9; omega)]; exact ek
          have d8 : mblk Z p8 = some (.cells (BC f s j dl dh ticks (.slice a n c) (.slice (some ⟨g2, 0, none⟩) (ls.length + 1) cap)) 44 (0, 0)) := by rw [← hZ, blk_set _ _ _ _ (by show p8 ≠ p9; omega)]; exact e8
          have d9 : mblk Z p9 = some (.cells (BC f s j dl dh ticks (.slice a n c) (.slice ra (ls.length - u) rc)) 44 (0, 0)) := by rw [← hZ]; exact blk_put e9 7 _
          have db : mblk Z g2 = some (.cells curx 71 (0, 0)) := by rw [← hZ, blk_set _ _ _ _ (by show g2 ≠ p9; omega)]; exact eb
          have R3 := ownsRow_setCell_other R2 (a := ⟨p9, 7, none⟩) (fun e => row_block R2 l9 e.symm) (.slice ra (ls.length - u) rc)
          have hb3 : bq ≤ Z.heap.size := by have := Up.size V3; rw [← hZ]; simpa using hb2
          rw [hZ] at R3
          try rw [hZ]
          refine hK.out _ _ ?_
          clear hK K hZ V2 ek e8 e9 eb R2 zf f1 f2 f3 hb2 V k6 x8 x9 yb hown hbq y1 y2 y3
          refine doneG (by kernel_rfl) ?_ _
          refine S.nrm_intro ?_
          go_wp2_with fail
          go_roundw
          case rel => exact ⟨u, _, _, by omega, rfl, rfl, V3, k3, d8, d9, db, R3, hb3⟩
          case measure => (simp [intOf]; try omega)
end

end Go.Proofs.Ytcadpdbadgejfaa
