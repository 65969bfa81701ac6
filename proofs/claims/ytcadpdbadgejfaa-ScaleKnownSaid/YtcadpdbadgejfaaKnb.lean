import Derived.Test.YtcadpdbadgejfaaWnt
import Derived.Test.YtcadpdbadgejfaaFMts
/- ScaleKnown: the laws' book with one look more, and what is told of it. -/
namespace Go.Proofs.Ytcadpdbadgejfaa
open Go.RowKit

abbrev exTn : List (Int × Int × Int) := [(0, 18, 22), (6, -3, 4), (3, 20, 30)]
set_option maxRecDepth 100000 in
set_option maxHeartbeats 1000000 in
set_option linter.unusedSimpArgs false in
theorem l_book_one {q : Nat} {w : World} (hq : mblk w q = some (.cells #[.int .i64 3, .int .i64 20, .int .i64 30] 71 (0, 0))) : Calls Try.prog 52 #[.slice (some ⟨q, 0, none⟩) 1 1] w fun e w' => ∃ g ra rc, e = .returned (BV 10 5 4 (-1) 2 10 (.slice (some ⟨g, 0, none⟩) 3 3) (.slice ra 3 rc)) ∧ Up w w' ∧ Ints w' (.slice (some ⟨g, 0, none⟩) 3 3) exSt ∧ Lks w' (.slice ra 3 rc) exTn := by
  have HT1 := Lib.hid (fun w => B_To_any 18 22 w)
  have HT2 := Lib.hid (fun w => B_To_any (-3) 4 w)
  have HR := Lib.hid (fun w => l_rule_any w)
  have U0 := (Up.refl w).alloc (.cells BCZ 44)
  have k0 := blk_new w (.cells BCZ 44) _ rfl
  have q0 := blk_keep (.cells BCZ 44) hq
  obtain ⟨i0, hi, hz0, hz1, hz2⟩ := info_parts infoLook
  have hU := Try.underlying42
  clear hq
  go_enter Try.func52, Try.ntmps52
  go_wp2_with fail
  refine (HR.out _).mono ?_
  rintro e w1 ⟨rfl, u1⟩
  have k1 := u1.blk k0
  have q1 := u1.blk q0
  have V1 := U0.trans u1
  have k1lt := blk_lt k1
  clear u1 k0 U0 HR q0
  go_wp2_with fail
  have g0 := blk_new w1 (.cells #[.int .i64 (-4), .int .i64 (-5), .int .i64 (-4)] 3) _ rfl
  have k2 := blk_keep (.cells #[.int .i64 (-4), .int .i64 (-5), .int .i64 (-4)] 3) k1
  have q2 := blk_keep (.cells #[.int .i64 (-4), .int .i64 (-5), .int .i64 (-4)] 3) q1
  have V2 := V1.alloc (.cells #[.int .i64 (-4), .int .i64 (-5), .int .i64 (-4)] 3)
  refine (HT1.out _).mono ?_
  rintro e w3 ⟨rfl, u3⟩
  replace g0 := u3.blk g0
  replace k2 := u3.blk k2
  replace q2 := u3.blk q2
  replace V2 := V2.trans u3
  clear u3 k1 V1 HT1 q1
  go_wp2_with fail
  refine (HT2.out _).mono ?_
  rintro e w4 ⟨rfl, u4⟩
  replace g0 := u4.blk g0
  replace k2 := u4.blk k2
  replace q2 := u4.blk q2
  replace V2 := V2.trans u4
  clear u4 HT2
  have lt := blk_lt k2
  have lg := blk_lt g0
  have lq := blk_lt q2
  have hw := V2.size
  have row := World.ownsRow.alloc (World.ownsRow_lit (base := w4.heap.size) (e := 71) (size := 3) w4 #[.int .i64 0, .int .i64 18, .int .i64 22, .int .i64 6, .int .i64 (-3), .int .i64 4] 2 (Nat.le_refl _) (by unfold maxLen; omega) rfl) (.cells (BC 10 5 4 (-1) 2 10 (.slice (some ⟨w1.heap.size, 0, none⟩) 3 3) (.slice (some ⟨w4.heap.size, 0, none⟩) 2 2)) 44)
  have bx := blk_new (w4.alloc (.cells #[.int .i64 0, .int .i64 18, .int .i64 22, .int .i64 6, .int .i64 (-3), .int .i64 4] 71)) (.cells (BC 10 5 4 (-1) 2 10 (.slice (some ⟨w1.heap.size, 0, none⟩) 3 3) (.slice (some ⟨w4.heap.size, 0, none⟩) 2 2)) 44) (w4.heap.size + 1) (by simp)
  have k3 := blk_keep (.cells (BC 10 5 4 (-1) 2 10 (.slice (some ⟨w1.heap.size, 0, none⟩) 3 3) (.slice (some ⟨w4.heap.size, 0, none⟩) 2 2)) 44) (blk_keep (.cells #[.int .i64 0, .int .i64 18, .int .i64 22, .int .i64 6, .int .i64 (-3), .int .i64 4] 71) k2)
  have g3 := blk_keep (.cells (BC 10 5 4 (-1) 2 10 (.slice (some ⟨w1.heap.size, 0, none⟩) 3 3) (.slice (some ⟨w4.heap.size, 0, none⟩) 2 2)) 44) (blk_keep (.cells #[.int .i64 0, .int .i64 18, .int .i64 22, .int .i64 6, .int .i64 (-3), .int .i64 4] 71) g0)
  have q3 := blk_keep (.cells (BC 10 5 4 (-1) 2 10 (.slice (some ⟨w1.heap.size, 0, none⟩) 3 3) (.slice (some ⟨w4.heap.size, 0, none⟩) 2 2)) 44) (blk_keep (.cells #[.int .i64 0, .int .i64 18, .int .i64 22, .int .i64 6, .int .i64 (-3), .int .i64 4] 71) q2)
  have V3 := (V2.alloc (.cells #[.int .i64 0, .int .i64 18, .int .i64 22, .int .i64 6, .int .i64 (-3), .int .i64 4] 71)).alloc (.cells (BC 10 5 4 (-1) 2 10 (.slice (some ⟨w1.heap.size, 0, none⟩) 3 3) (.slice (some ⟨w4.heap.size, 0, none⟩) 2 2)) 44)
  have hnews : ∀ j u, [Value.int .i64 3, .int .i64 20, .int .i64 30][j]? = some u → ((w4.alloc (.cells #[.int .i64 0, .int .i64 18, .int .i64 22, .int .i64 6, .int .i64 (-3), .int .i64 4] 71)).alloc (.cells (BC 10 5 4 (-1) 2 10 (.slice (some ⟨w1.heap.size, 0, none⟩) 3 3) (.slice (some ⟨w4.heap.size, 0, none⟩) 2 2)) 44)).cell? ((⟨q, 0, none⟩ : Addr).add j) = some u := fun j u h => by
    rw [D.add_at, Nat.zero_add, cellB q3]
    simpa using h
  have hne0 : w.heap.size ≠ w4.heap.size + 1 := by omega
  have hne1 : w1.heap.size ≠ w4.heap.size + 1 := by omega
  have hne2 : w1.heap.size ≠ w.heap.size := by omega
  clear V2 g0 k2 q2
  go_wp2_with (at_builtin; refine wpList_append_own _ rfl (.tmp 13) (.tmp 14) 42 rfl w4.heap.size 71 i0 (.agg #[.int .i64 0, .int .i64 0, .int .i64 0]) 3 24 hU hi hz0 hz1 hz2 rfl (by decide) _ 2 _ rfl row ⟨q, 0, none⟩ 1 1 [.int .i64 3, .int .i64 20, .int .i64 30] rfl rfl hnews (by simp [Value.oneCell']) (by unfold maxLen; omega) (by omega) (by simp; omega) ?_; intro v' w6 hown6 hgrow6 hv6; obtain ⟨g2, rc, cur, rfl, hg2, hb2, hc2, hm2, hs2, ht2⟩ := row_open hown6 (by omega); have b6 := grown_blk hgrow6 bx (show some (w4.heap.size + 1) ≠ some w4.heap.size by simp); have r6 := grown_blk hgrow6 k3 (row_block row lt); have g6 := grown_blk hgrow6 g3 (row_block row lg); have V6 : Up w w6 := V3.grown hgrow6 (fun k e => by (have := row_base row k e; omega)); have zf6 := frozB b6; have b7 : mblk (w6.setCell ⟨w4.heap.size + 1, 7, none⟩ (.slice (some ⟨g2, 0, none⟩) 3 rc)) (w4.heap.size + 1) = some (.cells (BC 10 5 4 (-1) 2 10 (.slice (some ⟨w1.heap.size, 0, none⟩) 3 3) (.slice (some ⟨g2, 0, none⟩) 3 rc)) 44 (0, 0)) := blk_put b6 7 _; have r7 : mblk (w6.setCell ⟨w4.heap.size + 1, 7, none⟩ (.slice (some ⟨g2, 0, none⟩) 3 rc)) w.heap.size = some (.cells BCZ 44 (0, 0)) := (by rw [blk_set _ _ _ _ (by show w.heap.size ≠ w4.heap.size + 1; omega)]; exact r6); have zr7 := frozB r7)
  have V7 := Up.put8 (Up.set V6 (p := ⟨w4.heap.size + 1, 7, none⟩) (show w.heap.size ≤ w4.heap.size + 1 by omega) (.slice (some ⟨g2, 0, none⟩) 3 rc)) (Nat.le_refl w.heap.size) (.int .i64 10) (.int .i64 5) (.int .i64 4) (.int .i64 (-1)) (.int .i64 2) (.int .i64 10) (.slice (some ⟨w1.heap.size, 0, none⟩) 3 3) (.slice (some ⟨g2, 0, none⟩) 3 rc)
  have C := cellB (put8_same r7 (.int .i64 10) (.int .i64 5) (.int .i64 4) (.int .i64 (-1)) (.int .i64 2) (.int .i64 10) (.slice (some ⟨w1.heap.size, 0, none⟩) 3 3) (.slice (some ⟨g2, 0, none⟩) 3 rc))
  have G7 : mblk ((((((((((((((((w6.setCell ⟨w4.heap.size + 1, 7, none⟩ (.slice (some ⟨g2, 0, none⟩) 3 rc)).setCell ⟨w.heap.size, 0, none⟩ (.int .i64 10))).setCell ⟨w.heap.size, 1, none⟩ (.int .i64 5))).setCell ⟨w.heap.size, 2, none⟩ (.int .i64 4))).setCell ⟨w.heap.size, 3, none⟩ (.int .i64 (-1)))).setCell ⟨w.heap.size, 4, none⟩ (.int .i64 2))).setCell ⟨w.heap.size, 5, none⟩ (.int .i64 10))).setCell ⟨w.heap.size, 6, none⟩ (.slice (some ⟨w1.heap.size, 0, none⟩) 3 3))).setCell ⟨w.heap.size, 7, none⟩ (.slice (some ⟨g2, 0, none⟩) 3 rc)) w1.heap.size = some (.cells #[.int .i64 (-4), .int .i64 (-5), .int .i64 (-4)] 3 (0, 0)) := (put8_other (w6.setCell ⟨w4.heap.size + 1, 7, none⟩ (.slice (some ⟨g2, 0, none⟩) 3 rc)) hne2 (.int .i64 10) (.int .i64 5) (.int .i64 4) (.int .i64 (-1)) (.int .i64 2) (.int .i64 10) (.slice (some ⟨w1.heap.size, 0, none⟩) 3 3) (.slice (some ⟨g2, 0, none⟩) 3 rc)).trans ((blk_set _ _ _ _ (by show w1.heap.size ≠ w4.heap.size + 1; omega)).trans g6)
  have hg2n : g2 ≠ w4.heap.size + 1 := fun e => by
    subst e
    rw [hb2] at b6
    simp at b6
  have hg2w : g2 ≠ w.heap.size := by omega
  have B7 : mblk ((((((((((((((((w6.setCell ⟨w4.heap.size + 1, 7, none⟩ (.slice (some ⟨g2, 0, none⟩) 3 rc)).setCell ⟨w.heap.size, 0, none⟩ (.int .i64 10))).setCell ⟨w.heap.size, 1, none⟩ (.int .i64 5))).setCell ⟨w.heap.size, 2, none⟩ (.int .i64 4))).setCell ⟨w.heap.size, 3, none⟩ (.int .i64 (-1)))).setCell ⟨w.heap.size, 4, none⟩ (.int .i64 2))).setCell ⟨w.heap.size, 5, none⟩ (.int .i64 10))).setCell ⟨w.heap.size, 6, none⟩ (.slice (some ⟨w1.heap.size, 0, none⟩) 3 3))).setCell ⟨w.heap.size, 7, none⟩ (.slice (some ⟨g2, 0, none⟩) 3 rc)) g2 = some (.cells cur 71 (0, 0)) := (put8_other (w6.setCell ⟨w4.heap.size + 1, 7, none⟩ (.slice (some ⟨g2, 0, none⟩) 3 rc)) hg2w (.int .i64 10) (.int .i64 5) (.int .i64 4) (.int .i64 (-1)) (.int .i64 2) (.int .i64 10) (.slice (some ⟨w1.heap.size, 0, none⟩) 3 3) (.slice (some ⟨g2, 0, none⟩) 3 rc)).trans ((blk_set _ _ _ _ (by show g2 ≠ w4.heap.size + 1; exact hg2n)).trans hb2)
  refine bodyPost_ret (v := BV 10 5 4 (-1) 2 10 (.slice (some ⟨w1.heap.size, 0, none⟩) 3 3) (.slice (some ⟨g2, 0, none⟩) 3 rc)) (by simp [results, Try.results52, go_sem, C]) rfl ⟨w1.heap.size, _, rc, rfl, V7, ?_, ?_⟩
  · refine Ints.new (cap := 3) (xs := exSt) G7 (by decide) (by decide) fun j hj => ?_
    have : j = 0 ∨ j = 1 ∨ j = 2 := by have : j < 3 := hj; omega
    rcases this with rfl | rfl | rfl <;> rfl
  · exact lks_of_blk (ls := exTn) B7 (by omega) hm2 hs2 ht2 rfl (by omega)
theorem kn_tornOk : S.bookOk 10 5 4 (-1) 2 10 exSt exTn = true := by kernel_rfl
theorem kn_torn : ∀ v, ¬ (S.bk (-1) 2 10 exSt exTn).Tru v := fun v hv => by
  have a : 18 ≤ v 0 ∧ v 0 ≤ 22 := hv.look 0 (Nat.zero_le _) (0, 18, 22) (by simp [S.bk]) rfl
  have b : 20 ≤ v 3 ∧ v 3 ≤ 30 := hv.look 3 (by show 3 ≤ (10 : Int).toNat; decide) (3, 20, 30) (by simp [S.bk]) rfl
  have s0 : -4 + -1 ≤ v 1 - v 0 ∧ v 1 - v 0 ≤ -4 + 2 := hv.step 0 (by show 0 < (10 : Int).toNat; decide)
  have s1 : -5 + -1 ≤ v 2 - v 1 ∧ v 2 - v 1 ≤ -5 + 2 := hv.step 1 (by show 1 < (10 : Int).toNat; decide)
  have s2 : -4 + -1 ≤ v 3 - v 2 ∧ v 3 - v 2 ≤ -4 + 2 := hv.step 2 (by show 2 < (10 : Int).toNat; decide)
  omega
theorem kn_told {t : Int} (ht : 0 ≤ t ∧ t ≤ 10) {l h e : Int} (T : S.Told 10 5 4 (-1) 2 10 exSt exTn t l h e) : l = 0 ∧ h = 0 ∧ e = 42 := by
  rcases T.yes kn_tornOk ht with ⟨p1, p2, p3, _⟩ | ⟨_, p2⟩
  · exact ⟨p1, p2, p3⟩
  · obtain ⟨v, hv, _⟩ := p2.low
    exact absurd hv (kn_torn v)
section
variable {a a' : Option Addr} {n c n' c' : Nat} {w : World}
theorem kn_E2 (I : Ints w (.slice a n c) exSt) (I' : Lks w (.slice a' n' c') exTn) : Calls Try.prog 27 #[BV 10 5 4 (-1) 2 10 (.slice a n c) (.slice a' n' c'), .int .i64 0] w fun e w' => e = .returned (.tuple #[SpV 0 0, .int .i64 42]) ∧ Up w w' :=
  (Error_any I I' 0).mono fun e w' ⟨l, h, r, he, t, u⟩ => by
    obtain ⟨rfl, rfl, rfl⟩ := kn_told (by omega) t
    exact ⟨he, u⟩
theorem kn_E3 (I : Ints w (.slice a n c) exSt) (I' : Lks w (.slice a' n' c') exTn) : Calls Try.prog 27 #[BV 10 5 4 (-1) 2 10 (.slice a n c) (.slice a' n' c'), .int .i64 11] w fun e w' => e = .returned (.tuple #[SpV 0 0, .int .i64 41]) ∧ Up w w' :=
  (Error_any I I' 11).mono fun e w' ⟨l, h, r, he, t, u⟩ => by
    obtain ⟨rfl, rfl, rfl⟩ := t.ask kn_tornOk (by omega)
    exact ⟨he, u⟩
theorem kn_T2 (I : Ints w (.slice a n c) exSt) (I' : Lks w (.slice a' n' c') exTn) : Calls Try.prog 31 #[BV 10 5 4 (-1) 2 10 (.slice a n c) (.slice a' n' c'), .int .i64 0] w fun e w' => e = .returned (.tuple #[.int .i64 0, .int .i64 42]) ∧ Up w w' :=
  (Stated_any I I' 0).mono fun e w' ⟨l, h, r, he, t, u⟩ => by
    obtain ⟨rfl, rfl, rfl⟩ := kn_told (by omega) t
    exact ⟨by rw [he]; kernel_rfl, u⟩
theorem kn_W2 (I : Ints w (.slice a n c) exSt) (I' : Lks w (.slice a' n' c') exTn) : Calls Try.prog 33 #[BV 10 5 4 (-1) 2 10 (.slice a n c) (.slice a' n' c')] w fun e w' => e = .returned (.tuple #[.int .i64 0, .int .i64 0, .int .i64 42]) ∧ Up w w' :=
  (Worst_any I I').mono fun e w' ⟨tk, of, r, he, t, u⟩ => by
    rcases t.yes kn_tornOk with ⟨rfl, rfl, rfl, _⟩ | ⟨_, o, q, _⟩
    · exact ⟨he, u⟩
    · obtain ⟨v, hv, _⟩ := (q 0 (Nat.zero_le _)).low
      exact absurd hv (kn_torn v)
theorem kn_M2 (I : Ints w (.slice a n c) exSt) (I' : Lks w (.slice a' n' c') exTn) : Calls Try.prog 35 #[BV 10 5 4 (-1) 2 10 (.slice a n c) (.slice a' n' c')] w fun e w' => e = .returned (.tuple #[.int .i64 0, .int .i64 0, .int .i64 42]) ∧ Up w w' :=
  (Meets_any I I').mono fun e w' ⟨l, h, r, t, u, ht⟩ => by
    obtain ⟨rfl, rfl, rfl⟩ := kn_told (by omega) t
    rcases ht with ⟨_, he⟩ | ⟨h1, _⟩
    · exact ⟨he, u⟩
    · omega
theorem kn_T3 (I : Ints w (.slice a n c) exSt) (I' : Lks w (.slice a' n' c') exLk) : Calls Try.prog 31 #[BV 10 5 4 (-1) 2 10 (.slice a n c) (.slice a' n' c'), .int .i64 (-1)] w fun e w' => e = .returned (.tuple #[.int .i64 0, .int .i64 41]) ∧ Up w w' :=
  (Stated_any I I' (-1)).mono fun e w' ⟨l, h, r, he, t, u⟩ => by
    obtain ⟨rfl, rfl, rfl⟩ := t.ask exOk (by omega)
    exact ⟨by rw [he]; kernel_rfl, u⟩
end
theorem kn_S2 {v : Value} {w : World} (I : Ints w v [5]) : Calls Try.prog 24 #[RV 10 5 4 (-1) 2, .int .i64 0, v] w fun e w' => e = .returned (.tuple #[.slice none 0 0, .int .i64 41]) ∧ Up w w' :=
  Shown_ask2 w exRule 0 (by omega) (by omega) I (by kernel_rfl)

end Go.Proofs.Ytcadpdbadgejfaa
