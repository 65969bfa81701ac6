import Derived.Test.YtckjggkikpgidaaRfc
/- The law ScaleReaches. -/
namespace Go.Proofs.Ytckjggkikpgidaa
open Go.RowKit

theorem cell_int2r {w : World} {b : Nat} {cs : Array Value} (h : mblk w b = some (.cells cs 36 (0, 0))) (j : Nat) : w.cell? ⟨b, j, none⟩ = cs[j]? := cellB h j
attribute [go_sem] cell_int2r
theorem S.reach_both (f s j dl dh n0 : Int) : ∃ a b e : Int, Hid (∀ w, Calls Try.prog 22 #[RV f s j dl dh, .int .i64 n0] w fun x w' => x = .returned (.tuple #[SpV a b, .int .i64 e]) ∧ Up w w') ∧ Hid (∀ w, Calls Try.prog 23 #[RV f s j dl dh, .int .i64 n0] w fun x w' => x = .returned (.tuple #[SpV a b, .int .i64 e]) ∧ Up w w') := by
  cases h : S.ok f s j dl dh with
  | false => exact ⟨0, 0, 40, Lib.hid fun w => Reach_no w h n0, Lib.hid fun w => r_Reach_no f s j dl dh n0 h w⟩
  | true =>
    by_cases ht : 0 ≤ n0 ∧ n0 ≤ 200
    · obtain ⟨T, rfl⟩ : ∃ T : Nat, n0 = T := ⟨n0.toNat, by omega⟩
      exact ⟨_, _, 0, Lib.hid fun w => Reach_yes w h T (by omega), Lib.hid fun w => r_Reach_yes f s j dl dh T h (by omega) w⟩
    · exact ⟨0, 0, 41, Lib.hid fun w => Reach_ask w h n0 ht, Lib.hid fun w => r_Reach_ask f s j dl dh n0 h ht w⟩
theorem S.shown_both (f s j dl dh n1 : Int) (xs : List Int) : ∃ (zs : List Int) (e : Int), Hid (∀ w v (_ : Ints w v xs), Calls Try.prog 24 #[RV f s j dl dh, .int .i64 n1, v] w fun x w' => ∃ v', x = .returned (.tuple #[v', .int .i64 e]) ∧ Up w w' ∧ Ints w' v' zs) ∧ Hid (∀ w v (_ : Ints w v xs), Calls Try.prog 25 #[RV f s j dl dh, .int .i64 n1, v] w fun x w' => ∃ v', x = .returned (.tuple #[v', .int .i64 e]) ∧ Up w w' ∧ Ints w' v' zs) := by
  cases h : S.ok f s j dl dh with
  | false => exact ⟨[], 40, Lib.hid fun w v _ => (Shown_no w h n1).mono fun _ _ ⟨a, b⟩ => ⟨_, a, b, Ints.nil _⟩, Lib.hid fun w v _ => (r_Shown_no w h n1).mono fun _ _ ⟨a, b⟩ => ⟨_, a, b, Ints.nil _⟩⟩
  | true =>
    by_cases ht : 0 ≤ n1 ∧ n1 ≤ 10000000
    · cases hk : (decide ((xs.length : Int) ≤ 200) && S.keeps f s j 0 xs) with
      | false => exact ⟨[], 41, Lib.hid fun w v I => (Shown_ask2 w h n1 ht.1 ht.2 I hk).mono fun _ _ ⟨a, b⟩ => ⟨_, a, b, Ints.nil _⟩, Lib.hid fun w v I => (r_Shown_ask2 w h n1 ht.1 ht.2 I hk).mono fun _ _ ⟨a, b⟩ => ⟨_, a, b, Ints.nil _⟩⟩
      | true => exact ⟨_, 0, Lib.hid fun w v I => Shown_yes w h n1 ht.1 ht.2 I hk, Lib.hid fun w v I => r_Shown_yes w h n1 ht.1 ht.2 I hk⟩
    · exact ⟨[], 41, Lib.hid fun w v _ => (Shown_ask1 w h n1 ht).mono fun _ _ ⟨a, b⟩ => ⟨_, a, b, Ints.nil _⟩, Lib.hid fun w v _ => (r_Shown_ask1 w h n1 ht).mono fun _ _ ⟨a, b⟩ => ⟨_, a, b, Ints.nil _⟩⟩
set_option maxRecDepth 100000 in
set_option maxHeartbeats 4000000 in
theorem scaleReaches_any (f s j dl dh n0 n1 : Int) {bv : Option Addr} {bn bc : Nat} {xs : List Int} {w : World} (I : Ints w (.slice bv bn bc) xs) : Calls Try.prog 4 #[RV f s j dl dh, .agg #[.int .i64 n0, .int .i64 n1], .slice bv bn bc] w fun e w' => e = .returned (.bool true) ∧ Up w w' := by
  have U0 := ((Up.refl w).alloc (.cells #[.int .i64 f, .int .i64 s, .int .i64 j, .int .i64 dl, .int .i64 dh] 25)).alloc (.cells #[.int .i64 n0, .int .i64 n1] 36)
  have k3 := blk_keep (.cells #[.int .i64 n0, .int .i64 n1] 36) (blk_new w (.cells #[.int .i64 f, .int .i64 s, .int .i64 j, .int .i64 dl, .int .i64 dh] 25) _ rfl)
  have k4 := blk_new (w.alloc (.cells #[.int .i64 f, .int .i64 s, .int .i64 j, .int .i64 dl, .int .i64 dh] 25)) (.cells #[.int .i64 n0, .int .i64 n1] 36) (w.heap.size + 1) (by simp)
  have HW := Lib.hid (fun w => l_works_any w)
  obtain ⟨a, b, e, HA, HB⟩ := S.reach_both f s j dl dh n0
  obtain ⟨zs, e', HC, HD⟩ := S.shown_both f s j dl dh n1 xs
  have HI := Lib.hid (fun w' (u : Up w w') => I.up u)
  clear I
  go_enter Try.func4, Try.ntmps4
  go_wp2_with fail
  refine (HA.out _).mono ?_
  rintro x w1 ⟨rfl, u1⟩
  have m7 := blk_new w1 (.cells #[.int .i64 a, .int .i64 b] 23) _ rfl
  have l3 := blk_lt (u1.blk k3)
  have l4 := blk_lt (u1.blk k4)
  replace k3 := blk_keep (.cells #[.int .i64 a, .int .i64 b] 23) (u1.blk k3)
  replace k4 := blk_keep (.cells #[.int .i64 a, .int .i64 b] 23) (u1.blk k4)
  replace U0 := (U0.trans u1).alloc (.cells #[.int .i64 a, .int .i64 b] 23)
  clear u1 HA
  go_wp2_with fail
  refine (HB.out _).mono ?_
  rintro x w2 ⟨rfl, u2⟩
  have m9 := blk_new w2 (.cells #[.int .i64 a, .int .i64 b] 23) _ rfl
  have l3 := blk_lt (u2.blk k3)
  have l4 := blk_lt (u2.blk k4)
  have l7 := blk_lt (u2.blk m7)
  replace k3 := blk_keep (.cells #[.int .i64 a, .int .i64 b] 23) (u2.blk k3)
  replace k4 := blk_keep (.cells #[.int .i64 a, .int .i64 b] 23) (u2.blk k4)
  replace m7 := blk_keep (.cells #[.int .i64 a, .int .i64 b] 23) (u2.blk m7)
  replace U0 := (U0.trans u2).alloc (.cells #[.int .i64 a, .int .i64 b] 23)
  clear u2 HB
  obtain ⟨p7, hp7⟩ : ∃ p, w1.heap.size = p := ⟨_, rfl⟩
  obtain ⟨p9, hp9⟩ : ∃ p, w2.heap.size = p := ⟨_, rfl⟩
  obtain ⟨W3, hW3⟩ : ∃ W, w2.alloc (.cells #[.int .i64 a, .int .i64 b] 23) = W := ⟨_, rfl⟩
  rw [hp7] at m7
  rw [hp9] at m9
  rw [hW3] at m7 m9 k3 k4 U0
  go_wp2_with fail
  clear hp7 hp9 hW3 l3 l4 l7
  refine (HC.out _ _ (HI.out _ U0)).mono ?_
  rintro x w4 ⟨v1, rfl, u4, I1⟩
  replace k3 := u4.blk k3
  replace k4 := u4.blk k4
  replace U0 := U0.trans u4
  clear u4 HC m7 m9
  go_wp2_with fail
  refine (HD.out _ _ (HI.out _ U0)).mono ?_
  rintro x w5 ⟨v2, rfl, u5, I2⟩
  replace I1 := I1.up u5
  replace U0 := U0.trans u5
  clear u5 HD HI k3 k4
  have HE := Lib.hid (B_Alike_any I1 I2)
  clear I1 I2
  go_wp2_with fail
  refine HE.out.mono ?_
  rintro x w6 ⟨rfl, u6⟩
  go_wp2_with fail
  refine (HW.out _).mono ?_
  rintro x w7 ⟨rfl, u7⟩
  go_wp2
  go_ret
  exact ⟨rfl, (U0.trans u6).trans u7⟩

end Go.Proofs.Ytckjggkikpgidaa
