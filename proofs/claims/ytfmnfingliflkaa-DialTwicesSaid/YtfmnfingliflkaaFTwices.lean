import Derived.Test.YtfmnfingliflkaaRefK
import Derived.Test.YtfmnfingliflkaaLawB
/- The walk of the law DialTwices. -/
namespace Go.Proofs.Ytfmnfingliflkaa
open Go.RowKit
attribute [local go_sem] cell_TW7
section
variable {h m s d : Int} {a : Option Addr} {n c : Nat} {L : List (Int × Bool)} {ah : Int} {a' : Option Addr} {n' c' : Nat} {M : List (Int × Int)} {w : World}
/-- what both return -/
theorem both_Twice (A : CalArg w a n c L) (hn : n ≤ 17592186044000) (B : TownArg w a' n' c' M) : ∃ v e : Int, (∀ w', Up w w' → Calls Try.prog 38 #[.agg #[.int .i64 h, .int .i64 m, .int .i64 s, .int .i64 d, .slice a n c], .agg #[.int .i64 ah, .slice a' n' c']] w' fun x w'' => x = .returned (.tuple #[.int .i64 v, .int .i64 e]) ∧ Up w' w'') ∧ ∀ w', Up w w' → Calls Try.prog 39 #[.agg #[.int .i64 h, .int .i64 m, .int .i64 s, .int .i64 d, .slice a n c], .agg #[.int .i64 ah, .slice a' n' c']] w' fun x w'' => x = .returned (.tuple #[.int .i64 v, .int .i64 e]) ∧ Up w' w'' := by
  by_cases he : D.townE h m s d L ah M = 0
  · have hv : D.valid h m s d L = true := by
      cases hv : D.valid h m s d L
      · simp [D.townE, hv] at he
      · rfl
    have ht : D.townOk (D.beg h m s (D.deeds L L.length) d.toNat) ah M = true := by
      cases ht : D.townOk (D.beg h m s (D.deeds L L.length) d.toNat) ah M
      · simp [D.townE, hv, ht] at he
      · rfl
    obtain ⟨h1, h2, m1, m2, s1, s2, d1, d2⟩ := D.valid_bd hv
    obtain ⟨N, rfl⟩ : ∃ N : Nat, d = N := ⟨d.toNat, by omega⟩
    have KY := fun w' (u : Up w w') => Twice_yes (h := h) (m := m) (s := s) (d := N) (c := c) (c' := c') (ah := ah) (A.up u) (B.up u) hv ht
    rw [Int.toNat_natCast] at ht KY
    obtain ⟨r, er, hr⟩ := D.twice_dup h1 h2 m1 m2 s1 s2 (by omega) ht
    rw [er] at KY
    exact ⟨r, 0, KY, fun _ u => r_Twice_yes (A.up u) hn (B.up u) hv ht r hr⟩
  · exact ⟨0, _, fun _ u => Twice_no (A.up u) (B.up u) he, fun _ u => r_Twice_no (A.up u) hn (B.up u) he⟩
set_option maxRecDepth 100000 in
set_option maxHeartbeats 2000000 in
theorem dialTwices_any (A : CalArg w a n c L) (hn : n ≤ 17592186044000) (B : TownArg w a' n' c' M) :
    Calls Try.prog 6 #[.agg #[.int .i64 h, .int .i64 m, .int .i64 s, .int .i64 d, .slice a n c, .int .i64 ah, .slice a' n' c']] w fun e w' => e = .returned (.bool true) ∧ Up w w' := by
  have U0 := (Up.refl w).alloc (.cells #[.int .i64 h, .int .i64 m, .int .i64 s, .int .i64 d, .slice a n c, .int .i64 ah, .slice a' n' c'] 46)
  obtain ⟨v, x, T1, T2⟩ := both_Twice (h := h) (m := m) (s := s) (d := d) (c := c) (c' := c') (ah := ah) A hn B
  have HT1 := Lib.hid T1
  have HT2 := Lib.hid T2
  have c0 : mblk (w.alloc (.cells #[.int .i64 h, .int .i64 m, .int .i64 s, .int .i64 d, .slice a n c, .int .i64 ah, .slice a' n' c'] 46)) w.heap.size = some (.cells #[.int .i64 h, .int .i64 m, .int .i64 s, .int .i64 d, .slice a n c, .int .i64 ah, .slice a' n' c'] 46 (0, 0)) := blk_new _ _ _ rfl
  clear T1 T2 A B hn
  go_enter Try.func6, Try.ntmps6
  go_wp2_with fail
  refine (HT1.out _ U0).mono ?_
  rintro e w1 ⟨rfl, u1⟩
  have U1 := U0.trans u1
  have c1 := u1.blk c0
  have f1 := cellB c1
  clear u1 U0 c0
  go_wp2_with fail
  refine (HT2.out _ U1).mono ?_
  rintro e w2 ⟨rfl, u2⟩
  go_wp2_with fail
  refine (l_works_any _).mono ?_
  rintro e w3 ⟨rfl, u3⟩
  go_wp2
  go_ret
  exact ⟨rfl, (U1.trans u2).trans u3⟩
end

end Go.Proofs.Ytfmnfingliflkaa
