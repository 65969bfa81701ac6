import Derived.Test.YtfmnfingliflkaaRefF
/- The walk of the law DialAparts. -/
namespace Go.Proofs.Ytfmnfingliflkaa
open Go.RowKit
theorem cell_BOX2p {w : World} {b : Nat} {cs : Array Value} (h : mblk w b = some (.cells cs 25 (0, 0))) (j : Nat) : w.cell? ⟨b, j, none⟩ = cs[j]? := cellB h j
theorem cell_RD2p {w : World} {b : Nat} {cs : Array Value} (h : mblk w b = some (.cells cs 38 (0, 0))) (j : Nat) : w.cell? ⟨b, j, none⟩ = cs[j]? := cellB h j
attribute [local go_sem] cell_BOX2p cell_RD2p cell_CAL

set_option maxRecDepth 100000 in
set_option maxHeartbeats 4000000 in
theorem dialAparts_any {h m s d : Int} {a : Option Addr} {n c : Nat} {L : List (Int × Bool)} {w : World} (A : CalArg w a n c L) (hn : n ≤ 17592186044000) (n0 n1 p0 p1 p2 p3 q0 q1 q2 q3 : Int) :
    Calls Try.prog 4 #[.agg #[.int .i64 h, .int .i64 m, .int .i64 s, .int .i64 d, .slice a n c], .agg #[.int .i64 n0, .int .i64 n1], .agg #[.int .i64 p0, .int .i64 p1, .int .i64 p2, .int .i64 p3, .int .i64 q0, .int .i64 q1, .int .i64 q2, .int .i64 q3]] w fun e w' => e = .returned (.bool true) ∧ Up w w' := by
  have U0 := (((Up.refl w).alloc (.cells #[.int .i64 h, .int .i64 m, .int .i64 s, .int .i64 d, .slice a n c] 24)).alloc (.cells #[.int .i64 n0, .int .i64 n1] 25)).alloc (.cells #[.int .i64 p0, .int .i64 p1, .int .i64 p2, .int .i64 p3, .int .i64 q0, .int .i64 q1, .int .i64 q2, .int .i64 q3] 38)
  obtain ⟨v1, e1, L1, L2⟩ := both_Apart (h := h) (m := m) (s := s) (d := d) (c := c) A hn p0 p1 p2 p3 q0 q1 q2 q3
  obtain ⟨v2, e2, C1, C2⟩ := both_Next (h := h) (m := m) (s := s) (d := d) (c := c) A hn n0 n1
  have HL1 := Lib.hid L1
  have HL2 := Lib.hid L2
  have HC1 := Lib.hid C1
  have HC2 := Lib.hid C2
  clear L1 L2 C1 C2 A hn
  go_enter Try.func4, Try.ntmps4
  go_wp2_with fail
  obtain ⟨W0, hW0⟩ : ∃ W0, ((w.alloc (.cells #[.int .i64 h, .int .i64 m, .int .i64 s, .int .i64 d, .slice a n c] 24)).alloc (.cells #[.int .i64 n0, .int .i64 n1] 25)).alloc (.cells #[.int .i64 p0, .int .i64 p1, .int .i64 p2, .int .i64 p3, .int .i64 q0, .int .i64 q1, .int .i64 q2, .int .i64 q3] 38) = W0 := ⟨_, rfl⟩
  rw [hW0] at U0 ⊢
  have c0 : mblk W0 w.heap.size = some (.cells #[.int .i64 h, .int .i64 m, .int .i64 s, .int .i64 d, .slice a n c] 24 (0, 0)) := by rw [← hW0]; exact blk_keep _ (blk_keep _ (blk_new _ _ _ rfl))
  have n0' : mblk W0 (w.heap.size + 1) = some (.cells #[.int .i64 n0, .int .i64 n1] 25 (0, 0)) := by rw [← hW0]; exact blk_keep _ (blk_new _ _ _ (by simp))
  have r0 : mblk W0 (w.heap.size + 1 + 1) = some (.cells #[.int .i64 p0, .int .i64 p1, .int .i64 p2, .int .i64 p3, .int .i64 q0, .int .i64 q1, .int .i64 q2, .int .i64 q3] 38 (0, 0)) := by rw [← hW0]; exact blk_new _ _ _ (by simp)
  clear hW0
  refine (HL1.out _ U0).mono ?_
  rintro e w1 ⟨rfl, u1⟩
  have U1 := U0.trans u1
  have c1 := u1.blk c0
  have n1' := u1.blk n0'
  have r1 := u1.blk r0
  have fc1 := cellB c1
  have fn1 := cellB n1'
  have fr1 := cellB r1
  clear u1 U0 c0 n0' r0
  go_wp2_with fail
  refine (HL2.out _ U1).mono ?_
  rintro e w2 ⟨rfl, u2⟩
  have U2 := U1.trans u2
  have c2 := u2.blk c1
  have n2' := u2.blk n1'
  have r2 := u2.blk r1
  have fc2 := cellB c2
  have fn2 := cellB n2'
  have fr2 := cellB r2
  clear u2 U1 c1 n1' r1 fc1 fn1 fr1
  go_wp2_with fail
  refine (HC1.out _ U2).mono ?_
  rintro e w3 ⟨rfl, u3⟩
  have U3 := U2.trans u3
  have c3 := u3.blk c2
  have n3' := u3.blk n2'
  have r3 := u3.blk r2
  have fc3 := cellB c3
  have fn3 := cellB n3'
  have fr3 := cellB r3
  clear u3 U2 c2 n2' r2 fc2 fn2 fr2
  go_wp2_with fail
  refine (HC2.out _ U3).mono ?_
  rintro e w4 ⟨rfl, u4⟩
  have U4 := U3.trans u4
  have c4 := u4.blk c3
  have n4' := u4.blk n3'
  have r4 := u4.blk r3
  have fc4 := cellB c4
  have fn4 := cellB n4'
  have fr4 := cellB r4
  clear u4 U3 c3 n3' r3 fc3 fn3 fr3
  go_wp2_with fail
  refine (l_works_any _).mono ?_
  rintro e w5 ⟨rfl, u5⟩
  go_wp2
  go_ret
  exact ⟨rfl, U4.trans u5⟩

end Go.Proofs.Ytfmnfingliflkaa
