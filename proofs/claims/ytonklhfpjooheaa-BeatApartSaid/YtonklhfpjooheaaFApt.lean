import Derived.Test.YtonklhfpjooheaaBth
import Derived.Test.YtonklhfpjooheaaLws
import Derived.Test.YtonklhfpjooheaaHeQ
/- The law BeatApart. -/
namespace Go.Proofs.Ytonklhfpjooheaa
open Go.RowKit Go.Shelf
attribute [local go_sem] Oper.semAt_some

theorem cell_int3 {w : World} {b : Nat} {cs : Array Value} (h : mblk w b = some (.cells cs 39 (0, 0))) (j : Nat) : w.cell? ⟨b, j, none⟩ = cs[j]? := cellB h j
attribute [local go_sem] cell_int3
section
variable {aR aO aP : Option Addr} {nR cR nO cO nP cP : Nat} {rs : T.LR} {os : T.LO} {ps : T.LP}
set_option maxRecDepth 100000 in
set_option maxHeartbeats 8000000 in
set_option linter.unusedSimpArgs false in
theorem beatApart_any {Hi n0 n1 n2 m0 m1 m2 : Int} {w : World} (I : Sps w (.slice aR nR cR) rs) (IO : Ops w (.slice aO nO cO) os) (IP : Prs w (.slice aP nP cP) ps) :
    Calls Try.prog 4 #[ClV Hi (.slice aR nR cR) (.slice aO nO cO) (.slice aP nP cP), .agg #[.int .i64 n0, .int .i64 n1, .int .i64 n2], .agg #[.int .i64 m0, .int .i64 m1, .int .i64 m2]] w fun e w' => e = .returned (.bool true) ∧ Up w w' := by
  have HW := Lib.hid (fun w => l_works_any w)
  obtain ⟨l, h, e, hA⟩ := T.both_Apart (Hi := Hi) I IO IP n0 n1 n2
  obtain ⟨l', h', e', hD⟩ := T.both_Drift (Hi := Hi) I IO IP m0 m1 m2
  have HA := Lib.hid hA
  have HD := Lib.hid hD
  clear hA hD I IO IP
  go_enter Try.func4, Try.ntmps4
  have U := (((Up.refl w).alloc (.cells #[.int .i64 Hi, .slice aR nR cR, .slice aO nO cO, .slice aP nP cP] 26)).alloc (.cells #[.int .i64 n0, .int .i64 n1, .int .i64 n2] 39)).alloc (.cells #[.int .i64 m0, .int .i64 m1, .int .i64 m2] 39)
  obtain ⟨q0, e0⟩ : ∃ x, w.heap.size = x := ⟨_, rfl⟩
  have kC := blk_keep (.cells #[.int .i64 m0, .int .i64 m1, .int .i64 m2] 39) (blk_keep (.cells #[.int .i64 n0, .int .i64 n1, .int .i64 n2] 39) (blk_new w (.cells #[.int .i64 Hi, .slice aR nR cR, .slice aO nO cO, .slice aP nP cP] 26) q0 e0.symm))
  have kN := blk_keep (.cells #[.int .i64 m0, .int .i64 m1, .int .i64 m2] 39) (blk_new (w.alloc (.cells #[.int .i64 Hi, .slice aR nR cR, .slice aO nO cO, .slice aP nP cP] 26)) (.cells #[.int .i64 n0, .int .i64 n1, .int .i64 n2] 39) (q0 + 1) (by simp [e0]))
  have kM := blk_new ((w.alloc (.cells #[.int .i64 Hi, .slice aR nR cR, .slice aO nO cO, .slice aP nP cP] 26)).alloc (.cells #[.int .i64 n0, .int .i64 n1, .int .i64 n2] 39)) (.cells #[.int .i64 m0, .int .i64 m1, .int .i64 m2] 39) (q0 + 1 + 1) (by simp [e0])
  go_wp2_with fail
  refine ((HA.out _ U).1).mono ?_
  rintro e x1 ⟨rfl, u2⟩
  replace U := U.trans u2
  replace kC := u2.blk kC
  replace kN := u2.blk kN
  replace kM := u2.blk kM
  clear u2 
  have dkCks := blk_lt kC
  have dkNks := blk_lt kN
  have dkMks := blk_lt kM
  have gks := U.size
  have ks := blk_new x1 (.cells #[.int .i64 l, .int .i64 h] 34) _ rfl
  replace kC := blk_keep (.cells #[.int .i64 l, .int .i64 h] 34) kC
  replace kN := blk_keep (.cells #[.int .i64 l, .int .i64 h] 34) kN
  replace kM := blk_keep (.cells #[.int .i64 l, .int .i64 h] 34) kM
  replace U := U.alloc (.cells #[.int .i64 l, .int .i64 h] 34)
  obtain ⟨pks, hpks⟩ : ∃ z, x1.heap.size = z := ⟨_, rfl⟩
  obtain ⟨W3, hW3⟩ : ∃ z, x1.alloc (.cells #[.int .i64 l, .int .i64 h] 34) = z := ⟨_, rfl⟩
  rw [hpks] at ks dkCks dkNks dkMks gks
  rw [hW3] at ks U kC kN kM
  go_wp2_with fail
  clear hpks hW3
  refine ((HA.out _ U).2).mono ?_
  rintro e x4 ⟨rfl, u5⟩
  replace U := U.trans u5
  replace kC := u5.blk kC
  replace kN := u5.blk kN
  replace kM := u5.blk kM
  replace ks := u5.blk ks
  clear u5 
  have dkCkt := blk_lt kC
  have dkNkt := blk_lt kN
  have dkMkt := blk_lt kM
  have dkskt := blk_lt ks
  have gkt := U.size
  have kt := blk_new x4 (.cells #[.int .i64 l, .int .i64 h] 34) _ rfl
  replace kC := blk_keep (.cells #[.int .i64 l, .int .i64 h] 34) kC
  replace kN := blk_keep (.cells #[.int .i64 l, .int .i64 h] 34) kN
  replace kM := blk_keep (.cells #[.int .i64 l, .int .i64 h] 34) kM
  replace ks := blk_keep (.cells #[.int .i64 l, .int .i64 h] 34) ks
  replace U := U.alloc (.cells #[.int .i64 l, .int .i64 h] 34)
  obtain ⟨pkt, hpkt⟩ : ∃ z, x4.heap.size = z := ⟨_, rfl⟩
  obtain ⟨W6, hW6⟩ : ∃ z, x4.alloc (.cells #[.int .i64 l, .int .i64 h] 34) = z := ⟨_, rfl⟩
  rw [hpkt] at kt dkCkt dkNkt dkMkt dkskt gkt
  rw [hW6] at kt U kC kN kM ks
  go_wp2_with fail
  clear hpkt hW6
  refine ((HD.out _ U).1).mono ?_
  rintro e x7 ⟨rfl, u8⟩
  replace U := U.trans u8
  replace kC := u8.blk kC
  replace kN := u8.blk kN
  replace kM := u8.blk kM
  replace ks := u8.blk ks
  replace kt := u8.blk kt
  clear u8 
  have zf := frozB ks
  have i0 := ks
  have U1 := ((U.set (p := ⟨pks, 0, none⟩) (show w.heap.size ≤ pks by omega) (.int .i64 l')).set (p := ⟨pks, 1, none⟩) (show w.heap.size ≤ pks by omega) (.int .i64 h'))
  have jkC := kC
  rw [← blk_set (x7) ⟨pks, 0, none⟩ (.int .i64 l') (q0) (by show q0 ≠ pks; omega), ← blk_set ((x7).setCell ⟨pks, 0, none⟩ (.int .i64 l')) ⟨pks, 1, none⟩ (.int .i64 h') (q0) (by show q0 ≠ pks; omega)] at jkC
  have jkN := kN
  rw [← blk_set (x7) ⟨pks, 0, none⟩ (.int .i64 l') (q0 + 1) (by show q0 + 1 ≠ pks; omega), ← blk_set ((x7).setCell ⟨pks, 0, none⟩ (.int .i64 l')) ⟨pks, 1, none⟩ (.int .i64 h') (q0 + 1) (by show q0 + 1 ≠ pks; omega)] at jkN
  have jkM := kM
  rw [← blk_set (x7) ⟨pks, 0, none⟩ (.int .i64 l') (q0 + 1 + 1) (by show q0 + 1 + 1 ≠ pks; omega), ← blk_set ((x7).setCell ⟨pks, 0, none⟩ (.int .i64 l')) ⟨pks, 1, none⟩ (.int .i64 h') (q0 + 1 + 1) (by show q0 + 1 + 1 ≠ pks; omega)] at jkM
  have jkt := kt
  rw [← blk_set (x7) ⟨pks, 0, none⟩ (.int .i64 l') (pkt) (by show pkt ≠ pks; omega), ← blk_set ((x7).setCell ⟨pks, 0, none⟩ (.int .i64 l')) ⟨pks, 1, none⟩ (.int .i64 h') (pkt) (by show pkt ≠ pks; omega)] at jkt
  have jks : mblk (((x7).setCell ⟨pks, 0, none⟩ (.int .i64 l')).setCell ⟨pks, 1, none⟩ (.int .i64 h')) pks = some (.cells #[.int .i64 l', .int .i64 h'] 34 (0, 0)) := (blk_put (blk_put ks 0 (.int .i64 l')) 1 (.int .i64 h'))
  obtain ⟨W9, hW9⟩ : ∃ z, ((x7).setCell ⟨pks, 0, none⟩ (.int .i64 l')).setCell ⟨pks, 1, none⟩ (.int .i64 h') = z := ⟨_, rfl⟩
  rw [hW9] at jkC jkN jkM jkt jks U1
  clear kC kN kM ks kt U
  have kC := jkC
  have kN := jkN
  have kM := jkM
  have ks := jks
  have kt := jkt
  have U := U1
  clear jkC jkN jkM jkt jks U1
  go_wp2_with fail
  clear hW9 zf i0
  refine ((HD.out _ U).2).mono ?_
  rintro e x10 ⟨rfl, u11⟩
  replace U := U.trans u11
  replace kC := u11.blk kC
  replace kN := u11.blk kN
  replace kM := u11.blk kM
  replace ks := u11.blk ks
  replace kt := u11.blk kt
  clear u11 
  have zf := frozB kt
  have i0 := kt
  have U1 := ((U.set (p := ⟨pkt, 0, none⟩) (show w.heap.size ≤ pkt by omega) (.int .i64 l')).set (p := ⟨pkt, 1, none⟩) (show w.heap.size ≤ pkt by omega) (.int .i64 h'))
  have jkC := kC
  rw [← blk_set (x10) ⟨pkt, 0, none⟩ (.int .i64 l') (q0) (by show q0 ≠ pkt; omega), ← blk_set ((x10).setCell ⟨pkt, 0, none⟩ (.int .i64 l')) ⟨pkt, 1, none⟩ (.int .i64 h') (q0) (by show q0 ≠ pkt; omega)] at jkC
  have jkN := kN
  rw [← blk_set (x10) ⟨pkt, 0, none⟩ (.int .i64 l') (q0 + 1) (by show q0 + 1 ≠ pkt; omega), ← blk_set ((x10).setCell ⟨pkt, 0, none⟩ (.int .i64 l')) ⟨pkt, 1, none⟩ (.int .i64 h') (q0 + 1) (by show q0 + 1 ≠ pkt; omega)] at jkN
  have jkM := kM
  rw [← blk_set (x10) ⟨pkt, 0, none⟩ (.int .i64 l') (q0 + 1 + 1) (by show q0 + 1 + 1 ≠ pkt; omega), ← blk_set ((x10).setCell ⟨pkt, 0, none⟩ (.int .i64 l')) ⟨pkt, 1, none⟩ (.int .i64 h') (q0 + 1 + 1) (by show q0 + 1 + 1 ≠ pkt; omega)] at jkM
  have jks := ks
  rw [← blk_set (x10) ⟨pkt, 0, none⟩ (.int .i64 l') (pks) (by show pks ≠ pkt; omega), ← blk_set ((x10).setCell ⟨pkt, 0, none⟩ (.int .i64 l')) ⟨pkt, 1, none⟩ (.int .i64 h') (pks) (by show pks ≠ pkt; omega)] at jks
  have jkt : mblk (((x10).setCell ⟨pkt, 0, none⟩ (.int .i64 l')).setCell ⟨pkt, 1, none⟩ (.int .i64 h')) pkt = some (.cells #[.int .i64 l', .int .i64 h'] 34 (0, 0)) := (blk_put (blk_put kt 0 (.int .i64 l')) 1 (.int .i64 h'))
  obtain ⟨W12, hW12⟩ : ∃ z, ((x10).setCell ⟨pkt, 0, none⟩ (.int .i64 l')).setCell ⟨pkt, 1, none⟩ (.int .i64 h') = z := ⟨_, rfl⟩
  rw [hW12] at jkC jkN jkM jks jkt U1
  clear kC kN kM ks kt U
  have kC := jkC
  have kN := jkN
  have kM := jkM
  have ks := jks
  have kt := jkt
  have U := U1
  clear jkC jkN jkM jks jkt U1
  go_wp2_with fail
  clear hW12 zf i0
  refine (HW.out _).mono ?_
  rintro e x13 ⟨rfl, u14⟩
  replace U := U.trans u14
  replace kC := u14.blk kC
  replace kN := u14.blk kN
  replace kM := u14.blk kM
  replace ks := u14.blk ks
  replace kt := u14.blk kt
  clear u14 
  go_wp2
  go_ret
  exact ⟨rfl, U⟩
end

end Go.Proofs.Ytonklhfpjooheaa
