import Derived.Test.YtlpkheoljbdajaaRfA
import Derived.Test.YtlpkheoljbdajaaLws
import Derived.Test.YtlpkheoljbdajaaHeQ
/- The law StarSpans. -/
namespace Go.Proofs.Ytlpkheoljbdajaa
open Go.RowKit Go.Shelf
attribute [local go_sem] Oper.semAt_some

theorem cell_int3 {w : World} {b : Nat} {cs : Array Value} (h : mblk w b = some (.cells cs 40 (0, 0))) (j : Nat) : w.cell? ⟨b, j, none⟩ = cs[j]? := cellB h j
attribute [local go_sem] cell_int3
section
variable {bl bh rl rh : Int} {aP aQ aL : Option Addr} {nP cP nQ cQ nL cL : Nat} {ps qs : List (Int × Int)} {ls : List T.T5}
set_option maxRecDepth 100000 in
set_option maxHeartbeats 8000000 in
set_option linter.unusedSimpArgs false in
theorem starSpans_any {M n0 n1 n2 : Int} {w : World} (I : Sps w (.slice aP nP cP) ps) (J : Sps w (.slice aQ nQ cQ) qs) (K : Lks w (.slice aL nL cL) ls) :
    Calls Try.prog 4 #[BoV M bl bh rl rh (.slice aP nP cP) (.slice aQ nQ cQ) (.slice aL nL cL), .agg #[.int .i64 n0, .int .i64 n1, .int .i64 n2]] w fun e w' => e = .returned (.bool true) ∧ Up w w' := by
  have U := (((Up.refl w).alloc (.cells (BoC M bl bh rl rh (.slice aP nP cP) (.slice aQ nQ cQ) (.slice aL nL cL)) 27)).alloc (.cells #[.int .i64 n0, .int .i64 n1, .int .i64 n2] 40))
  have HW := Lib.hid (fun w => l_works_any w)
  have hmx : Try.prog.follows .mixedOrders = true := by kernel_rfl
  obtain ⟨lo, ho, eo, co⟩ := T.both_Offset (bl := bl) (bh := bh) (rl := rl) (rh := rh) M n0 I J K
  have Co := Lib.hid (fun w' (u : Up w w') => (co w' u).1)
  have Ro := Lib.hid (fun w' (u : Up w w') => (co w' u).2)
  clear co
  obtain ⟨lp, hp, ep, cp⟩ := T.both_Person (bl := bl) (bh := bh) (rl := rl) (rh := rh) M n1 I J K
  have Cp := Lib.hid (fun w' (u : Up w w') => (cp w' u).1)
  have Rp := Lib.hid (fun w' (u : Up w w') => (cp w' u).2)
  clear cp
  obtain ⟨lq, hq, eq, cq⟩ := T.both_Path (bl := bl) (bh := bh) (rl := rl) (rh := rh) M n2 I J K
  have Cq := Lib.hid (fun w' (u : Up w w') => (cq w' u).1)
  have Rq := Lib.hid (fun w' (u : Up w w') => (cq w' u).2)
  clear cq
  clear I J K
  go_enter Try.func4, Try.ntmps4
  obtain ⟨q0, e0⟩ : ∃ x, w.heap.size = x := ⟨_, rfl⟩
  have kB := (blk_keep (.cells #[.int .i64 n0, .int .i64 n1, .int .i64 n2] 40) (blk_new w (.cells (BoC M bl bh rl rh (.slice aP nP cP) (.slice aQ nQ cQ) (.slice aL nL cL)) 27) q0 e0.symm))
  have kN := (blk_new (w.alloc (.cells (BoC M bl bh rl rh (.slice aP nP cP) (.slice aQ nQ cQ) (.slice aL nL cL)) 27)) (.cells #[.int .i64 n0, .int .i64 n1, .int .i64 n2] 40) (q0 + 1) (by simp [e0]))
  go_wp2_with fail
  refine (Co.out _ U).mono ?_
  rintro e x1 ⟨rfl, u2⟩
  replace U := U.trans u2
  replace kB := u2.blk kB
  replace kN := u2.blk kN
  clear u2 
  have dkBks := blk_lt kB
  have dkNks := blk_lt kN
  have gks := U.size
  have ks := blk_new x1 (.cells #[.int .i64 lo, .int .i64 ho] 23) _ rfl
  replace kB := blk_keep (.cells #[.int .i64 lo, .int .i64 ho] 23) kB
  replace kN := blk_keep (.cells #[.int .i64 lo, .int .i64 ho] 23) kN
  replace U := U.alloc (.cells #[.int .i64 lo, .int .i64 ho] 23)
  obtain ⟨pks, hpks⟩ : ∃ z, x1.heap.size = z := ⟨_, rfl⟩
  obtain ⟨W3, hW3⟩ : ∃ z, x1.alloc (.cells #[.int .i64 lo, .int .i64 ho] 23) = z := ⟨_, rfl⟩
  rw [hpks] at ks dkBks dkNks gks
  rw [hW3] at ks U kB kN
  go_wp2_with fail
  clear hpks hW3
  refine (Ro.out _ U).mono ?_
  rintro e x4 ⟨rfl, u5⟩
  replace U := U.trans u5
  replace kB := u5.blk kB
  replace kN := u5.blk kN
  replace ks := u5.blk ks
  clear u5 
  have dkBkt := blk_lt kB
  have dkNkt := blk_lt kN
  have dkskt := blk_lt ks
  have gkt := U.size
  have kt := blk_new x4 (.cells #[.int .i64 lo, .int .i64 ho] 23) _ rfl
  replace kB := blk_keep (.cells #[.int .i64 lo, .int .i64 ho] 23) kB
  replace kN := blk_keep (.cells #[.int .i64 lo, .int .i64 ho] 23) kN
  replace ks := blk_keep (.cells #[.int .i64 lo, .int .i64 ho] 23) ks
  replace U := U.alloc (.cells #[.int .i64 lo, .int .i64 ho] 23)
  obtain ⟨pkt, hpkt⟩ : ∃ z, x4.heap.size = z := ⟨_, rfl⟩
  obtain ⟨W6, hW6⟩ : ∃ z, x4.alloc (.cells #[.int .i64 lo, .int .i64 ho] 23) = z := ⟨_, rfl⟩
  rw [hpkt] at kt dkBkt dkNkt dkskt gkt
  rw [hW6] at kt U kB kN ks
  go_wp2_with fail
  clear hpkt hW6
  refine (Cp.out _ U).mono ?_
  rintro e x7 ⟨rfl, u8⟩
  replace U := U.trans u8
  replace kB := u8.blk kB
  replace kN := u8.blk kN
  replace ks := u8.blk ks
  replace kt := u8.blk kt
  clear u8 
  have zf := frozB ks
  have i0 := ks
  have U1 := ((U.set (p := ⟨pks, 0, none⟩) (show w.heap.size ≤ pks by omega) (.int .i64 lp)).set (p := ⟨pks, 1, none⟩) (show w.heap.size ≤ pks by omega) (.int .i64 hp))
  have jkB := kB
  rw [← blk_set (x7) ⟨pks, 0, none⟩ (.int .i64 lp) (q0) (by show q0 ≠ pks; omega), ← blk_set ((x7).setCell ⟨pks, 0, none⟩ (.int .i64 lp)) ⟨pks, 1, none⟩ (.int .i64 hp) (q0) (by show q0 ≠ pks; omega)] at jkB
  have jkN := kN
  rw [← blk_set (x7) ⟨pks, 0, none⟩ (.int .i64 lp) (q0 + 1) (by show q0 + 1 ≠ pks; omega), ← blk_set ((x7).setCell ⟨pks, 0, none⟩ (.int .i64 lp)) ⟨pks, 1, none⟩ (.int .i64 hp) (q0 + 1) (by show q0 + 1 ≠ pks; omega)] at jkN
  have jkt := kt
  rw [← blk_set (x7) ⟨pks, 0, none⟩ (.int .i64 lp) (pkt) (by show pkt ≠ pks; omega), ← blk_set ((x7).setCell ⟨pks, 0, none⟩ (.int .i64 lp)) ⟨pks, 1, none⟩ (.int .i64 hp) (pkt) (by show pkt ≠ pks; omega)] at jkt
  have jks : mblk (((x7).setCell ⟨pks, 0, none⟩ (.int .i64 lp)).setCell ⟨pks, 1, none⟩ (.int .i64 hp)) pks = some (.cells #[.int .i64 lp, .int .i64 hp] 23 (0, 0)) := (blk_put (blk_put ks 0 (.int .i64 lp)) 1 (.int .i64 hp))
  obtain ⟨W9, hW9⟩ : ∃ z, ((x7).setCell ⟨pks, 0, none⟩ (.int .i64 lp)).setCell ⟨pks, 1, none⟩ (.int .i64 hp) = z := ⟨_, rfl⟩
  rw [hW9] at jkB jkN jkt jks U1 
  clear kB kN ks kt U
  have kB := jkB
  have kN := jkN
  have ks := jks
  have kt := jkt
  have U := U1
  clear jkB jkN jkt jks U1
  go_wp2_with fail
  clear hW9 zf i0
  refine (Rp.out _ U).mono ?_
  rintro e x10 ⟨rfl, u11⟩
  replace U := U.trans u11
  replace kB := u11.blk kB
  replace kN := u11.blk kN
  replace ks := u11.blk ks
  replace kt := u11.blk kt
  clear u11 
  have zf := frozB kt
  have i0 := kt
  have U1 := ((U.set (p := ⟨pkt, 0, none⟩) (show w.heap.size ≤ pkt by omega) (.int .i64 lp)).set (p := ⟨pkt, 1, none⟩) (show w.heap.size ≤ pkt by omega) (.int .i64 hp))
  have jkB := kB
  rw [← blk_set (x10) ⟨pkt, 0, none⟩ (.int .i64 lp) (q0) (by show q0 ≠ pkt; omega), ← blk_set ((x10).setCell ⟨pkt, 0, none⟩ (.int .i64 lp)) ⟨pkt, 1, none⟩ (.int .i64 hp) (q0) (by show q0 ≠ pkt; omega)] at jkB
  have jkN := kN
  rw [← blk_set (x10) ⟨pkt, 0, none⟩ (.int .i64 lp) (q0 + 1) (by show q0 + 1 ≠ pkt; omega), ← blk_set ((x10).setCell ⟨pkt, 0, none⟩ (.int .i64 lp)) ⟨pkt, 1, none⟩ (.int .i64 hp) (q0 + 1) (by show q0 + 1 ≠ pkt; omega)] at jkN
  have jks := ks
  rw [← blk_set (x10) ⟨pkt, 0, none⟩ (.int .i64 lp) (pks) (by show pks ≠ pkt; omega), ← blk_set ((x10).setCell ⟨pkt, 0, none⟩ (.int .i64 lp)) ⟨pkt, 1, none⟩ (.int .i64 hp) (pks) (by show pks ≠ pkt; omega)] at jks
  have jkt : mblk (((x10).setCell ⟨pkt, 0, none⟩ (.int .i64 lp)).setCell ⟨pkt, 1, none⟩ (.int .i64 hp)) pkt = some (.cells #[.int .i64 lp, .int .i64 hp] 23 (0, 0)) := (blk_put (blk_put kt 0 (.int .i64 lp)) 1 (.int .i64 hp))
  obtain ⟨W12, hW12⟩ : ∃ z, ((x10).setCell ⟨pkt, 0, none⟩ (.int .i64 lp)).setCell ⟨pkt, 1, none⟩ (.int .i64 hp) = z := ⟨_, rfl⟩
  rw [hW12] at jkB jkN jks jkt U1 
  clear kB kN ks kt U
  have kB := jkB
  have kN := jkN
  have ks := jks
  have kt := jkt
  have U := U1
  clear jkB jkN jks jkt U1
  go_wp2_with fail
  clear hW12 zf i0
  refine (Cq.out _ U).mono ?_
  rintro e x13 ⟨rfl, u14⟩
  replace U := U.trans u14
  replace kB := u14.blk kB
  replace kN := u14.blk kN
  replace ks := u14.blk ks
  replace kt := u14.blk kt
  clear u14 
  have zf := frozB ks
  have i0 := ks
  have U1 := ((U.set (p := ⟨pks, 0, none⟩) (show w.heap.size ≤ pks by omega) (.int .i64 lq)).set (p := ⟨pks, 1, none⟩) (show w.heap.size ≤ pks by omega) (.int .i64 hq))
  have jkB := kB
  rw [← blk_set (x13) ⟨pks, 0, none⟩ (.int .i64 lq) (q0) (by show q0 ≠ pks; omega), ← blk_set ((x13).setCell ⟨pks, 0, none⟩ (.int .i64 lq)) ⟨pks, 1, none⟩ (.int .i64 hq) (q0) (by show q0 ≠ pks; omega)] at jkB
  have jkN := kN
  rw [← blk_set (x13) ⟨pks, 0, none⟩ (.int .i64 lq) (q0 + 1) (by show q0 + 1 ≠ pks; omega), ← blk_set ((x13).setCell ⟨pks, 0, none⟩ (.int .i64 lq)) ⟨pks, 1, none⟩ (.int .i64 hq) (q0 + 1) (by show q0 + 1 ≠ pks; omega)] at jkN
  have jkt := kt
  rw [← blk_set (x13) ⟨pks, 0, none⟩ (.int .i64 lq) (pkt) (by show pkt ≠ pks; omega), ← blk_set ((x13).setCell ⟨pks, 0, none⟩ (.int .i64 lq)) ⟨pks, 1, none⟩ (.int .i64 hq) (pkt) (by show pkt ≠ pks; omega)] at jkt
  have jks : mblk (((x13).setCell ⟨pks, 0, none⟩ (.int .i64 lq)).setCell ⟨pks, 1, none⟩ (.int .i64 hq)) pks = some (.cells #[.int .i64 lq, .int .i64 hq] 23 (0, 0)) := (blk_put (blk_put ks 0 (.int .i64 lq)) 1 (.int .i64 hq))
  obtain ⟨W15, hW15⟩ : ∃ z, ((x13).setCell ⟨pks, 0, none⟩ (.int .i64 lq)).setCell ⟨pks, 1, none⟩ (.int .i64 hq) = z := ⟨_, rfl⟩
  rw [hW15] at jkB jkN jkt jks U1 
  clear kB kN ks kt U
  have kB := jkB
  have kN := jkN
  have ks := jks
  have kt := jkt
  have U := U1
  clear jkB jkN jkt jks U1
  go_wp2_with fail
  clear hW15 zf i0
  refine (Rq.out _ U).mono ?_
  rintro e x16 ⟨rfl, u17⟩
  replace U := U.trans u17
  replace kB := u17.blk kB
  replace kN := u17.blk kN
  replace ks := u17.blk ks
  replace kt := u17.blk kt
  clear u17 
  have zf := frozB kt
  have i0 := kt
  have U1 := ((U.set (p := ⟨pkt, 0, none⟩) (show w.heap.size ≤ pkt by omega) (.int .i64 lq)).set (p := ⟨pkt, 1, none⟩) (show w.heap.size ≤ pkt by omega) (.int .i64 hq))
  have jkB := kB
  rw [← blk_set (x16) ⟨pkt, 0, none⟩ (.int .i64 lq) (q0) (by show q0 ≠ pkt; omega), ← blk_set ((x16).setCell ⟨pkt, 0, none⟩ (.int .i64 lq)) ⟨pkt, 1, none⟩ (.int .i64 hq) (q0) (by show q0 ≠ pkt; omega)] at jkB
  have jkN := kN
  rw [← blk_set (x16) ⟨pkt, 0, none⟩ (.int .i64 lq) (q0 + 1) (by show q0 + 1 ≠ pkt; omega), ← blk_set ((x16).setCell ⟨pkt, 0, none⟩ (.int .i64 lq)) ⟨pkt, 1, none⟩ (.int .i64 hq) (q0 + 1) (by show q0 + 1 ≠ pkt; omega)] at jkN
  have jks := ks
  rw [← blk_set (x16) ⟨pkt, 0, none⟩ (.int .i64 lq) (pks) (by show pks ≠ pkt; omega), ← blk_set ((x16).setCell ⟨pkt, 0, none⟩ (.int .i64 lq)) ⟨pkt, 1, none⟩ (.int .i64 hq) (pks) (by show pks ≠ pkt; omega)] at jks
  have jkt : mblk (((x16).setCell ⟨pkt, 0, none⟩ (.int .i64 lq)).setCell ⟨pkt, 1, none⟩ (.int .i64 hq)) pkt = some (.cells #[.int .i64 lq, .int .i64 hq] 23 (0, 0)) := (blk_put (blk_put kt 0 (.int .i64 lq)) 1 (.int .i64 hq))
  obtain ⟨W18, hW18⟩ : ∃ z, ((x16).setCell ⟨pkt, 0, none⟩ (.int .i64 lq)).setCell ⟨pkt, 1, none⟩ (.int .i64 hq) = z := ⟨_, rfl⟩
  rw [hW18] at jkB jkN jks jkt U1 
  clear kB kN ks kt U
  have kB := jkB
  have kN := jkN
  have ks := jks
  have kt := jkt
  have U := U1
  clear jkB jkN jks jkt U1
  go_wp2_with fail
  clear hW18 zf i0
  refine (HW.out _).mono ?_
  rintro e x19 ⟨rfl, u20⟩
  replace U := U.trans u20
  replace kB := u20.blk kB
  replace kN := u20.blk kN
  replace ks := u20.blk ks
  replace kt := u20.blk kt
  clear u20 
  go_wp2
  go_ret
  exact ⟨rfl, U⟩
end

end Go.Proofs.Ytlpkheoljbdajaa
