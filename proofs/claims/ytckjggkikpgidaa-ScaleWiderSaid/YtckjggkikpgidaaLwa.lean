import Derived.Test.YtckjggkikpgidaaBex
import Derived.Test.YtckjggkikpgidaaSho
/- The contracts of the laws' rule and book. -/
namespace Go.Proofs.Ytckjggkikpgidaa
open Go.RowKit

set_option maxRecDepth 100000 in
theorem B_To_any (l h : Int) (w : World) : Calls Try.prog 49 #[.int .i64 l, .int .i64 h] w fun e w' => e = .returned (SpV l h) ∧ Up w w' := by
  have U := (Up.refl w).alloc (.cells #[.int .i64 l, .int .i64 h] 23)
  have f := cellB (blk_new w (.cells #[.int .i64 l, .int .i64 h] 23) _ rfl)
  go_enter Try.func49, Try.ntmps49
  go_wp2
  exact bodyPost_ret (v := SpV l h) (by simp [results, Try.results49, go_sem, f]) rfl ⟨rfl, U⟩
set_option maxRecDepth 100000 in
theorem l_rule_any (w : World) : Calls Try.prog 53 #[] w fun e w' => e = .returned (RV 10 5 4 (-1) 2) ∧ Up w w' := by
  have HT := Lib.hid (fun w => B_To_any (-1) 2 w)
  have U0 := (Up.refl w).alloc (.cells #[.int .i64 0, .int .i64 0, .int .i64 0, .int .i64 0, .int .i64 0] 25)
  have k0 := blk_new w (.cells #[.int .i64 0, .int .i64 0, .int .i64 0, .int .i64 0, .int .i64 0] 25) _ rfl
  go_enter Try.func53, Try.ntmps53
  go_wp2_with fail
  refine (HT.out _).mono ?_
  rintro e w1 ⟨rfl, u1⟩
  have k1 := u1.blk k0
  have V := U0.trans u1
  have z1 := frozB k1
  have UE := ((((V.set (p := ⟨w.heap.size, 0, none⟩) (Nat.le_refl _) (.int .i64 10)).set (p := ⟨w.heap.size, 1, none⟩) (Nat.le_refl _) (.int .i64 5)).set (p := ⟨w.heap.size, 2, none⟩) (Nat.le_refl _) (.int .i64 4)).set (p := ⟨w.heap.size, 3, none⟩) (Nat.le_refl _) (.int .i64 (-1))).set (p := ⟨w.heap.size, 4, none⟩) (Nat.le_refl _) (.int .i64 2)
  have C := Lib.hid (cellB (blk_put (blk_put (blk_put (blk_put (blk_put k1 0 (.int .i64 10)) 1 (.int .i64 5)) 2 (.int .i64 4)) 3 (.int .i64 (-1))) 4 (.int .i64 2)))
  clear u1 U0 V k0
  go_wp2_with fail
  have cc := C.out
  exact bodyPost_ret (v := RV 10 5 4 (-1) 2) (by simp [results, Try.results53, go_sem, cc]) rfl ⟨rfl, UE⟩
abbrev exSt : List Int := [-4, -5, -4]
abbrev exLk : List (Int × Int × Int) := [(0, 18, 22), (6, -3, 4)]
set_option maxRecDepth 100000 in
set_option maxHeartbeats 1000000 in
theorem l_book_nil (w : World) : Calls Try.prog 52 #[.slice none 0 0] w fun e w' => ∃ g g', e = .returned (BV 10 5 4 (-1) 2 10 (.slice (some ⟨g, 0, none⟩) 3 3) (.slice (some ⟨g', 0, none⟩) 2 2)) ∧ Up w w' ∧ Ints w' (.slice (some ⟨g, 0, none⟩) 3 3) exSt ∧ Lks w' (.slice (some ⟨g', 0, none⟩) 2 2) exLk := by
  have HT1 := Lib.hid (fun w => B_To_any 18 22 w)
  have HT2 := Lib.hid (fun w => B_To_any (-3) 4 w)
  have HR := Lib.hid (fun w => l_rule_any w)
  have U0 := (Up.refl w).alloc (.cells BCZ 44)
  have k0 := blk_new w (.cells BCZ 44) _ rfl
  go_enter Try.func52, Try.ntmps52
  go_wp2_with fail
  refine (HR.out _).mono ?_
  rintro e w1 ⟨rfl, u1⟩
  have k1 := u1.blk k0
  have V1 := U0.trans u1
  have k1lt := blk_lt k1
  clear u1 k0 U0 HR
  go_wp2_with fail
  have g0 := blk_new w1 (.cells #[.int .i64 (-4), .int .i64 (-5), .int .i64 (-4)] 3) _ rfl
  have k2 := blk_keep (.cells #[.int .i64 (-4), .int .i64 (-5), .int .i64 (-4)] 3) k1
  have V2 := V1.alloc (.cells #[.int .i64 (-4), .int .i64 (-5), .int .i64 (-4)] 3)
  refine (HT1.out _).mono ?_
  rintro e w3 ⟨rfl, u3⟩
  replace g0 := u3.blk g0
  replace k2 := u3.blk k2
  replace V2 := V2.trans u3
  clear u3 k1 V1 HT1
  go_wp2_with fail
  refine (HT2.out _).mono ?_
  rintro e w4 ⟨rfl, u4⟩
  replace g0 := u4.blk g0
  replace k2 := u4.blk k2
  replace V2 := V2.trans u4
  clear u4 HT2
  have lt := blk_lt k2
  have zz := frozB k2
  have z4 := frozB (blk_keep (.cells (BC 10 5 4 (-1) 2 10 (.slice (some ⟨w1.heap.size, 0, none⟩) 3 3) (.slice (some ⟨w4.heap.size, 0, none⟩) 2 2)) 44) (blk_keep (.cells #[.int .i64 0, .int .i64 18, .int .i64 22, .int .i64 6, .int .i64 (-3), .int .i64 4] 71) k2))
  have hne : w1.heap.size ≠ w.heap.size := by have := blk_lt g0; have := k1lt; omega
  have hsz : ((((((((w4.setCell ⟨w.heap.size, 0, none⟩ (.int .i64 10)).setCell ⟨w.heap.size, 1, none⟩ (.int .i64 5)).setCell ⟨w.heap.size, 2, none⟩ (.int .i64 4)).setCell ⟨w.heap.size, 3, none⟩ (.int .i64 (-1))).setCell ⟨w.heap.size, 4, none⟩ (.int .i64 2)).setCell ⟨w.heap.size, 5, none⟩ (.int .i64 10)).setCell ⟨w.heap.size, 6, none⟩ (.slice (some ⟨w1.heap.size, 0, none⟩) 3 3)).setCell ⟨w.heap.size, 7, none⟩ (.slice (some ⟨w4.heap.size, 0, none⟩) 2 2)).heap.size = w4.heap.size := by simp [World.setCell]
  have UE := (((((((((V2.set (p := ⟨w.heap.size, 0, none⟩) (Nat.le_refl _) (.int .i64 10)).set (p := ⟨w.heap.size, 1, none⟩) (Nat.le_refl _) (.int .i64 5)).set (p := ⟨w.heap.size, 2, none⟩) (Nat.le_refl _) (.int .i64 4)).set (p := ⟨w.heap.size, 3, none⟩) (Nat.le_refl _) (.int .i64 (-1))).set (p := ⟨w.heap.size, 4, none⟩) (Nat.le_refl _) (.int .i64 2)).set (p := ⟨w.heap.size, 5, none⟩) (Nat.le_refl _) (.int .i64 10)).set (p := ⟨w.heap.size, 6, none⟩) (Nat.le_refl _) (.slice (some ⟨w1.heap.size, 0, none⟩) 3 3)).set (p := ⟨w.heap.size, 7, none⟩) (Nat.le_refl _) (.slice (some ⟨w4.heap.size, 0, none⟩) 2 2)).alloc (.cells #[.int .i64 0, .int .i64 18, .int .i64 22, .int .i64 6, .int .i64 (-3), .int .i64 4] 71)).alloc (.cells (BC 10 5 4 (-1) 2 10 (.slice (some ⟨w1.heap.size, 0, none⟩) 3 3) (.slice (some ⟨w4.heap.size, 0, none⟩) 2 2)) 44)
  have C := Lib.hid (cellB (blk_keep (.cells (BC 10 5 4 (-1) 2 10 (.slice (some ⟨w1.heap.size, 0, none⟩) 3 3) (.slice (some ⟨w4.heap.size, 0, none⟩) 2 2)) 44) (blk_keep (.cells #[.int .i64 0, .int .i64 18, .int .i64 22, .int .i64 6, .int .i64 (-3), .int .i64 4] 71) (blk_put (blk_put (blk_put (blk_put (blk_put (blk_put (blk_put (blk_put k2 0 (.int .i64 10)) 1 (.int .i64 5)) 2 (.int .i64 4)) 3 (.int .i64 (-1))) 4 (.int .i64 2)) 5 (.int .i64 10)) 6 (.slice (some ⟨w1.heap.size, 0, none⟩) 3 3)) 7 (.slice (some ⟨w4.heap.size, 0, none⟩) 2 2)))))
  have GS := Lib.hid (show mblk ((((((((((w4.setCell ⟨w.heap.size, 0, none⟩ (.int .i64 10)).setCell ⟨w.heap.size, 1, none⟩ (.int .i64 5)).setCell ⟨w.heap.size, 2, none⟩ (.int .i64 4)).setCell ⟨w.heap.size, 3, none⟩ (.int .i64 (-1))).setCell ⟨w.heap.size, 4, none⟩ (.int .i64 2)).setCell ⟨w.heap.size, 5, none⟩ (.int .i64 10)).setCell ⟨w.heap.size, 6, none⟩ (.slice (some ⟨w1.heap.size, 0, none⟩) 3 3)).setCell ⟨w.heap.size, 7, none⟩ (.slice (some ⟨w4.heap.size, 0, none⟩) 2 2)).alloc (.cells #[.int .i64 0, .int .i64 18, .int .i64 22, .int .i64 6, .int .i64 (-3), .int .i64 4] 71)).alloc (.cells (BC 10 5 4 (-1) 2 10 (.slice (some ⟨w1.heap.size, 0, none⟩) 3 3) (.slice (some ⟨w4.heap.size, 0, none⟩) 2 2)) 44)) w1.heap.size = some (.cells #[.int .i64 (-4), .int .i64 (-5), .int .i64 (-4)] 3 (0, 0)) from blk_keep _ (blk_keep _ (by rw [blk_set _ _ _ _ hne, blk_set _ _ _ _ hne, blk_set _ _ _ _ hne, blk_set _ _ _ _ hne, blk_set _ _ _ _ hne, blk_set _ _ _ _ hne, blk_set _ _ _ _ hne, blk_set _ _ _ _ hne]; exact g0)))
  have GL := Lib.hid (show mblk ((((((((((w4.setCell ⟨w.heap.size, 0, none⟩ (.int .i64 10)).setCell ⟨w.heap.size, 1, none⟩ (.int .i64 5)).setCell ⟨w.heap.size, 2, none⟩ (.int .i64 4)).setCell ⟨w.heap.size, 3, none⟩ (.int .i64 (-1))).setCell ⟨w.heap.size, 4, none⟩ (.int .i64 2)).setCell ⟨w.heap.size, 5, none⟩ (.int .i64 10)).setCell ⟨w.heap.size, 6, none⟩ (.slice (some ⟨w1.heap.size, 0, none⟩) 3 3)).setCell ⟨w.heap.size, 7, none⟩ (.slice (some ⟨w4.heap.size, 0, none⟩) 2 2)).alloc (.cells #[.int .i64 0, .int .i64 18, .int .i64 22, .int .i64 6, .int .i64 (-3), .int .i64 4] 71)).alloc (.cells (BC 10 5 4 (-1) 2 10 (.slice (some ⟨w1.heap.size, 0, none⟩) 3 3) (.slice (some ⟨w4.heap.size, 0, none⟩) 2 2)) 44)) w4.heap.size = some (.cells #[.int .i64 0, .int .i64 18, .int .i64 22, .int .i64 6, .int .i64 (-3), .int .i64 4] 71 (0, 0)) from blk_keep _ (blk_new _ _ _ hsz.symm))
  clear V2 hsz hne g0
  go_wp2_with fail
  have cc := C.out
  refine bodyPost_ret (v := BV 10 5 4 (-1) 2 10 (.slice (some ⟨w1.heap.size, 0, none⟩) 3 3) (.slice (some ⟨w4.heap.size, 0, none⟩) 2 2)) (by simp [results, Try.results52, go_sem, cc]) rfl ⟨_, _, rfl, UE, ?_, ?_⟩
  · refine Ints.new (cap := 3) (xs := exSt) GS.out (by decide) (by decide) fun j hj => ?_
    have : j = 0 ∨ j = 1 ∨ j = 2 := by have : j < 3 := hj; omega
    rcases this with rfl | rfl | rfl <;> rfl
  · refine ⟨⟨_, _, rfl, Nat.le_refl _, by simp, fun _ => ⟨_, 0, rfl, blk_lt GL.out, fun j hj => ?_⟩⟩⟩
    have : j = 0 ∨ j = 1 := by simp at hj; omega
    rw [cellB GL.out, cellB GL.out, cellB GL.out]
    rcases this with rfl | rfl <;> exact ⟨rfl, rfl, rfl⟩

end Go.Proofs.Ytckjggkikpgidaa
