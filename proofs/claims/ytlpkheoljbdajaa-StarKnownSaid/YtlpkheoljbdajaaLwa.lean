import Derived.Test.YtlpkheoljbdajaaFwL
/- The laws' helpers look and truth. -/
namespace Go.Proofs.Ytlpkheoljbdajaa
open Go.RowKit

theorem ints_new1 {w : World} {b : Nat} {x : Int} (h : mblk w b = some (.cells #[.int .i64 x] 3 (0, 0))) : Ints w (.slice (some ⟨b, 0, none⟩) 1 1) [x] := ints1 h
theorem ints3 {w : World} {b : Nat} {x y z : Int} (h : mblk w b = some (.cells #[.int .i64 x, .int .i64 y, .int .i64 z] 3 (0, 0))) : Ints w (.slice (some ⟨b, 0, none⟩) 3 3) [x, y, z] := Ints.new (cap := 3) (xs := [x, y, z]) h (by simp) (by simp) (fun j hj => by
  match j, hj with
  | 0, _ => rfl
  | 1, _ => rfl
  | 2, _ => rfl)
set_option maxRecDepth 100000 in
theorem l_look_any (a b c d e : Int) (w : World) : Calls Try.prog 53 #[.int .i64 a, .int .i64 b, .int .i64 c, .int .i64 d, .int .i64 e] w fun x w' => x = .returned (LkV a b c d e) ∧ Up w w' := by
  have U := (Up.refl w).alloc (.cells (LkC a b c d e) 63)
  go_enter Try.func53, Try.ntmps53
  go_wp2
  exact bodyPost_ret (v := LkV a b c d e) (by simp [results, Try.results53, go_sem]) rfl ⟨rfl, U⟩
set_option maxRecDepth 100000 in
theorem l_truth_any (w : World) : Calls Try.prog 54 #[] w fun e w' => (∃ aO aE aA, e = .returned (.agg #[.slice aO 3 3, .slice aE 2 2, .slice aA 1 1]) ∧ Ints w' (.slice aO 3 3) [50, 60, 75] ∧ Ints w' (.slice aE 2 2) [-5, 10] ∧ Ints w' (.slice aA 1 1) [40]) ∧ Up w w' := by
  go_enter Try.func54, Try.ntmps54
  go_wp2_with fail
  obtain ⟨q, hq⟩ : ∃ x, w.heap.size = x := ⟨_, rfl⟩
  obtain ⟨Z, hZ⟩ : ∃ z, (((w.alloc (.cells #[.slice (some ⟨w.heap.size + 1, 0, none⟩) 3 3, .slice (some ⟨w.heap.size + 1 + 1, 0, none⟩) 2 2, .slice (some ⟨w.heap.size + 1 + 1 + 1, 0, none⟩) 1 1] 30)).alloc (.cells #[.int .i64 50, .int .i64 60, .int .i64 75] 3)).alloc (.cells #[.int .i64 (-5), .int .i64 10] 3)).alloc (.cells #[.int .i64 40] 3) = z := ⟨_, rfl⟩
  have U : Up w Z := by rw [← hZ]; exact ((((Up.refl w).alloc _).alloc _).alloc _).alloc _
  have k0 : mblk Z q = some (.cells #[.slice (some ⟨w.heap.size + 1, 0, none⟩) 3 3, .slice (some ⟨w.heap.size + 1 + 1, 0, none⟩) 2 2, .slice (some ⟨w.heap.size + 1 + 1 + 1, 0, none⟩) 1 1] 30 (0, 0)) := by rw [← hZ]; exact blk_keep _ (blk_keep _ (blk_keep _ (blk_new _ _ _ hq.symm)))
  have k1 : mblk Z (q + 1) = some (.cells #[.int .i64 50, .int .i64 60, .int .i64 75] 3 (0, 0)) := by rw [← hZ]; exact blk_keep _ (blk_keep _ (blk_new _ _ _ (by simp [hq])))
  have k2 : mblk Z (q + 1 + 1) = some (.cells #[.int .i64 (-5), .int .i64 10] 3 (0, 0)) := by rw [← hZ]; exact blk_keep _ (blk_new _ _ _ (by simp [hq]))
  have k3 : mblk Z (q + 1 + 1 + 1) = some (.cells #[.int .i64 40] 3 (0, 0)) := by rw [← hZ]; exact blk_new _ _ _ (by simp [hq])
  rw [hZ]
  rw [hq] at k0 ⊢
  have c0 := cellB k0
  exact bodyPost_ret (v := .agg #[.slice (some ⟨q + 1, 0, none⟩) 3 3, .slice (some ⟨q + 1 + 1, 0, none⟩) 2 2, .slice (some ⟨q + 1 + 1 + 1, 0, none⟩) 1 1]) (by simp [results, Try.results54, go_sem, c0]) rfl ⟨⟨_, _, _, rfl, ints3 k1, ints2 k2, ints1 k3⟩, U⟩

end Go.Proofs.Ytlpkheoljbdajaa
