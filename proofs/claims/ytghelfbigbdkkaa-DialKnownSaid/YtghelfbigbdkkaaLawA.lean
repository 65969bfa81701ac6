import Derived.Test.YtghelfbigbdkkaaTownG
/- The contracts of the laws' small builders: a reading, a week, a town. -/
namespace Go.Proofs.Ytghelfbigbdkkaa
open Go.RowKit

set_option maxRecDepth 100000 in
set_option maxHeartbeats 1000000 in
theorem l_at_any (a b c q : Int) (w : World) :
    Calls Try.prog 9 #[.int .i64 a, .int .i64 b, .int .i64 c, .int .i64 q] w fun e w' => e = .returned (rd a b c q) ∧ Up w w' := by
  have U := (Up.refl w).alloc (.cells #[.int .i64 a, .int .i64 b, .int .i64 c, .int .i64 q] 34)
  have f := cellB (blk_new w (.cells #[.int .i64 a, .int .i64 b, .int .i64 c, .int .i64 q] 34) _ rfl)
  go_enter Try.func9, Try.ntmps9
  go_wp2
  refine bodyPost_ret (v := rd a b c q) (by simp [results, Try.results9, go_sem, f]) rfl ⟨rfl, U⟩

set_option maxRecDepth 100000 in
set_option maxHeartbeats 1000000 in
theorem l_week_any (k : Int) (p : Bool) (w : World) :
    Calls Try.prog 4 #[.int .i64 k, .bool p] w fun e w' => ∃ b, e = .returned (.agg #[.int .i64 3, .int .i64 4, .int .i64 10, .int .i64 2, .slice (some ⟨b, 0, none⟩) 1 1]) ∧ Up w w' ∧ CalArg w' (some ⟨b, 0, none⟩) 1 1 [(k, p)] := by
  have U := ((Up.refl w).alloc (.cells #[.int .i64 3, .int .i64 4, .int .i64 10, .int .i64 2, .slice (some ⟨w.heap.size + 1, 0, none⟩) 1 1] 24)).alloc (.cells #[.int .i64 k, .bool p] 28)
  have f := cellB (blk_keep (.cells #[.int .i64 k, .bool p] 28) (blk_new w (.cells #[.int .i64 3, .int .i64 4, .int .i64 10, .int .i64 2, .slice (some ⟨w.heap.size + 1, 0, none⟩) 1 1] 24) _ rfl))
  have g := blk_new (w.alloc (.cells #[.int .i64 3, .int .i64 4, .int .i64 10, .int .i64 2, .slice (some ⟨w.heap.size + 1, 0, none⟩) 1 1] 24)) (.cells #[.int .i64 k, .bool p] 28) (w.heap.size + 1) (by simp)
  go_enter Try.func4, Try.ntmps4
  go_wp2
  refine bodyPost_ret (v := .agg #[.int .i64 3, .int .i64 4, .int .i64 10, .int .i64 2, .slice (some ⟨w.heap.size + 1, 0, none⟩) 1 1]) (by simp [results, Try.results4, go_sem, f]) rfl ⟨_, rfl, U, rfl, by omega, fun _ => ⟨_, 0, rfl, blk_lt g, fun j hj => ?_, fun j hj => ?_⟩⟩
  · obtain rfl : j = 0 := by simp at hj; omega
    rw [cellB g]; rfl
  · obtain rfl : j = 0 := by simp at hj; omega
    rw [cellB g]; rfl

set_option maxRecDepth 100000 in
set_option maxHeartbeats 1000000 in
theorem l_town_any (w : World) :
    Calls Try.prog 17 #[] w fun e w' => ∃ b, e = .returned (.agg #[.int .i64 5, .slice (some ⟨b, 0, none⟩) 1 1]) ∧ Up w w' ∧ TownArg w' (some ⟨b, 0, none⟩) 1 1 [(60, 3)] := by
  have U := ((Up.refl w).alloc (.cells #[.int .i64 5, .slice (some ⟨w.heap.size + 1, 0, none⟩) 1 1] 44)).alloc (.cells #[.int .i64 60, .int .i64 3] 52)
  have f := cellB (blk_keep (.cells #[.int .i64 60, .int .i64 3] 52) (blk_new w (.cells #[.int .i64 5, .slice (some ⟨w.heap.size + 1, 0, none⟩) 1 1] 44) _ rfl))
  have g := blk_new (w.alloc (.cells #[.int .i64 5, .slice (some ⟨w.heap.size + 1, 0, none⟩) 1 1] 44)) (.cells #[.int .i64 60, .int .i64 3] 52) (w.heap.size + 1) (by simp)
  go_enter Try.func17, Try.ntmps17
  go_wp2
  refine bodyPost_ret (v := .agg #[.int .i64 5, .slice (some ⟨w.heap.size + 1, 0, none⟩) 1 1]) (by simp [results, Try.results17, go_sem, f]) rfl ⟨_, rfl, U, rfl, by omega, fun _ => ⟨_, 0, rfl, blk_lt g, fun j hj => ?_, fun j hj => ?_⟩⟩
  · obtain rfl : j = 0 := by simp at hj; omega
    rw [cellB g]; rfl
  · obtain rfl : j = 0 := by simp at hj; omega
    rw [cellB g]; rfl

end Go.Proofs.Ytghelfbigbdkkaa
