import Derived.Test.YtnaibklajocejaaLawG
/- The contracts of To and From. -/
namespace Go.Proofs.Ytnaibklajocejaa
open Go.RowKit

theorem cell_SPAN {w : World} {b : Nat} {cs : Array Value} (h : mblk w b = some (.cells cs 72 (0, 0))) (j : Nat) : w.cell? ⟨b, j, none⟩ = cs[j]? := cellB h j
attribute [local go_sem] cell_SPAN

set_option maxRecDepth 100000 in
set_option maxHeartbeats 1000000 in
theorem l_To_any (a b : Int) (w : World) :
    Calls Try.prog 46 #[.int .i64 a, .int .i64 b] w fun e w' => e = .returned (.agg #[.int .i64 a, .int .i64 b]) ∧ Up w w' := by
  have U := (Up.refl w).alloc (.cells #[.int .i64 a, .int .i64 b] 72)
  have f := cellB (blk_new w (.cells #[.int .i64 a, .int .i64 b] 72) _ rfl)
  go_enter Try.func46, Try.ntmps46
  go_wp2
  refine bodyPost_ret (v := .agg #[.int .i64 a, .int .i64 b]) (by simp [results, Try.results46, go_sem, f]) rfl ⟨rfl, U⟩

set_option maxRecDepth 100000 in
set_option maxHeartbeats 2000000 in
theorem l_From_any (a b n : Int) (w : World) (a0 : 0 ≤ a) (ab : a ≤ b) (b1 : b ≤ 1000000) :
    Calls Try.prog 45 #[.agg #[.int .i64 a, .int .i64 b], .int .i64 n] w fun e w' => e = .returned (.int .i64 (a + n % (b - a + 1))) ∧ Up w w' := by
  have U := (Up.refl w).alloc (.cells #[.int .i64 a, .int .i64 b] 72)
  by_cases e : b ≤ a
  · obtain rfl : a = b := by omega
    have e1 : a + n % (a - a + 1) = a := by
      have : a - a + 1 = 1 := by omega
      rw [this, Int.emod_one]; omega
    rw [e1]
    go_enter Try.func45, Try.ntmps45
    go_wp2
    go_ret
    exact ⟨rfl, U⟩
  · have e1 : IntKind.i64.wrap (b - a) = b - a := IntWalk.i64_in _ (by omega)
    have e2 : IntKind.i64.wrap (b - a + 1) = b - a + 1 := IntWalk.i64_in _ (by omega)
    have r0 := Int.emod_nonneg n (show b - a + 1 ≠ 0 by omega)
    have r1 := Int.emod_lt_of_pos n (show 0 < b - a + 1 by omega)
    have e3 : IntKind.i64.wrap (a + n % (b - a + 1)) = a + n % (b - a + 1) := IntWalk.i64_in _ (by omega)
    have lt1 : ¬ (b - a + 1 < 1) := by omega
    go_enter Try.func45, Try.ntmps45
    go_wp2_with fail
    refine wp_region_held_drew (S := fun w' => Up w w' ∧ mblk w' w.heap.size = some (.cells #[.int .i64 a, .int .i64 b] 72 (0, 0))) (by kernel_rfl) ⟨U.drew, by rw [blk_drew]; exact blk_new _ _ _ rfl⟩ (fun hHeld => ?_)
    refine takeH (i := 0) (d := (some 28)) (v := ?v1) rfl rfl (by kernel_rfl) (by kernel_rfl) (by kernel_rfl) (fun _ _ _ h => h) (by rfl) ?hy1 (by assumption) ?_
    case hy1 => ((intro w hSw; (try dsimp only at hSw); (try go_split_ands); go_simp); try with_reducible rfl)
    simp only [Act.put, List.setIfInBounds_toArray, List.set_cons_zero, List.set_cons_succ]
    refine takeH (i := 2) (d := (some 30)) (v := ?v2) rfl rfl (by kernel_rfl) (by kernel_rfl) (by kernel_rfl) (fun _ _ _ h => h) (by rfl) ?hy2 (by assumption) ?_
    case hy2 => ((intro w hSw; (try dsimp only at hSw); (try go_split_ands); go_simp); try with_reducible rfl)
    simp only [Act.put, List.setIfInBounds_toArray, List.set_cons_zero, List.set_cons_succ]
    refine takeH (i := 3) (d := (some 31)) (v := ?v3) rfl rfl (by kernel_rfl) (by kernel_rfl) (by kernel_rfl) (fun _ _ _ h => h) (by rfl) ?hy3 (by assumption) ?_
    case hy3 => ((intro w hSw; (try dsimp only at hSw); (try go_split_ands); go_simp); try with_reducible rfl)
    simp only [Act.put, List.setIfInBounds_toArray, List.set_cons_zero, List.set_cons_succ]
    refine takeH (i := 1) (d := (some 29)) (v := ?v4) rfl rfl (by kernel_rfl) (by kernel_rfl) (by kernel_rfl) (fun _ _ _ h => h) (by rfl) ?hy4 (by assumption) ?_
    case hy4 => ((intro w hSw; (try dsimp only at hSw); (try go_split_ands); go_simp); try with_reducible rfl)
    simp only [Act.put, List.setIfInBounds_toArray, List.set_cons_zero, List.set_cons_succ]
    refine wpAnyH_ready (rs := [4]) (by kernel_rfl) (by simp) ?_
    refine AllReadyH.cons rfl (fun K hK => ?_) AllReadyH.nil
    go_simp
    refine (l_Rest_any _ _ _ (by omega) (by omega)).mono ?_
    rintro e w2 ⟨rfl, rfl⟩
    go_wp2_with fail
    refine hK.out _ _ hHeld (fun hHeld => ?_)
    clear hK K
    refine takeH (i := 5) (d := (some 33)) (v := ?v6) rfl rfl (by kernel_rfl) (by kernel_rfl) (by kernel_rfl) (fun _ _ _ h => h) (by rfl) ?hy6 (by assumption) ?_
    case hy6 => ((intro w hSw; (try dsimp only at hSw); (try go_split_ands); go_simp); try with_reducible rfl)
    simp only [Act.put, List.setIfInBounds_toArray, List.set_cons_zero, List.set_cons_succ]
    refine takeH (i := 6) (d := (some 4)) (v := ?v7) rfl rfl (by kernel_rfl) (by kernel_rfl) (by kernel_rfl) (fun _ _ _ h => h) (by rfl) ?hy7 (by assumption) ?_
    case hy7 => ((intro w hSw; (try dsimp only at hSw); (try go_split_ands); go_simp); try with_reducible rfl)
    simp only [Act.put, List.setIfInBounds_toArray, List.set_cons_zero, List.set_cons_succ]
    refine wpAnyH_done (by kernel_rfl) ?_ _
    go_wp2
    go_ret
    exact ⟨rfl, hHeld.1⟩

end Go.Proofs.Ytnaibklajocejaa
