import Derived.Test.YtfmnfingliflkaaRefC
import Derived.Test.YtfmnfingliflkaaTickF
/- The contracts of Floor, and of the reference's ahead, moved and proper. -/
namespace Go.Proofs.Ytfmnfingliflkaa
open Go.RowKit
attribute [local go_sem] cell_CAL cell_TWN

set_option maxRecDepth 100000 in
set_option maxHeartbeats 1000000 in
theorem r_ahead_any {ah : Int} {a' : Option Addr} {n' c' : Nat} {M : List (Int × Int)} {w : World} (B : TownArg w a' n' c' M) (hn : n' ≤ 6) (t : Int) :
    Calls Try.prog 73 #[.agg #[.int .i64 ah, .slice a' n' c'], .int .i64 t] w fun e w' => e = .returned (.int .i64 (D.ahAt ah M t n')) ∧ Up w w' := by
  have HB := Lib.hid B
  clear B
  go_enter Try.func73, Try.ntmps73
  go_wp2_with fail
  go_loopw [5, 6] (fun v i wr => ∃ k : Nat, k ≤ n' ∧ i = .int .i64 k ∧ v = .int .i64 (D.ahAt ah M t k) ∧ mblk wr w.heap.size = some (.cells #[.int .i64 ah, .slice a' n' c'] 44 (0, 0)) ∧ Up w wr) (fun _ i _ => n' - (intOf i).toNat)
  case atStart => exact ⟨0, Nat.zero_le _, rfl, rfl, blk_new _ _ _ rfl, (Up.refl _).alloc _⟩
  case round =>
    obtain ⟨k, hk, rfl, rfl, c1, U1⟩ := hrel
    by_cases hlt : k < n'
    · obtain ⟨b, off, rfl, hC⟩ := HB.out.mem (by omega)
      have dd := hC.up U1
      have e1 := dd.tick k (by rw [← HB.out.len]; exact hlt)
      have e2 := dd.ahead k (by rw [← HB.out.len]; exact hlt)
      have e3 := dd.lt
      have HX := Lib.hid (show D.ahAt ah M t (k + 1) = if (M.getD k (0, 0)).1 ≤ t then (M.getD k (0, 0)).2 else D.ahAt ah M t k from rfl)
      generalize M.getD k (0, 0) = z at *
      clear hC dd
      by_cases g : z.1 ≤ t
      · have HY : Hid (D.ahAt ah M t (k + 1) = z.2) := by unfold Hid; rw [HX.out, if_pos g]
        clear HX
        go_wp2
        go_roundw
        case rel => exact ⟨k + 1, by omega, by go_num, by rw [HY.out], c1, U1⟩
        case measure => simp [intOf]; omega
      · have HY : Hid (D.ahAt ah M t (k + 1) = D.ahAt ah M t k) := by unfold Hid; rw [HX.out, if_neg g]
        clear HX
        go_wp2
        go_roundw
        case rel => exact ⟨k + 1, by omega, by go_num, by rw [HY.out], c1, U1⟩
        case measure => simp [intOf]; omega
    · obtain rfl : k = n' := by omega
      go_wp2
      go_ret
      exact ⟨rfl, U1⟩


theorem l_Floor_any (n k : Int) (w : World) (hk : 1 ≤ k) (hk2 : k ≤ 100000) (n1 : -1000000000000 ≤ n) (n2 : n ≤ 1000000000000) : Calls Try.prog 93 #[.int .i64 n, .int .i64 k] w fun e w' => e = .returned (.int .i64 (n / k)) ∧ w = w' := by
  have r0 := Int.emod_nonneg n (show k ≠ 0 by omega)
  have r1 := Int.emod_lt_of_pos n (show 0 < k by omega)
  have f := Int.emod_add_mul_ediv n k
  have qq : 1000000000000 * 1 ≤ 1000000000000 * k := Int.mul_le_mul_of_nonneg_left hk (by omega)
  have q1 : n / k ≤ 1000000000000 := Int.ediv_le_of_le_mul (by omega) (by omega)
  have q2 : -1000000000000 ≤ n / k := Int.le_ediv_of_mul_le (by omega) (by omega)
  have e1 : IntKind.i64.wrap (n - n % k) = n - n % k := IntWalk.i64_in _ (by omega)
  have e2 : (n - n % k).tdiv k = n / k := by
    have : n - n % k = k * (n / k) := by omega
    rw [this, Int.mul_tdiv_cancel_left _ (by omega)]
  have e3 : IntKind.i64.wrap (n / k) = n / k := IntWalk.i64_in _ (by omega)
  have KR := Lib.hid (l_Rest_any n k)
  have k0 : ¬ k = 0 := by omega
  clear f q1 q2 qq
  go_enter Try.func93, Try.ntmps93
  go_wp2_with fail
  refine (KR.out _ hk (by omega)).mono ?_
  rintro e w1 ⟨rfl, rfl⟩
  go_wp2
  go_ret
  exact ⟨rfl, rfl⟩

theorem D.split {h m : Int} (t : Int) (h1 : 1 ≤ h) (m1 : 1 ≤ m) : t / m / h = t / (h * m) ∧ t / m % h = t % (h * m) / m ∧ t % m = t % (h * m) % m := by
  have P : 1 * 1 ≤ h * m := Int.mul_le_mul h1 m1 (by omega) (by omega)
  have g1 := Int.emod_nonneg t (b := h * m) (by omega)
  have g2 := Int.emod_lt_of_pos t (b := h * m) (by omega)
  have g3 := Int.emod_add_mul_ediv (t % (h * m)) m
  have g4 := Int.emod_add_mul_ediv t (h * m)
  have g5 := Int.emod_nonneg (t % (h * m)) (b := m) (by omega)
  have g6 := Int.emod_lt_of_pos (t % (h * m)) (b := m) (by omega)
  have g7 : 0 ≤ t % (h * m) / m := Int.ediv_nonneg g1 (by omega)
  have g8 : t % (h * m) / m < h := Int.ediv_lt_of_lt_mul (by omega) g2
  generalize t % (h * m) = q at *
  generalize t / (h * m) = A at *
  have x1 : m * (h * A + q / m) = h * m * A + m * (q / m) := by rw [Int.mul_add, ← Int.mul_assoc, Int.mul_comm m h]
  have u := (Int.ediv_emod_unique (a := t) (b := m) (r := q % m) (q := h * A + q / m) (by omega)).2 ⟨by rw [x1]; omega, g5, g6⟩
  have v := (Int.ediv_emod_unique (a := h * A + q / m) (b := h) (r := q / m) (q := A) (by omega)).2 ⟨by omega, g7, g8⟩
  rw [u.1, u.2, v.1, v.2]
  exact ⟨rfl, rfl, rfl⟩

set_option maxRecDepth 100000 in
set_option maxHeartbeats 2000000 in
theorem r_moved_any {h m s d : Int} {a : Option Addr} {n c : Nat} {w : World} (h1 : 1 ≤ h) (h2 : h ≤ 24) (m1 : 1 ≤ m) (m2 : m ≤ 60) (p0 p1 p2 p3 k : Int) (a1 : -1000000 ≤ p0) (a2 : p0 ≤ 1000000) (b1 : 0 ≤ p1) (b2 : p1 ≤ h - 1) (c1 : 0 ≤ p2) (c2 : p2 ≤ m - 1) (k1 : -1440 ≤ k) (k2 : k ≤ 1440) :
    Calls Try.prog 72 #[.agg #[.int .i64 h, .int .i64 m, .int .i64 s, .int .i64 d, .slice a n c], rd p0 p1 p2 p3, .int .i64 k] w fun e w' => e = .returned (rd ((p0 * (h * m) + (p1 * m + p2) + k) / (h * m)) ((p0 * (h * m) + (p1 * m + p2) + k) % (h * m) / m) ((p0 * (h * m) + (p1 * m + p2) + k) % (h * m) % m) p3) ∧ Up w w' := by
  have U0 := (((Up.refl w).alloc (.cells #[.int .i64 h, .int .i64 m, .int .i64 s, .int .i64 d, .slice a n c] 24)).alloc (.cells #[.int .i64 p0, .int .i64 p1, .int .i64 p2, .int .i64 p3] 27)).alloc (.cells #[.int .i64 0, .int .i64 0, .int .i64 0, .int .i64 0] 27)
  obtain ⟨f1, f2⟩ := D.mul_bd h m h1 h2 m1 m2
  have g1 : p1 * m ≤ (h - 1) * m := Int.mul_le_mul_of_nonneg_right b2 (by omega)
  rw [Int.sub_mul] at g1
  have g0 := Int.mul_nonneg b1 (show 0 ≤ m by omega)
  have j1 : p0 * (h * m) ≤ 1000000 * (h * m) := Int.mul_le_mul_of_nonneg_right a2 (by omega)
  have j2 : -1000000 * (h * m) ≤ p0 * (h * m) := Int.mul_le_mul_of_nonneg_right a1 (by omega)
  have i1 : p0 * h ≤ 1000000 * h := Int.mul_le_mul_of_nonneg_right a2 (by omega)
  have i2 : -1000000 * h ≤ p0 * h := Int.mul_le_mul_of_nonneg_right a1 (by omega)
  have ex : (p0 * h + p1) * m = p0 * (h * m) + p1 * m := by rw [Int.add_mul, Int.mul_assoc]
  have v1 : IntKind.i64.wrap (p0 * h) = p0 * h := IntWalk.i64_in _ (by omega)
  have v2 : IntKind.i64.wrap (p0 * h + p1) = p0 * h + p1 := IntWalk.i64_in _ (by omega)
  have v3 : IntKind.i64.wrap ((p0 * h + p1) * m) = p0 * (h * m) + p1 * m := by rw [ex]; exact IntWalk.i64_in _ (by omega)
  have v4 : IntKind.i64.wrap (p0 * (h * m) + p1 * m + p2) = p0 * (h * m) + (p1 * m + p2) := by rw [IntWalk.i64_in _ (by omega)]; omega
  obtain ⟨u, hu⟩ : ∃ u, p0 * (h * m) + (p1 * m + p2) = u := ⟨_, rfl⟩
  rw [hu] at v4 ⊢
  have ub : -2000000000 ≤ u + k ∧ u + k ≤ 2000000000 := by omega
  obtain ⟨t, htt⟩ : ∃ t, u + k = t := ⟨_, rfl⟩
  have v5 : IntKind.i64.wrap (u + k) = t := by rw [IntWalk.i64_in _ (by omega)]; exact htt
  rw [htt] at ub ⊢
  obtain ⟨s1, s2, s3⟩ := D.split t h1 m1
  have hb : -2000000000 ≤ t / m ∧ t / m ≤ 2000000000 := by
    have f := Int.emod_add_mul_ediv t m
    have r0 := Int.emod_nonneg t (show m ≠ 0 by omega)
    have r1 := Int.emod_lt_of_pos t (show 0 < m by omega)
    constructor
    · exact Int.le_ediv_of_mul_le (by omega) (by have : 2000000000 * 1 ≤ 2000000000 * m := Int.mul_le_mul_of_nonneg_left m1 (by omega); omega)
    · exact Int.ediv_le_of_le_mul (by omega) (by have : 2000000000 * 1 ≤ 2000000000 * m := Int.mul_le_mul_of_nonneg_left m1 (by omega); omega)
  have KF1 := Lib.hid (fun w => l_Floor_any t m w m1 (by omega) (by omega) (by omega))
  have KF2 := Lib.hid (fun w => l_Floor_any (t / m) h w h1 (by omega) (by omega) (by omega))
  have KR1 := Lib.hid (fun w => l_Rest_any (t / m) h w h1 (by omega))
  have KR2 := Lib.hid (fun w => l_Rest_any t m w m1 (by omega))
  rw [s1] at KF2
  rw [s2] at KR1
  rw [s3] at KR2
  generalize t / (h * m) = Q0 at *
  generalize t % (h * m) / m = Q1 at *
  generalize t % (h * m) % m = Q2 at *
  generalize t / m = t' at *
  clear g0 g1 j1 j2 i1 i2 ex s1 s2 s3 hu htt
  go_enter Try.func72, Try.ntmps72
  go_wp2_with fail
  obtain ⟨W0, hW0⟩ : ∃ W0, ((w.alloc (.cells #[.int .i64 h, .int .i64 m, .int .i64 s, .int .i64 d, .slice a n c] 24)).alloc (.cells #[.int .i64 p0, .int .i64 p1, .int .i64 p2, .int .i64 p3] 27)).alloc (.cells #[.int .i64 0, .int .i64 0, .int .i64 0, .int .i64 0] 27) = W0 := ⟨_, rfl⟩
  rw [hW0] at U0 ⊢
  have c0 : mblk W0 w.heap.size = some (.cells #[.int .i64 h, .int .i64 m, .int .i64 s, .int .i64 d, .slice a n c] 24 (0, 0)) := by rw [← hW0]; exact blk_keep _ (blk_keep _ (blk_new _ _ _ rfl))
  have r0 : mblk W0 (w.heap.size + 1) = some (.cells #[.int .i64 p0, .int .i64 p1, .int .i64 p2, .int .i64 p3] 27 (0, 0)) := by rw [← hW0]; exact blk_keep _ (blk_new _ _ _ (by simp))
  have z0 : mblk W0 (w.heap.size + 1 + 1) = some (.cells #[.int .i64 0, .int .i64 0, .int .i64 0, .int .i64 0] 27 (0, 0)) := by rw [← hW0]; exact blk_new _ _ _ (by simp)
  have fc0 := cellB c0
  have fr0 := cellB r0
  clear hW0
  refine (KF1.out _).mono ?_
  rintro e w1 ⟨rfl, rfl⟩
  go_wp2_with fail
  refine wp_region_held_drew (S := fun w' => Up w w' ∧ mblk w' w.heap.size = some (.cells #[.int .i64 h, .int .i64 m, .int .i64 s, .int .i64 d, .slice a n c] 24 (0, 0)) ∧ mblk w' (w.heap.size + 1) = some (.cells #[.int .i64 p0, .int .i64 p1, .int .i64 p2, .int .i64 p3] 27 (0, 0))) (by kernel_rfl) ⟨U0.drew, by rw [blk_drew]; exact c0, by rw [blk_drew]; exact r0⟩ (fun hHeld => ?_)
  have fz0 := cellB z0
  have yz0 := frozB z0
  refine takeH (i := 0) (d := (some 29)) (v := ?v1) rfl rfl (by kernel_rfl) (by kernel_rfl) (by kernel_rfl) (fun _ _ _ h => h) (by rfl) ?hy1 (by assumption) ?_
  case hy1 => ((intro w hSw; (try dsimp only at hSw); (try go_split_ands); go_simp); try with_reducible rfl)
  simp only [Act.put, List.setIfInBounds_toArray, List.set_cons_zero, List.set_cons_succ]
  refine takeH (i := 1) (d := (some 30)) (v := ?v2) rfl rfl (by kernel_rfl) (by kernel_rfl) (by kernel_rfl) (fun _ _ _ h => h) (by rfl) ?hy2 (by assumption) ?_
  case hy2 => ((intro w hSw; (try dsimp only at hSw); (try go_split_ands); go_simp); try with_reducible rfl)
  simp only [Act.put, List.setIfInBounds_toArray, List.set_cons_zero, List.set_cons_succ]
  refine takeH (i := 4) (d := (some 33)) (v := ?v3) rfl rfl (by kernel_rfl) (by kernel_rfl) (by kernel_rfl) (fun _ _ _ h => h) (by rfl) ?hy3 (by assumption) ?_
  case hy3 => ((intro w hSw; (try dsimp only at hSw); (try go_split_ands); go_simp); try with_reducible rfl)
  simp only [Act.put, List.setIfInBounds_toArray, List.set_cons_zero, List.set_cons_succ]
  refine takeH (i := 5) (d := (some 34)) (v := ?v4) rfl rfl (by kernel_rfl) (by kernel_rfl) (by kernel_rfl) (fun _ _ _ h => h) (by rfl) ?hy4 (by assumption) ?_
  case hy4 => ((intro w hSw; (try dsimp only at hSw); (try go_split_ands); go_simp); try with_reducible rfl)
  simp only [Act.put, List.setIfInBounds_toArray, List.set_cons_zero, List.set_cons_succ]
  refine takeH (i := 8) (d := (some 37)) (v := ?v5) rfl rfl (by kernel_rfl) (by kernel_rfl) (by kernel_rfl) (fun _ _ _ h => h) (by rfl) ?hy5 (by assumption) ?_
  case hy5 => ((intro w hSw; (try dsimp only at hSw); (try go_split_ands); go_simp); try with_reducible rfl)
  simp only [Act.put, List.setIfInBounds_toArray, List.set_cons_zero, List.set_cons_succ]
  refine takeH (i := 9) (d := (some 38)) (v := ?v6) rfl rfl (by kernel_rfl) (by kernel_rfl) (by kernel_rfl) (fun _ _ _ h => h) (by rfl) ?hy6 (by assumption) ?_
  case hy6 => ((intro w hSw; (try dsimp only at hSw); (try go_split_ands); go_simp); try with_reducible rfl)
  simp only [Act.put, List.setIfInBounds_toArray, List.set_cons_zero, List.set_cons_succ]
  refine takeH (i := 12) (d := (some 41)) (v := ?v7) rfl rfl (by kernel_rfl) (by kernel_rfl) (by kernel_rfl) (fun _ _ _ h => h) (by rfl) ?hy7 (by assumption) ?_
  case hy7 => ((intro w hSw; (try dsimp only at hSw); (try go_split_ands); go_simp); try with_reducible rfl)
  simp only [Act.put, List.setIfInBounds_toArray, List.set_cons_zero, List.set_cons_succ]
  refine takeH (i := 2) (d := (some 31)) (v := ?v8) rfl rfl (by kernel_rfl) (by kernel_rfl) (by kernel_rfl) (fun _ _ _ h => h) (by rfl) ?hy8 (by assumption) ?_
  case hy8 => ((intro w hSw; (try dsimp only at hSw); (try go_split_ands); go_simp); try with_reducible rfl)
  simp only [Act.put, List.setIfInBounds_toArray, List.set_cons_zero, List.set_cons_succ]
  refine takeH (i := 6) (d := (some 35)) (v := ?v9) rfl rfl (by kernel_rfl) (by kernel_rfl) (by kernel_rfl) (fun _ _ _ h => h) (by rfl) ?hy9 (by assumption) ?_
  case hy9 => ((intro w hSw; (try dsimp only at hSw); (try go_split_ands); go_simp); try with_reducible rfl)
  simp only [Act.put, List.setIfInBounds_toArray, List.set_cons_zero, List.set_cons_succ]
  refine takeH (i := 10) (d := (some 39)) (v := ?v10) rfl rfl (by kernel_rfl) (by kernel_rfl) (by kernel_rfl) (fun _ _ _ h => h) (by rfl) ?hy10 (by assumption) ?_
  case hy10 => ((intro w hSw; (try dsimp only at hSw); (try go_split_ands); go_simp); try with_reducible rfl)
  simp only [Act.put, List.setIfInBounds_toArray, List.set_cons_zero, List.set_cons_succ]
  refine takeH (i := 13) (d := (some 42)) (v := ?v11) rfl rfl (by kernel_rfl) (by kernel_rfl) (by kernel_rfl) (fun _ _ _ h => h) (by rfl) ?hy11 (by assumption) ?_
  case hy11 => ((intro w hSw; (try dsimp only at hSw); (try go_split_ands); go_simp); try with_reducible rfl)
  simp only [Act.put, List.setIfInBounds_toArray, List.set_cons_zero, List.set_cons_succ]
  refine wpAnyH_ready (rs := [3]) (by kernel_rfl) (by simp) ?_
  refine AllReadyH.cons rfl (fun K hK => ?_) AllReadyH.nil
  go_simp
  refine (KF2.out _).mono ?_
  rintro e w2 ⟨rfl, rfl⟩
  go_wp2_with fail
  refine hK.out _ _ hHeld (fun hHeld => ?_)
  clear hK K
  refine wpAnyH_ready (rs := [7]) (by kernel_rfl) (by simp) ?_
  refine AllReadyH.cons rfl (fun K hK => ?_) AllReadyH.nil
  go_simp
  refine (KR1.out _).mono ?_
  rintro e w2 ⟨rfl, rfl⟩
  go_wp2_with fail
  refine hK.out _ _ hHeld (fun hHeld => ?_)
  clear hK K
  refine wpAnyH_ready (rs := [11]) (by kernel_rfl) (by simp) ?_
  refine AllReadyH.cons rfl (fun K hK => ?_) AllReadyH.nil
  go_simp
  refine (KR2.out _).mono ?_
  rintro e w2 ⟨rfl, rfl⟩
  go_wp2_with fail
  refine hK.out _ _ hHeld (fun hHeld => ?_)
  clear hK K
  refine takeH (i := 14) (d := (some 43)) (v := ?v15) rfl rfl (by kernel_rfl) (by kernel_rfl) (by kernel_rfl) (fun _ _ _ h => h) (by rfl) ?hy15 (by assumption) ?_
  case hy15 => ((intro w hSw; (try dsimp only at hSw); (try go_split_ands); go_simp); try with_reducible rfl)
  simp only [Act.put, List.setIfInBounds_toArray, List.set_cons_zero, List.set_cons_succ]
  refine wpAnyH_ready (rs := [15]) (by kernel_rfl) (by simp) ?_
  refine AllReadyH.cons rfl (fun K hK => ?_) AllReadyH.nil
  go_simp
  refine hK.out _ _ ⟨(U0.set4 (b := w.heap.size + 1 + 1) (by omega) (.int .i64 Q0) (.int .i64 Q1) (.int .i64 Q2) (.int .i64 p3)).drew, by rw [blk_drew, set4_other _ (b := w.heap.size + 1 + 1) (n := w.heap.size) (by omega)]; exact c0, by rw [blk_drew, set4_other _ (b := w.heap.size + 1 + 1) (n := w.heap.size + 1) (by omega)]; exact r0⟩ (fun hHeld => ?_)
  clear hK K
  refine wpAnyH_done (by kernel_rfl) ?_ _
  have z4 := set4_same z0 (.int .i64 Q0) (.int .i64 Q1) (.int .i64 Q2) (.int .i64 p3)
  have f4 := cellB z4
  clear fz0 yz0
  go_wp2
  refine bodyPost_ret (v := rd Q0 Q1 Q2 p3) (by simp [results, Try.results72, go_sem, f4]) rfl ⟨rfl, hHeld.1⟩

/-- has a reading the parts of one, but for its day and its second? -/
def D.prop (h m a b c : Int) : Bool := inB b 0 (h - 1) && (inB c 0 (m - 1) && inB a (-2000) 2000)
set_option maxRecDepth 100000 in
set_option maxHeartbeats 1000000 in
theorem r_proper_any {h m s d : Int} {a : Option Addr} {n c : Nat} {w : World} (h1 : 1 ≤ h) (h2 : h ≤ 24) (m1 : 1 ≤ m) (m2 : m ≤ 60) (p0 p1 p2 p3 : Int) :
    Calls Try.prog 97 #[.agg #[.int .i64 h, .int .i64 m, .int .i64 s, .int .i64 d, .slice a n c], rd p0 p1 p2 p3] w fun e w' => e = .returned (.bool (D.prop h m p0 p1 p2)) ∧ Up w w' := by
  have U0 := ((Up.refl w).alloc (.cells #[.int .i64 h, .int .i64 m, .int .i64 s, .int .i64 d, .slice a n c] 24)).alloc (.cells #[.int .i64 p0, .int .i64 p1, .int .i64 p2, .int .i64 p3] 27)
  have v2 : IntKind.i64.wrap (h - 1) = h - 1 := IntWalk.i64_in _ (by omega)
  have v3 : IntKind.i64.wrap (m - 1) = m - 1 := IntWalk.i64_in _ (by omega)
  have K1 := Lib.hid (l_Lies_any p1 0 (h - 1))
  have K2 := Lib.hid (l_Lies_any p2 0 (m - 1))
  have K3 := Lib.hid (l_Lies_any p0 (-2000) 2000)
  cases b1 : inB p1 0 (h - 1)
  · have e : D.prop h m p0 p1 p2 = false := by simp [D.prop, b1]
    rw [e]
    rw [b1] at K1
    clear e b1
    go_enter Try.func97, Try.ntmps97
    go_wp2_with fail
    refine (K1.out _).mono ?_
    rintro e w1 ⟨rfl, rfl⟩
    go_wp2
    go_ret
    exact ⟨rfl, U0⟩
  · rw [b1] at K1
    cases b2 : inB p2 0 (m - 1)
    · have e : D.prop h m p0 p1 p2 = false := by simp [D.prop, b2]
      rw [e]
      rw [b2] at K2
      clear e b1 b2
      go_enter Try.func97, Try.ntmps97
      go_wp2_with fail
      refine (K1.out _).mono ?_
      rintro e w1 ⟨rfl, rfl⟩
      go_wp2_with fail
      refine (K2.out _).mono ?_
      rintro e w1 ⟨rfl, rfl⟩
      go_wp2
      go_ret
      exact ⟨rfl, U0⟩
    · have e : D.prop h m p0 p1 p2 = inB p0 (-2000) 2000 := by simp [D.prop, b1, b2]
      rw [e]
      rw [b2] at K2
      clear e b1 b2
      go_enter Try.func97, Try.ntmps97
      go_wp2_with fail
      refine (K1.out _).mono ?_
      rintro e w1 ⟨rfl, rfl⟩
      go_wp2_with fail
      refine (K2.out _).mono ?_
      rintro e w1 ⟨rfl, rfl⟩
      go_wp2_with fail
      refine (K3.out _).mono ?_
      rintro e w1 ⟨rfl, rfl⟩
      go_wp2
      go_ret
      exact ⟨rfl, U0⟩

end Go.Proofs.Ytfmnfingliflkaa
