import Derived.Test.YtckjggkikpgidaaOfs
/- The contracts of change, within the list and behind it, and of farthest. -/
namespace Go.Proofs.Ytckjggkikpgidaa
open Go.RowKit

theorem cell_book {w : World} {b : Nat} {cs : Array Value} (h : mblk w b = some (.cells cs 104 (0, 0))) (j : Nat) : w.cell? ⟨b, j, none⟩ = cs[j]? := cellB h j
theorem cell_end {w : World} {b : Nat} {cs : Array Value} (h : mblk w b = some (.cells cs 139 (0, 0))) (j : Nat) : w.cell? ⟨b, j, none⟩ = cs[j]? := cellB h j
attribute [go_sem] cell_book cell_end
section
variable {f s j dl dh ticks : Int} {a a' : Option Addr} {n c n' c' : Nat}
set_option maxRecDepth 100000 in
set_option maxHeartbeats 2000000 in
theorem change_in {xs : List Int} (t : Nat) (ht : t < xs.length) {w : World} (I : Ints w (.slice a n c) xs) (hx : -500 ≤ xs.getD t 0 ∧ xs.getD t 0 ≤ 500) (d1 : -100 ≤ dl ∧ dl ≤ 100) (d2 : -100 ≤ dh ∧ dh ≤ 100) : Calls Try.prog 118 #[BV f s j dl dh ticks (.slice a n c) (.slice a' n' c'), .int .i64 t] w fun e w' => e = .returned (SpV (xs.getD t 0 + dl) (xs.getD t 0 + dh)) ∧ Up w w' := by
  obtain ⟨a0, c0, e0, _, hl, hm⟩ := I.is
  injection e0 with e1 e2 e3
  subst e1 e2 e3
  obtain ⟨g, off, rfl, gl, hc⟩ := hm (by omega)
  have cx := hc t ht
  generalize xs.getD t 0 = x at *
  have HA := Lib.hid (fun w => added_any x x dl dh w (by omega) (by omega) (by omega) (by omega))
  generalize x + dl = y1 at *
  generalize x + dh = y2 at *
  clear hc hm I hx d1 d2
  go_enter Try.func118, Try.ntmps118
  go_wp2_with fail
  obtain ⟨W0, hW0⟩ : ∃ W0, (w.alloc (.cells (BC f s j dl dh ticks (.slice (some ⟨g, off, none⟩) xs.length c) (.slice a' n' c')) 104)).alloc (.cells #[.int .i64 0, .int .i64 0] 23) = W0 := ⟨_, rfl⟩
  have U0 : Up w W0 := by rw [← hW0]; exact ((Up.refl w).alloc _).alloc _
  have kb : mblk W0 w.heap.size = some (.cells (BC f s j dl dh ticks (.slice (some ⟨g, off, none⟩) xs.length c) (.slice a' n' c')) 104 (0, 0)) := by rw [← hW0]; exact blk_keep _ (blk_new _ _ _ rfl)
  have kc : mblk W0 (w.heap.size + 1) = some (.cells #[.int .i64 0, .int .i64 0] 23 (0, 0)) := by rw [← hW0]; exact blk_new _ _ _ (by simp)
  have cx0 := (U0.facts.1 g _ gl).trans cx
  try rw [hW0]
  clear hW0
  refine wp_region_held_drew (S := fun w' => Up w w' ∧ mblk w' w.heap.size = some (.cells (BC f s j dl dh ticks (.slice (some ⟨g, off, none⟩) xs.length c) (.slice a' n' c')) 104 (0, 0)) ∧ w'.cell? ⟨g, off + t, none⟩ = some (.int .i64 x) ∧ ∃ q : Value × Value, mblk w' (w.heap.size + 1) = some (.cells #[q.1, q.2] 23 (0, 0))) (by kernel_rfl) ⟨U0.drew, by rw [blk_drew]; exact kb, cx0, (.int .i64 0, .int .i64 0), by rw [blk_drew]; exact kc⟩ (fun hHeld => ?_)
  refine takeH (i := 0) (d := (some 15)) (v := ?v1) rfl rfl (by kernel_rfl) (by kernel_rfl) (by kernel_rfl) (fun _ _ _ h => h) (by rfl) ?hy1 (by assumption) ?_
  case hy1 => ((intro w hSw; (try dsimp only at hSw); (try go_split_ands); go_simp); try with_reducible rfl)
  simp only [Act.put, List.setIfInBounds_toArray, List.set_cons_zero, List.set_cons_succ]
  refine takeH (i := 1) (d := (some 16)) (v := ?v2) rfl rfl (by kernel_rfl) (by kernel_rfl) (by kernel_rfl) (fun _ _ _ h => h) (by rfl) ?hy2 (by assumption) ?_
  case hy2 => ((intro w hSw; (try dsimp only at hSw); (try go_split_ands); go_simp); try with_reducible rfl)
  simp only [Act.put, List.setIfInBounds_toArray, List.set_cons_zero, List.set_cons_succ]
  refine takeH (i := 2) (d := (some 17)) (v := ?v3) rfl rfl (by kernel_rfl) (by kernel_rfl) (by kernel_rfl) (fun _ _ _ h => h) (by rfl) ?hy3 (by assumption) ?_
  case hy3 => ((intro w hSw; (try dsimp only at hSw); (try go_split_ands); go_simp); try with_reducible rfl)
  simp only [Act.put, List.setIfInBounds_toArray, List.set_cons_zero, List.set_cons_succ]
  refine takeH (i := 3) (d := (some 18)) (v := ?v4) rfl rfl (by kernel_rfl) (by kernel_rfl) (by kernel_rfl) (fun _ _ _ h => h) (by rfl) ?hy4 (by assumption) ?_
  case hy4 => ((intro w hSw; (try dsimp only at hSw); (try go_split_ands); go_simp); try with_reducible rfl)
  simp only [Act.put, List.setIfInBounds_toArray, List.set_cons_zero, List.set_cons_succ]
  refine takeH (i := 4) (d := (some 19)) (v := ?v5) rfl rfl (by kernel_rfl) (by kernel_rfl) (by kernel_rfl) (fun _ _ _ h => h) (by rfl) ?hy5 (by assumption) ?_
  case hy5 => ((intro w hSw; (try dsimp only at hSw); (try go_split_ands); go_simp); try with_reducible rfl)
  simp only [Act.put, List.setIfInBounds_toArray, List.set_cons_zero, List.set_cons_succ]
  refine takeH (i := 5) (d := (some 20)) (v := ?v6) rfl rfl (by kernel_rfl) (by kernel_rfl) (by kernel_rfl) (fun _ _ _ h => h) (by rfl) ?hy6 (by assumption) ?_
  case hy6 => ((intro w hSw; (try dsimp only at hSw); (try go_split_ands); go_simp); try with_reducible rfl)
  simp only [Act.put, List.setIfInBounds_toArray, List.set_cons_zero, List.set_cons_succ]
  refine takeH (i := 6) (d := (some 21)) (v := ?v7) rfl rfl (by kernel_rfl) (by kernel_rfl) (by kernel_rfl) (fun _ _ _ h => h) (by rfl) ?hy7 (by assumption) ?_
  case hy7 => ((intro w hSw; (try dsimp only at hSw); (try go_split_ands); go_simp); try with_reducible rfl)
  simp only [Act.put, List.setIfInBounds_toArray, List.set_cons_zero, List.set_cons_succ]
  refine takeH (i := 7) (d := (some 22)) (v := ?v8) rfl rfl (by kernel_rfl) (by kernel_rfl) (by kernel_rfl) (fun _ _ _ h => h) (by rfl) ?hy8 (by assumption) ?_
  case hy8 => ((intro w hSw; (try dsimp only at hSw); (try go_split_ands); go_simp); try with_reducible rfl)
  simp only [Act.put, List.setIfInBounds_toArray, List.set_cons_zero, List.set_cons_succ]
  refine takeH (i := 8) (d := (some 23)) (v := ?v9) rfl rfl (by kernel_rfl) (by kernel_rfl) (by kernel_rfl) (fun _ _ _ h => h) (by rfl) ?hy9 (by assumption) ?_
  case hy9 => ((intro w hSw; (try dsimp only at hSw); (try go_split_ands); go_simp); try with_reducible rfl)
  simp only [Act.put, List.setIfInBounds_toArray, List.set_cons_zero, List.set_cons_succ]
  refine takeH (i := 9) (d := (some 24)) (v := ?v10) rfl rfl (by kernel_rfl) (by kernel_rfl) (by kernel_rfl) (fun _ _ _ h => h) (by rfl) ?hy10 (by assumption) ?_
  case hy10 => ((intro w hSw; (try dsimp only at hSw); (try go_split_ands); go_simp); try with_reducible rfl)
  simp only [Act.put, List.setIfInBounds_toArray, List.set_cons_zero, List.set_cons_succ]
  refine takeH (i := 10) (d := (some 25)) (v := ?v11) rfl rfl (by kernel_rfl) (by kernel_rfl) (by kernel_rfl) (fun _ _ _ h => h) (by rfl) ?hy11 (by assumption) ?_
  case hy11 => ((intro w hSw; (try dsimp only at hSw); (try go_split_ands); go_simp); try with_reducible rfl)
  simp only [Act.put, List.setIfInBounds_toArray, List.set_cons_zero, List.set_cons_succ]
  refine takeH (i := 11) (d := (some 26)) (v := ?v12) rfl rfl (by kernel_rfl) (by kernel_rfl) (by kernel_rfl) (fun _ _ _ h => h) (by rfl) ?hy12 (by assumption) ?_
  case hy12 => ((intro w hSw; (try dsimp only at hSw); (try go_split_ands); go_simp); try with_reducible rfl)
  simp only [Act.put, List.setIfInBounds_toArray, List.set_cons_zero, List.set_cons_succ]
  refine takeH (i := 12) (d := (some 27)) (v := ?v13) rfl rfl (by kernel_rfl) (by kernel_rfl) (by kernel_rfl) (fun _ _ _ h => h) (by rfl) ?hy13 (by assumption) ?_
  case hy13 => ((intro w hSw; (try dsimp only at hSw); (try go_split_ands); go_simp); try with_reducible rfl)
  simp only [Act.put, List.setIfInBounds_toArray, List.set_cons_zero, List.set_cons_succ]
  refine takeH (i := 13) (d := (some 28)) (v := ?v14) rfl rfl (by kernel_rfl) (by kernel_rfl) (by kernel_rfl) (fun _ _ _ h => h) (by rfl) ?hy14 (by assumption) ?_
  case hy14 => ((intro w hSw; (try dsimp only at hSw); (try go_split_ands); go_simp); try with_reducible rfl)
  simp only [Act.put, List.setIfInBounds_toArray, List.set_cons_zero, List.set_cons_succ]
  refine takeH (i := 14) (d := (some 29)) (v := ?v15) rfl rfl (by kernel_rfl) (by kernel_rfl) (by kernel_rfl) (fun _ _ _ h => h) (by rfl) ?hy15 (by assumption) ?_
  case hy15 => ((intro w hSw; (try dsimp only at hSw); (try go_split_ands); go_simp); try with_reducible rfl)
  simp only [Act.put, List.setIfInBounds_toArray, List.set_cons_zero, List.set_cons_succ]
  refine takeH (i := 15) (d := (some 30)) (v := ?v16) rfl rfl (by kernel_rfl) (by kernel_rfl) (by kernel_rfl) (fun _ _ _ h => h) (by rfl) ?hy16 (by assumption) ?_
  case hy16 => ((intro w hSw; (try dsimp only at hSw); (try go_split_ands); go_simp); try with_reducible rfl)
  simp only [Act.put, List.setIfInBounds_toArray, List.set_cons_zero, List.set_cons_succ]
  refine takeH (i := 16) (d := (some 31)) (v := ?v17) rfl rfl (by kernel_rfl) (by kernel_rfl) (by kernel_rfl) (fun _ _ _ h => h) (by rfl) ?hy17 (by assumption) ?_
  case hy17 => ((intro w hSw; (try dsimp only at hSw); (try go_split_ands); go_simp); try with_reducible rfl)
  simp only [Act.put, List.setIfInBounds_toArray, List.set_cons_zero, List.set_cons_succ]
  refine wpAnyH_ready (rs := [17]) (by kernel_rfl) (by simp) ?_
  refine AllReadyH.cons rfl (fun K hK => ?_) AllReadyH.nil
  go_simp
  refine (HA.out _).mono ?_
  rintro e w1 ⟨rfl, u1⟩
  go_wp2_with fail
  refine hK.out _ _ ⟨hHeld.1.trans u1, u1.blk hHeld.2.1, (u1.facts.1 g _ (World.block_lt_of_cell? _ _ hHeld.2.2.1)).trans hHeld.2.2.1, hHeld.2.2.2.elim fun q k => ⟨q, u1.blk k⟩⟩ (fun hHeld => ?_)
  clear hK K u1
  obtain ⟨qc, kq⟩ := hHeld.2.2.2
  have fc := cellB kq
  have gc := frozB kq
  refine wpAnyH_ready (rs := [18]) (by kernel_rfl) (by simp) ?_
  refine AllReadyH.cons rfl (fun K hK => ?_) AllReadyH.nil
  go_simp
  obtain ⟨s5, hY⟩ : ∃ Y, (w1.setCell ⟨w.heap.size + 1, 0, none⟩ (.int .i64 y1)).setCell ⟨w.heap.size + 1, 1, none⟩ (.int .i64 y2) = Y := ⟨_, rfl⟩
  have kd : mblk s5 (w.heap.size + 1) = some (.cells #[.int .i64 y1, .int .i64 y2] 23 (0, 0)) := by rw [← hY]; exact blk_put (blk_put kq 0 _) 1 _
  have V : Up w s5 := by rw [← hY]; exact Up.set (Up.set hHeld.1 (by show w.heap.size ≤ w.heap.size + 1; omega) _) (by show w.heap.size ≤ w.heap.size + 1; omega) _
  have ka' : mblk s5 w.heap.size = some (.cells (BC f s j dl dh ticks (.slice (some ⟨g, off, none⟩) xs.length c) (.slice a' n' c')) 104 (0, 0)) := by rw [← hY, blk_set _ _ _ _ (by show w.heap.size ≠ w.heap.size + 1; omega), blk_set _ _ _ _ (by show w.heap.size ≠ w.heap.size + 1; omega)]; exact hHeld.2.1
  have cx' : s5.cell? ⟨g, off + t, none⟩ = some (.int .i64 x) := (V.facts.1 g _ gl).trans cx
  rw [hY]
  refine hK.out _ _ ⟨V, ka', cx', (_, _), kd⟩ (fun hHeld => ?_)
  clear hK K hY hHeld kq fc gc
  refine wpAnyH_done (by kernel_rfl) ?_ _
  have c7 := cellB kd
  go_wp2_with fail
  exact bodyPost_ret (v := SpV y1 y2) (by simp [results, Try.results118, go_sem, c7]) rfl ⟨rfl, V⟩

/-- how far a span reaches from 0 -/
def S.far (l h : Int) : Int := max (max 0 (-l)) h
set_option maxRecDepth 100000 in
set_option maxHeartbeats 2000000 in
theorem farthest_any (l h : Int) (w : World) (l1 : -1000000 ≤ l) (l2 : l ≤ 1000000) (h1 : -1000000 ≤ h) (h2 : h ≤ 1000000) : Calls Try.prog 78 #[SpV l h] w fun e w' => e = .returned (.int .i64 (S.far l h)) ∧ Up w w' := by
  obtain ⟨s0, hs0, hx0⟩ : ∃ sg : Int, sg = -1 ∧ (∀ w, (Instr.index 140 EV (.int .i64 0)).run Try.prog w = .ok (.agg #[.func (.func 110) #[] #[], .int .i64 sg]) w) := ⟨-1, rfl, fun w => by kernel_rfl⟩
  obtain ⟨s1, hs1, hx1⟩ : ∃ sg : Int, sg = 1 ∧ (∀ w, (Instr.index 140 EV (.int .i64 1)).run Try.prog w = .ok (.agg #[.func (.func 111) #[] #[], .int .i64 sg]) w) := ⟨1, rfl, fun w => by kernel_rfl⟩
  have U0 := (Up.refl w).alloc (.cells #[.int .i64 l, .int .i64 h] 23)
  have k0 := blk_new w (.cells #[.int .i64 l, .int .i64 h] 23) w.heap.size rfl
  have HE := Lib.hid (fun w => ends_any w)
  have H1 := Lib.hid (fun w => ends1_any l h w)
  have H2 := Lib.hid (fun w => ends2_any l h w)
  have e1 : IntKind.i64.wrap (s0 * l) = -l := by rw [hs0, IntWalk.i64_in _ (by omega)]; omega
  have e2 : IntKind.i64.wrap (s1 * h) = h := by rw [hs1, IntWalk.i64_in _ (by omega)]; omega
  have hM0 : ∀ (ts : Array TypeId) (t' : TypeId) (w : World), (Builtin.max_ ts t' #[.int .i64 0, .int .i64 (-l)]).run Try.prog w = .ok (.int .i64 (max 0 (-l))) w := fun ts t' w => by
    have e : (if -l > 0 then -l else 0) = max 0 (-l) := by split <;> omega
    rw [run_max_int2, e]
  have hM1 : ∀ (ts : Array TypeId) (t' : TypeId) (w : World), (Builtin.max_ ts t' #[.int .i64 (max 0 (-l)), .int .i64 h]).run Try.prog w = .ok (.int .i64 (S.far l h)) w := fun ts t' w => by
    have e : (if h > max 0 (-l) then h else max 0 (-l)) = S.far l h := by unfold S.far; split <;> omega
    rw [run_max_int2, e]
  generalize S.far l h = m1 at *
  generalize max 0 (-l) = m0 at *
  clear hs0 hs1
  go_enter Try.func78, Try.ntmps78
  go_wp2_with fail
  refine (HE.out _).mono ?_
  rintro e w1 ⟨rfl, u1⟩
  have U1 := U0.trans u1
  have k1 := u1.blk k0
  clear U0 u1 k0 HE
  go_wp2_with fail
  go_loopw [3, 7] (fun fr i wr => ((i = .int .i64 0 ∧ fr = .int .i64 0) ∨ (i = .int .i64 1 ∧ fr = .int .i64 m0) ∨ (i = .int .i64 2 ∧ fr = .int .i64 m1)) ∧ mblk wr w.heap.size = some (.cells #[.int .i64 l, .int .i64 h] 23 (0, 0)) ∧ Up w wr) (fun _ i _ => 2 - (intOf i).toNat)
  case atStart => exact ⟨.inl ⟨rfl, rfl⟩, k1, U1⟩
  case round =>
    obtain ⟨hi, k2, V⟩ := hrel
    rcases hi with ⟨rfl, rfl⟩ | ⟨rfl, rfl⟩ | ⟨rfl, rfl⟩
    · go_wp2_with fail
      obtain ⟨W1, hW1⟩ : ∃ W1, wr.alloc (.cells #[.func (.func 110) #[] #[], .int .i64 s0] 139) = W1 := ⟨_, rfl⟩
      obtain ⟨b5, hb5⟩ : ∃ b, wr.heap.size = b := ⟨_, rfl⟩
      have k5 : mblk W1 b5 = some (.cells #[.func (.func 110) #[] #[], .int .i64 s0] 139 (0, 0)) := by rw [← hW1]; exact blk_new _ _ _ hb5.symm
      have V1 : Up w W1 := by rw [← hW1]; exact V.alloc _
      have k3 : mblk W1 w.heap.size = some (.cells #[.int .i64 l, .int .i64 h] 23 (0, 0)) := by rw [← hW1]; exact blk_keep _ k2
      rw [hb5, hW1]
      clear hb5 hW1 V k2
      refine wp_region_held_drew (S := fun w' => Up w w' ∧ mblk w' b5 = some (.cells #[.func (.func 110) #[] #[], .int .i64 s0] 139 (0, 0)) ∧ mblk w' w.heap.size = some (.cells #[.int .i64 l, .int .i64 h] 23 (0, 0))) (by kernel_rfl) ⟨V1.drew, by rw [blk_drew]; exact k5, by rw [blk_drew]; exact k3⟩ (fun hHeld => ?_)
      clear V1 k5 k3
      refine takeH (i := 0) (d := (some 10)) (v := ?v20) rfl rfl (by kernel_rfl) (by kernel_rfl) (by kernel_rfl) (fun _ _ _ h => h) (by rfl) ?hy20 (by assumption) ?_
      case hy20 => ((intro w hSw; (try dsimp only at hSw); (try go_split_ands); go_simp); try with_reducible rfl)
      simp only [Act.put, List.setIfInBounds_toArray, List.set_cons_zero, List.set_cons_succ]
      refine takeH (i := 1) (d := (some 11)) (v := ?v21) rfl rfl (by kernel_rfl) (by kernel_rfl) (by kernel_rfl) (fun _ _ _ h => h) (by rfl) ?hy21 (by assumption) ?_
      case hy21 => ((intro w hSw; (try dsimp only at hSw); (try go_split_ands); go_simp); try with_reducible rfl)
      simp only [Act.put, List.setIfInBounds_toArray, List.set_cons_zero, List.set_cons_succ]
      refine takeH (i := 2) (d := (some 12)) (v := ?v22) rfl rfl (by kernel_rfl) (by kernel_rfl) (by kernel_rfl) (fun _ _ _ h => h) (by rfl) ?hy22 (by assumption) ?_
      case hy22 => ((intro w hSw; (try dsimp only at hSw); (try go_split_ands); go_simp); try with_reducible rfl)
      simp only [Act.put, List.setIfInBounds_toArray, List.set_cons_zero, List.set_cons_succ]
      refine takeH (i := 3) (d := (some 13)) (v := ?v23) rfl rfl (by kernel_rfl) (by kernel_rfl) (by kernel_rfl) (fun _ _ _ h => h) (by rfl) ?hy23 (by assumption) ?_
      case hy23 => ((intro w hSw; (try dsimp only at hSw); (try go_split_ands); go_simp); try with_reducible rfl)
      simp only [Act.put, List.setIfInBounds_toArray, List.set_cons_zero, List.set_cons_succ]
      refine takeH (i := 4) (d := (some 14)) (v := ?v24) rfl rfl (by kernel_rfl) (by kernel_rfl) (by kernel_rfl) (fun _ _ _ h => h) (by rfl) ?hy24 (by assumption) ?_
      case hy24 => ((intro w hSw; (try dsimp only at hSw); (try go_split_ands); go_simp); try with_reducible rfl)
      simp only [Act.put, List.setIfInBounds_toArray, List.set_cons_zero, List.set_cons_succ]
      refine takeH (i := 5) (d := (some 15)) (v := ?v25) rfl rfl (by kernel_rfl) (by kernel_rfl) (by kernel_rfl) (fun _ _ _ h => h) (by rfl) ?hy25 (by assumption) ?_
      case hy25 => ((intro w hSw; (try dsimp only at hSw); (try go_split_ands); go_simp); try with_reducible rfl)
      simp only [Act.put, List.setIfInBounds_toArray, List.set_cons_zero, List.set_cons_succ]
      refine wpAnyH_ready (rs := [6]) (by kernel_rfl) (by simp) ?_
      refine AllReadyH.cons rfl (fun K hK => ?_) AllReadyH.nil
      go_simp
      refine (H1.out _).mono ?_
      rintro e w3 ⟨rfl, u3⟩
      go_wp2_with fail
      refine hK.out _ _ ⟨hHeld.1.trans u3, u3.blk hHeld.2.1, u3.blk hHeld.2.2⟩ (fun hHeld => ?_)
      clear hK K u3
      refine takeH (i := 7) (d := (some 17)) (v := ?v27) rfl rfl (by kernel_rfl) (by kernel_rfl) (by kernel_rfl) (fun _ _ _ h => h) (by rfl) ?hy27 (by assumption) ?_
      case hy27 => ((intro w hSw; (try dsimp only at hSw); (try go_split_ands); go_simp); try with_reducible rfl)
      simp only [Act.put, List.setIfInBounds_toArray, List.set_cons_zero, List.set_cons_succ]
      refine takeH (i := 8) (d := (some 18)) (v := .int .i64 m0) rfl rfl (by kernel_rfl) (by kernel_rfl) (by kernel_rfl) (fun _ _ _ h => h) (by rfl) ?hymax (by assumption) ?_
      case hymax => ((intro w hSw; (try dsimp only at hSw); go_simp); try with_reducible rfl)
      simp only [Act.put, List.setIfInBounds_toArray, List.set_cons_zero, List.set_cons_succ]
      refine takeH (i := 9) (d := (some 3)) (v := ?v28) rfl rfl (by kernel_rfl) (by kernel_rfl) (by kernel_rfl) (fun _ _ _ h => h) (by rfl) ?hy28 (by assumption) ?_
      case hy28 => ((intro w hSw; (try dsimp only at hSw); (try go_split_ands); go_simp); try with_reducible rfl)
      simp only [Act.put, List.setIfInBounds_toArray, List.set_cons_zero, List.set_cons_succ]
      refine wpAnyH_done (by kernel_rfl) ?_ _
      have V1 := hHeld.1
      have k3 := hHeld.2.2
      clear hHeld
      go_wp2
      go_roundw
      case rel => exact ⟨.inr (.inl ⟨by go_num, rfl⟩), k3, V1⟩
      case measure => simp [intOf]
    · go_wp2_with fail
      obtain ⟨W1, hW1⟩ : ∃ W1, wr.alloc (.cells #[.func (.func 111) #[] #[], .int .i64 s1] 139) = W1 := ⟨_, rfl⟩
      obtain ⟨b5, hb5⟩ : ∃ b, wr.heap.size = b := ⟨_, rfl⟩
      have k5 : mblk W1 b5 = some (.cells #[.func (.func 111) #[] #[], .int .i64 s1] 139 (0, 0)) := by rw [← hW1]; exact blk_new _ _ _ hb5.symm
      have V1 : Up w W1 := by rw [← hW1]; exact V.alloc _
      have k3 : mblk W1 w.heap.size = some (.cells #[.int .i64 l, .int .i64 h] 23 (0, 0)) := by rw [← hW1]; exact blk_keep _ k2
      rw [hb5, hW1]
      clear hb5 hW1 V k2
      refine wp_region_held_drew (S := fun w' => Up w w' ∧ mblk w' b5 = some (.cells #[.func (.func 111) #[] #[], .int .i64 s1] 139 (0, 0)) ∧ mblk w' w.heap.size = some (.cells #[.int .i64 l, .int .i64 h] 23 (0, 0))) (by kernel_rfl) ⟨V1.drew, by rw [blk_drew]; exact k5, by rw [blk_drew]; exact k3⟩ (fun hHeld => ?_)
      clear V1 k5 k3
      refine takeH (i := 0) (d := (some 10)) (v := ?v29) rfl rfl (by kernel_rfl) (by kernel_rfl) (by kernel_rfl) (fun _ _ _ h => h) (by rfl) ?hy29 (by assumption) ?_
      case hy29 => ((intro w hSw; (try dsimp only at hSw); (try go_split_ands); go_simp); try with_reducible rfl)
      simp only [Act.put, List.setIfInBounds_toArray, List.set_cons_zero, List.set_cons_succ]
      refine takeH (i := 1) (d := (some 11)) (v := ?v30) rfl rfl (by kernel_rfl) (by kernel_rfl) (by kernel_rfl) (fun _ _ _ h => h) (by rfl) ?hy30 (by assumption) ?_
      case hy30 => ((intro w hSw; (try dsimp only at hSw); (try go_split_ands); go_simp); try with_reducible rfl)
      simp only [Act.put, List.setIfInBounds_toArray, List.set_cons_zero, List.set_cons_succ]
      refine takeH (i := 2) (d := (some 12)) (v := ?v31) rfl rfl (by kernel_rfl) (by kernel_rfl) (by kernel_rfl) (fun _ _ _ h => h) (by rfl) ?hy31 (by assumption) ?_
      case hy31 => ((intro w hSw; (try dsimp only at hSw); (try go_split_ands); go_simp); try with_reducible rfl)
      simp only [Act.put, List.setIfInBounds_toArray, List.set_cons_zero, List.set_cons_succ]
      refine takeH (i := 3) (d := (some 13)) (v := ?v32) rfl rfl (by kernel_rfl) (by kernel_rfl) (by kernel_rfl) (fun _ _ _ h => h) (by rfl) ?hy32 (by assumption) ?_
      case hy32 => ((intro w hSw; (try dsimp only at hSw); (try go_split_ands); go_simp); try with_reducible rfl)
      simp only [Act.put, List.setIfInBounds_toArray, List.set_cons_zero, List.set_cons_succ]
      refine takeH (i := 4) (d := (some 14)) (v := ?v33) rfl rfl (by kernel_rfl) (by kernel_rfl) (by kernel_rfl) (fun _ _ _ h => h) (by rfl) ?hy33 (by assumption) ?_
      case hy33 => ((intro w hSw; (try dsimp only at hSw); (try go_split_ands); go_simp); try with_reducible rfl)
      simp only [Act.put, List.setIfInBounds_toArray, List.set_cons_zero, List.set_cons_succ]
      refine takeH (i := 5) (d := (some 15)) (v := ?v34) rfl rfl (by kernel_rfl) (by kernel_rfl) (by kernel_rfl) (fun _ _ _ h => h) (by rfl) ?hy34 (by assumption) ?_
      case hy34 => ((intro w hSw; (try dsimp only at hSw); (try go_split_ands); go_simp); try with_reducible rfl)
      simp only [Act.put, List.setIfInBounds_toArray, List.set_cons_zero, List.set_cons_succ]
      refine wpAnyH_ready (rs := [6]) (by kernel_rfl) (by simp) ?_
      refine AllReadyH.cons rfl (fun K hK => ?_) AllReadyH.nil
      go_simp
      refine (H2.out _).mono ?_
      rintro e w3 ⟨rfl, u3⟩
      go_wp2_with fail
      refine hK.out _ _ ⟨hHeld.1.trans u3, u3.blk hHeld.2.1, u3.blk hHeld.2.2⟩ (fun hHeld => ?_)
      clear hK K u3
      refine takeH (i := 7) (d := (some 17)) (v := ?v36) rfl rfl (by kernel_rfl) (by kernel_rfl) (by kernel_rfl) (fun _ _ _ h => h) (by rfl) ?hy36 (by assumption) ?_
      case hy36 => ((intro w hSw; (try dsimp only at hSw); (try go_split_ands); go_simp); try with_reducible rfl)
      simp only [Act.put, List.setIfInBounds_toArray, List.set_cons_zero, List.set_cons_succ]
      refine takeH (i := 8) (d := (some 18)) (v := .int .i64 m1) rfl rfl (by kernel_rfl) (by kernel_rfl) (by kernel_rfl) (fun _ _ _ h => h) (by rfl) ?hymax (by assumption) ?_
      case hymax => ((intro w hSw; (try dsimp only at hSw); go_simp); try with_reducible rfl)
      simp only [Act.put, List.setIfInBounds_toArray, List.set_cons_zero, List.set_cons_succ]
      refine takeH (i := 9) (d := (some 3)) (v := ?v37) rfl rfl (by kernel_rfl) (by kernel_rfl) (by kernel_rfl) (fun _ _ _ h => h) (by rfl) ?hy37 (by assumption) ?_
      case hy37 => ((intro w hSw; (try dsimp only at hSw); (try go_split_ands); go_simp); try with_reducible rfl)
      simp only [Act.put, List.setIfInBounds_toArray, List.set_cons_zero, List.set_cons_succ]
      refine wpAnyH_done (by kernel_rfl) ?_ _
      have V1 := hHeld.1
      have k3 := hHeld.2.2
      clear hHeld
      go_wp2
      go_roundw
      case rel => exact ⟨.inr (.inr ⟨by go_num, rfl⟩), k3, V1⟩
      case measure => simp [intOf]
    · go_wp2
      go_ret
      exact ⟨rfl, V⟩
end

end Go.Proofs.Ytckjggkikpgidaa
