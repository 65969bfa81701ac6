import Derived.Test.YtcadpdbadgejfaaAdC
/- The contracts of scale's spans: turned, both, nearest. -/
namespace Go.Proofs.Ytcadpdbadgejfaa
open Go.RowKit

set_option maxRecDepth 100000 in
theorem turned_any (l h : Int) (w : World) (l1 : -10000000 ≤ l) (l2 : l ≤ 10000000) (h1 : -10000000 ≤ h) (h2 : h ≤ 10000000) : Calls Try.prog 119 #[SpV l h] w fun e w' => e = .returned (SpV (-h) (-l)) ∧ Up w w' := by
  have U := (Up.refl w).alloc (.cells #[.int .i64 l, .int .i64 h] 23)
  go_enter Try.func119, Try.ntmps119
  go_wp2
  exact bodyPost_ret (v := SpV (-h) (-l)) (by simp [results, Try.results119, go_sem]) rfl ⟨rfl, U.alloc _⟩
set_option maxRecDepth 100000 in
theorem nearest_any (l h : Int) (w : World) : Calls Try.prog 96 #[SpV l h] w fun e w' => e = .returned (.int .i64 (max l (min h 0))) ∧ Up w w' := by
  have U := (Up.refl w).alloc (.cells #[.int .i64 l, .int .i64 h] 23)
  have hMn : ∀ (ts : Array TypeId) (t' : TypeId) (w : World), (Builtin.min_ ts t' #[.int .i64 h, .int .i64 0]).run Try.prog w = .ok (.int .i64 (min h 0)) w := fun ts t' w => by
    have e : (if 0 < h then 0 else h) = min h 0 := by split <;> omega
    rw [run_min_int2, e]
  have hMx : ∀ (ts : Array TypeId) (t' : TypeId) (w : World), (Builtin.max_ ts t' #[.int .i64 l, .int .i64 (min h 0)]).run Try.prog w = .ok (.int .i64 (max l (min h 0))) w := fun ts t' w => by
    have e : (if min h 0 > l then min h 0 else l) = max l (min h 0) := by split <;> omega
    rw [run_max_int2, e]
  generalize max l (min h 0) = a at *
  generalize min h 0 = b at *
  go_enter Try.func96, Try.ntmps96
  go_wp2
  go_ret
  exact ⟨rfl, U⟩
set_option maxRecDepth 100000 in
theorem both_any (l h l' h' : Int) (w : World) : Calls Try.prog 109 #[SpV l h, SpV l' h'] w fun e w' => e = .returned (SpV (max l l') (min h h')) ∧ Up w w' := by
  have U := ((Up.refl w).alloc (.cells #[.int .i64 l, .int .i64 h] 23)).alloc (.cells #[.int .i64 l', .int .i64 h'] 23)
  have hMn : ∀ (ts : Array TypeId) (t' : TypeId) (w : World), (Builtin.min_ ts t' #[.int .i64 h, .int .i64 h']).run Try.prog w = .ok (.int .i64 (min h h')) w := fun ts t' w => by
    have e : (if h' < h then h' else h) = min h h' := by split <;> omega
    rw [run_min_int2, e]
  have hMx : ∀ (ts : Array TypeId) (t' : TypeId) (w : World), (Builtin.max_ ts t' #[.int .i64 l, .int .i64 l']).run Try.prog w = .ok (.int .i64 (max l l')) w := fun ts t' w => by
    have e : (if l' > l then l' else l) = max l l' := by split <;> omega
    rw [run_max_int2, e]
  generalize max l l' = a at *
  generalize min h h' = b at *
  go_enter Try.func109, Try.ntmps109
  go_wp2
  exact bodyPost_ret (v := SpV a b) (by simp [results, Try.results109, go_sem]) rfl ⟨rfl, U.alloc _⟩

end Go.Proofs.Ytcadpdbadgejfaa

/- The contracts of a book's isTick and isLook. -/
namespace Go.Proofs.Ytcadpdbadgejfaa
open Go.RowKit

/-- a book -/
abbrev BV (f s j dl dh ticks : Int) (st lk : Value) : Value := .agg #[.int .i64 f, .int .i64 s, .int .i64 j, .int .i64 dl, .int .i64 dh, .int .i64 ticks, st, lk]
abbrev BC (f s j dl dh ticks : Int) (st lk : Value) : Array Value := #[.int .i64 f, .int .i64 s, .int .i64 j, .int .i64 dl, .int .i64 dh, .int .i64 ticks, st, lk]

section
variable {f s j dl dh ticks : Int} {a a' : Option Addr} {n c n' c' : Nat}
set_option maxRecDepth 100000 in
theorem isTick_any (t : Int) (w : World) : Calls Try.prog 74 #[BV f s j dl dh ticks (.slice a n c) (.slice a' n' c'), .int .i64 t] w fun e w' => e = .returned (.bool (inB t 0 ticks)) ∧ Up w w' := by
  have U := (Up.refl w).alloc (.cells (BC f s j dl dh ticks (.slice a n c) (.slice a' n' c')) 104)
  have HW := Lib.hid (fun w => within_any t 0 ticks w)
  go_enter Try.func74, Try.ntmps74
  go_wp2_with fail
  refine (HW.out _).mono ?_
  rintro e w1 ⟨rfl, rfl⟩
  go_wp2
  go_ret
  exact ⟨rfl, U⟩
set_option maxRecDepth 100000 in
theorem isLook_any (t l h : Int) (w : World) : Calls Try.prog 92 #[BV f s j dl dh ticks (.slice a n c) (.slice a' n' c'), .agg #[.int .i64 t, .int .i64 l, .int .i64 h]] w fun e w' => e = .returned (.bool (inB t 0 ticks && S.spanOk l h 20000)) ∧ Up w w' := by
  have U := ((Up.refl w).alloc (.cells (BC f s j dl dh ticks (.slice a n c) (.slice a' n' c')) 104)).alloc (.cells #[.int .i64 t, .int .i64 l, .int .i64 h] 71)
  have k0 := blk_new (w.alloc (.cells (BC f s j dl dh ticks (.slice a n c) (.slice a' n' c')) 104)) (.cells #[.int .i64 t, .int .i64 l, .int .i64 h] 71) (w.heap.size + 1) (by simp)
  have HT := Lib.hid (fun w => isTick_any (f := f) (s := s) (j := j) (dl := dl) (dh := dh) (ticks := ticks) (a := a) (n := n) (c := c) (a' := a') (n' := n') (c' := c') t w)
  have HS := Lib.hid (fun w => isSpan_any l h 20000 w (by omega) (by omega))
  generalize S.spanOk l h 20000 = q at *
  cases hb : inB t 0 ticks with
  | false =>
    rw [Bool.false_and]
    rw [hb] at HT
    clear hb
    go_enter Try.func92, Try.ntmps92
    go_wp2_with fail
    refine (HT.out _).mono ?_
    rintro e w1 ⟨rfl, u1⟩
    go_wp2
    go_ret
    exact ⟨rfl, U.trans u1⟩
  | true =>
    rw [Bool.true_and]
    rw [hb] at HT
    clear hb
    go_enter Try.func92, Try.ntmps92
    go_wp2_with fail
    refine (HT.out _).mono ?_
    rintro e w1 ⟨rfl, u1⟩
    have c1 := cellB (u1.blk k0)
    have V := U.trans u1
    clear U u1 k0
    go_wp2_with fail
    refine (HS.out _).mono ?_
    rintro e w2 ⟨rfl, u2⟩
    go_wp2
    go_ret
    exact ⟨rfl, V.trans u2⟩
set_option maxRecDepth 100000 in
theorem change_last (t : Int) (ht : (n : Int) ≤ t) (w : World) : Calls Try.prog 118 #[BV f s j dl dh ticks (.slice a n c) (.slice a' n' c'), .int .i64 t] w fun e w' => e = .returned (SpV dl dh) ∧ Up w w' := by
  have U := ((Up.refl w).alloc (.cells (BC f s j dl dh ticks (.slice a n c) (.slice a' n' c')) 104)).alloc (.cells #[.int .i64 dl, .int .i64 dh] 23)
  go_enter Try.func118, Try.ntmps118
  go_wp2
  exact bodyPost_ret (v := SpV dl dh) (by simp [results, Try.results118, go_sem]) rfl ⟨rfl, U⟩
abbrev EV : Value := .agg #[.func (.func 110) #[] #[], .int .i64 (-1), .func (.func 111) #[] #[], .int .i64 1]
theorem ends_any (w : World) : Calls Try.prog 95 #[] w fun e w' => e = .returned EV ∧ Up w w' := by
  go_enter Try.func95, Try.ntmps95
  go_wp2
  exact bodyPost_ret (v := EV) (by simp [results, Try.results95, go_sem]) rfl ⟨rfl, (Up.refl _).alloc _⟩
theorem ends1_any (l h : Int) (w : World) : Calls Try.prog 110 #[SpV l h] w fun e w' => e = .returned (.int .i64 l) ∧ Up w w' := by
  go_enter Try.func110, Try.ntmps110
  go_wp2
  go_ret
  exact ⟨rfl, (Up.refl _).alloc _⟩
theorem ends2_any (l h : Int) (w : World) : Calls Try.prog 111 #[SpV l h] w fun e w' => e = .returned (.int .i64 h) ∧ Up w w' := by
  go_enter Try.func111, Try.ntmps111
  go_wp2
  go_ret
  exact ⟨rfl, (Up.refl _).alloc _⟩
end

end Go.Proofs.Ytcadpdbadgejfaa

/- The contract of added. -/
namespace Go.Proofs.Ytcadpdbadgejfaa
open Go.RowKit

theorem S.merge2 {P : Prop} (R : World → Nat → Nat → Prop) {G : World → Nat → Nat → Prop} (h1 : Hid (∀ w' b c, R w' b c → G w' b c) → P) (h2 : ∀ w' b c, R w' b c → G w' b c) : P := h1 (Lib.hid h2)
theorem sum2_any {x y z : Int} (hz : x + y = z) (z1 : -100000000 ≤ z) (z2 : z ≤ 100000000) (w : World) (b : Nat) (k : mblk w b = some (.cells #[.int .i64 x, .int .i64 y] 3 (0, 0))) : Calls Try.prog 71 #[.slice (some ⟨b, 0, none⟩) 2 2] w fun e w' => e = .returned (.int .i64 z) ∧ w = w' := by
  have K := sum_any (Ints.new (cap := 2) (xs := [x, y]) k (by simp) (by simp) (fun j hj => by
    match j, hj with
    | 0, _ => rfl
    | 1, _ => rfl))
  have es : wrap64 ([x, y] : List Int).sum = z := by
    rw [← hz, wrap_in (by unfold D.in64; simp; omega)]; simp
  rw [es] at K
  exact K

set_option maxRecDepth 100000 in
set_option maxHeartbeats 4000000 in
theorem added_any (l h l' h' : Int) (w : World) (l1 : -100000000 ≤ l + l') (l2 : l + l' ≤ 100000000) (h1 : -100000000 ≤ h + h') (h2 : h + h' ≤ 100000000) : Calls Try.prog 117 #[SpV l h, SpV l' h'] w fun e w' => e = .returned (SpV (l + l') (h + h')) ∧ Up w w' := by
  have HS4 := Lib.hid (fun w b k => sum2_any (x := l) (y := l') rfl l1 l2 w b k)
  have HS10 := Lib.hid (fun w b k => sum2_any (x := h) (y := h') rfl h1 h2 w b k)
  clear l1 l2 h1 h2
  go_enter Try.func117, Try.ntmps117
  go_wp2_with fail
  obtain ⟨W0, hW0⟩ : ∃ W0, ((w.alloc (.cells #[.int .i64 l, .int .i64 h] 23)).alloc (.cells #[.int .i64 l', .int .i64 h'] 23)).alloc (.cells #[.int .i64 0, .int .i64 0] 23) = W0 := ⟨_, rfl⟩
  have U0 : Up w W0 := by rw [← hW0]; exact (((Up.refl w).alloc _).alloc _).alloc _
  have ka : mblk W0 w.heap.size = some (.cells #[.int .i64 l, .int .i64 h] 23 (0, 0)) := by rw [← hW0]; exact blk_keep _ (blk_keep _ (blk_new _ _ _ rfl))
  have kb : mblk W0 (w.heap.size + 1) = some (.cells #[.int .i64 l', .int .i64 h'] 23 (0, 0)) := by rw [← hW0]; exact blk_keep _ (blk_new _ _ _ (by simp))
  have kc : mblk W0 (w.heap.size + 1 + 1) = some (.cells #[.int .i64 0, .int .i64 0] 23 (0, 0)) := by rw [← hW0]; exact blk_new _ _ _ (by simp)
  try rw [hW0]
  clear hW0
  apply S.merge2 (fun w' _ _ => Up w w' ∧ mblk w' (w.heap.size + 1 + 1) = some (.cells #[.int .i64 (l + l'), .int .i64 (h + h')] 23 (0, 0)))
  · intro HKey
    refine wp_region_held_drew (S := fun w' => Up w w' ∧ mblk w' w.heap.size = some (.cells #[.int .i64 l, .int .i64 h] 23 (0, 0)) ∧ mblk w' (w.heap.size + 1) = some (.cells #[.int .i64 l', .int .i64 h'] 23 (0, 0)) ∧ ∃ q : Value × Value, mblk w' (w.heap.size + 1 + 1) = some (.cells #[q.1, q.2] 23 (0, 0))) (by kernel_rfl) ⟨U0.drew, by rw [blk_drew]; exact ka, by rw [blk_drew]; exact kb, (.int .i64 0, .int .i64 0), by rw [blk_drew]; exact kc⟩ (fun hHeld => ?_)
    refine takeH (i := 0) (d := (some 5)) (v := ?v1) rfl rfl (by kernel_rfl) (by kernel_rfl) (by kernel_rfl) (fun _ _ _ h => h) (by rfl) ?hy1 (by assumption) ?_
    case hy1 => ((intro w hSw; (try dsimp only at hSw); (try go_split_ands); go_simp); try with_reducible rfl)
    simp only [Act.put, List.setIfInBounds_toArray, List.set_cons_zero, List.set_cons_succ]
    refine takeH (i := 1) (d := (some 6)) (v := ?v2) rfl rfl (by kernel_rfl) (by kernel_rfl) (by kernel_rfl) (fun _ _ _ h => h) (by rfl) ?hy2 (by assumption) ?_
    case hy2 => ((intro w hSw; (try dsimp only at hSw); (try go_split_ands); go_simp); try with_reducible rfl)
    simp only [Act.put, List.setIfInBounds_toArray, List.set_cons_zero, List.set_cons_succ]
    refine takeH (i := 2) (d := (some 7)) (v := ?v3) rfl rfl (by kernel_rfl) (by kernel_rfl) (by kernel_rfl) (fun _ _ _ h => h) (by rfl) ?hy3 (by assumption) ?_
    case hy3 => ((intro w hSw; (try dsimp only at hSw); (try go_split_ands); go_simp); try with_reducible rfl)
    simp only [Act.put, List.setIfInBounds_toArray, List.set_cons_zero, List.set_cons_succ]
    refine takeH (i := 3) (d := (some 8)) (v := ?v4) rfl rfl (by kernel_rfl) (by kernel_rfl) (by kernel_rfl) (fun _ _ _ h => h) (by rfl) ?hy4 (by assumption) ?_
    case hy4 => ((intro w hSw; (try dsimp only at hSw); (try go_split_ands); go_simp); try with_reducible rfl)
    simp only [Act.put, List.setIfInBounds_toArray, List.set_cons_zero, List.set_cons_succ]
    refine takeH (i := 6) (d := (some 11)) (v := ?v5) rfl rfl (by kernel_rfl) (by kernel_rfl) (by kernel_rfl) (fun _ _ _ h => h) (by rfl) ?hy5 (by assumption) ?_
    case hy5 => ((intro w hSw; (try dsimp only at hSw); (try go_split_ands); go_simp); try with_reducible rfl)
    simp only [Act.put, List.setIfInBounds_toArray, List.set_cons_zero, List.set_cons_succ]
    refine takeH (i := 7) (d := (some 12)) (v := ?v6) rfl rfl (by kernel_rfl) (by kernel_rfl) (by kernel_rfl) (fun _ _ _ h => h) (by rfl) ?hy6 (by assumption) ?_
    case hy6 => ((intro w hSw; (try dsimp only at hSw); (try go_split_ands); go_simp); try with_reducible rfl)
    simp only [Act.put, List.setIfInBounds_toArray, List.set_cons_zero, List.set_cons_succ]
    refine takeH (i := 8) (d := (some 13)) (v := ?v7) rfl rfl (by kernel_rfl) (by kernel_rfl) (by kernel_rfl) (fun _ _ _ h => h) (by rfl) ?hy7 (by assumption) ?_
    case hy7 => ((intro w hSw; (try dsimp only at hSw); (try go_split_ands); go_simp); try with_reducible rfl)
    simp only [Act.put, List.setIfInBounds_toArray, List.set_cons_zero, List.set_cons_succ]
    refine takeH (i := 9) (d := (some 14)) (v := ?v8) rfl rfl (by kernel_rfl) (by kernel_rfl) (by kernel_rfl) (fun _ _ _ h => h) (by rfl) ?hy8 (by assumption) ?_
    case hy8 => ((intro w hSw; (try dsimp only at hSw); (try go_split_ands); go_simp); try with_reducible rfl)
    simp only [Act.put, List.setIfInBounds_toArray, List.set_cons_zero, List.set_cons_succ]
    refine wpAnyH_ready (rs := [4, 10]) (by kernel_rfl) (by simp) ?_
    refine AllReadyH.cons rfl (fun K hK => ?_) (AllReadyH.cons rfl (fun K hK => ?_) AllReadyH.nil)
    · go_simp
      obtain ⟨y1, hY⟩ : ∃ Y, (W0.alloc (.cells #[.int .i64 l, .int .i64 l'] 3)).drew = Y := ⟨_, rfl⟩
      obtain ⟨b4, hb⟩ : ∃ b, W0.heap.size = b := ⟨_, rfl⟩
      have z4 : mblk y1 b4 = some (.cells #[.int .i64 l, .int .i64 l'] 3 (0, 0)) := by rw [← hY, blk_drew]; exact blk_new _ _ _ hb.symm
      have V : Up W0.drew y1 := by rw [← hY]; exact (Up.refl W0.drew).alloc (.cells #[.int .i64 l, .int .i64 l'] 3)
      rw [hb, hY]
      refine hK.out _ _ ⟨hHeld.1.trans V, V.blk hHeld.2.1, V.blk hHeld.2.2.1, hHeld.2.2.2.elim fun q k => ⟨q, V.blk k⟩⟩ (fun hHeld => ?_)
      clear hK K hY V hb
      refine wpAnyH_ready (rs := [5, 10]) (by kernel_rfl) (by simp) ?_
      refine AllReadyH.cons rfl (fun K hK => ?_) (AllReadyH.cons rfl (fun K hK => ?_) AllReadyH.nil)
      · go_simp
        refine (HS4.out _ _ z4).mono ?_
        rintro e y2 ⟨rfl, rfl⟩
        go_wp2_with fail
        refine hK.out _ _ hHeld (fun hHeld => ?_)
        clear hK K
        refine wpAnyH_ready (rs := [10]) (by kernel_rfl) (by simp) ?_
        refine AllReadyH.cons rfl (fun K hK => ?_) AllReadyH.nil
        go_simp
        obtain ⟨y3, hY⟩ : ∃ Y, (y1.alloc (.cells #[.int .i64 h, .int .i64 h'] 3)) = Y := ⟨_, rfl⟩
        obtain ⟨b10, hb⟩ : ∃ b, y1.heap.size = b := ⟨_, rfl⟩
        have z10 : mblk y3 b10 = some (.cells #[.int .i64 h, .int .i64 h'] 3 (0, 0)) := by rw [← hY]; exact blk_new _ _ _ hb.symm
        have V : Up y1 y3 := by rw [← hY]; exact (Up.refl y1).alloc (.cells #[.int .i64 h, .int .i64 h'] 3)
        rw [hb, hY]
        refine hK.out _ _ ⟨hHeld.1.trans V, V.blk hHeld.2.1, V.blk hHeld.2.2.1, hHeld.2.2.2.elim fun q k => ⟨q, V.blk k⟩⟩ (fun hHeld => ?_)
        replace z4 := V.blk z4
        clear hK K hY V hb
        refine wpAnyH_ready (rs := [11]) (by kernel_rfl) (by simp) ?_
        refine AllReadyH.cons rfl (fun K hK => ?_) AllReadyH.nil
        go_simp
        refine (HS10.out _ _ z10).mono ?_
        rintro e y4 ⟨rfl, rfl⟩
        go_wp2_with fail
        refine hK.out _ _ hHeld (fun hHeld => ?_)
        clear hK K
        refine takeH (i := 12) (d := (some 17)) (v := ?v11) rfl rfl (by kernel_rfl) (by kernel_rfl) (by kernel_rfl) (fun _ _ _ h => h) (by rfl) ?hy11 (by assumption) ?_
        case hy11 => ((intro w hSw; (try dsimp only at hSw); (try go_split_ands); go_simp); try with_reducible rfl)
        simp only [Act.put, List.setIfInBounds_toArray, List.set_cons_zero, List.set_cons_succ]
        obtain ⟨qc, kc⟩ := hHeld.2.2.2
        have fc := cellB kc
        have gc := frozB kc
        refine wpAnyH_ready (rs := [13]) (by kernel_rfl) (by simp) ?_
        refine AllReadyH.cons rfl (fun K hK => ?_) AllReadyH.nil
        go_simp
        obtain ⟨s5, hY⟩ : ∃ Y, (y3.setCell ⟨w.heap.size + 1 + 1, 0, none⟩ (.int .i64 (l + l'))).setCell ⟨w.heap.size + 1 + 1, 1, none⟩ (.int .i64 (h + h')) = Y := ⟨_, rfl⟩
        have kd : mblk s5 (w.heap.size + 1 + 1) = some (.cells #[.int .i64 (l + l'), .int .i64 (h + h')] 23 (0, 0)) := by rw [← hY]; exact blk_put (blk_put kc 0 _) 1 _
        have V : Up w s5 := by rw [← hY]; exact Up.set (Up.set hHeld.1 (by show w.heap.size ≤ w.heap.size + 1 + 1; omega) _) (by show w.heap.size ≤ w.heap.size + 1 + 1; omega) _
        have ka' : mblk s5 w.heap.size = some (.cells #[.int .i64 l, .int .i64 h] 23 (0, 0)) := by rw [← hY, blk_set _ _ _ _ (by show w.heap.size ≠ w.heap.size + 1 + 1; omega), blk_set _ _ _ _ (by show w.heap.size ≠ w.heap.size + 1 + 1; omega)]; exact hHeld.2.1
        have kb' : mblk s5 (w.heap.size + 1) = some (.cells #[.int .i64 l', .int .i64 h'] 23 (0, 0)) := by rw [← hY, blk_set _ _ _ _ (by show w.heap.size + 1 ≠ w.heap.size + 1 + 1; omega), blk_set _ _ _ _ (by show w.heap.size + 1 ≠ w.heap.size + 1 + 1; omega)]; exact hHeld.2.2.1
        rw [hY]
        refine hK.out _ _ ⟨V, ka', kb', (_, _), kd⟩ (fun hHeld => ?_)
        clear hK K hY
        refine wpAnyH_done (by kernel_rfl) ?_ _
        exact HKey.out _ b4 b10 ⟨V, kd⟩
      · go_simp
        obtain ⟨y6, hY⟩ : ∃ Y, (y1.alloc (.cells #[.int .i64 h, .int .i64 h'] 3)) = Y := ⟨_, rfl⟩
        obtain ⟨b10, hb⟩ : ∃ b, y1.heap.size = b := ⟨_, rfl⟩
        have z10 : mblk y6 b10 = some (.cells #[.int .i64 h, .int .i64 h'] 3 (0, 0)) := by rw [← hY]; exact blk_new _ _ _ hb.symm
        have V : Up y1 y6 := by rw [← hY]; exact (Up.refl y1).alloc (.cells #[.int .i64 h, .int .i64 h'] 3)
        rw [hb, hY]
        refine hK.out _ _ ⟨hHeld.1.trans V, V.blk hHeld.2.1, V.blk hHeld.2.2.1, hHeld.2.2.2.elim fun q k => ⟨q, V.blk k⟩⟩ (fun hHeld => ?_)
        replace z4 := V.blk z4
        clear hK K hY V hb
        refine wpAnyH_ready (rs := [5]) (by kernel_rfl) (by simp) ?_
        refine AllReadyH.cons rfl (fun K hK => ?_) AllReadyH.nil
        go_simp
        refine (HS4.out _ _ z4).mono ?_
        rintro e y7 ⟨rfl, rfl⟩
        go_wp2_with fail
        refine hK.out _ _ hHeld (fun hHeld => ?_)
        clear hK K
        refine wpAnyH_ready (rs := [11]) (by kernel_rfl) (by simp) ?_
        refine AllReadyH.cons rfl (fun K hK => ?_) AllReadyH.nil
        go_simp
        refine (HS10.out _ _ z10).mono ?_
        rintro e y8 ⟨rfl, rfl⟩
        go_wp2_with fail
        refine hK.out _ _ hHeld (fun hHeld => ?_)
        clear hK K
        refine takeH (i := 12) (d := (some 17)) (v := ?v15) rfl rfl (by kernel_rfl) (by kernel_rfl) (by kernel_rfl) (fun _ _ _ h => h) (by rfl) ?hy15 (by assumption) ?_
        case hy15 => ((intro w hSw; (try dsimp only at hSw); (try go_split_ands); go_simp); try with_reducible rfl)
        simp only [Act.put, List.setIfInBounds_toArray, List.set_cons_zero, List.set_cons_succ]
        obtain ⟨qc, kc⟩ := hHeld.2.2.2
        have fc := cellB kc
        have gc := frozB kc
        refine wpAnyH_ready (rs := [13]) (by kernel_rfl) (by simp) ?_
        refine AllReadyH.cons rfl (fun K hK => ?_) AllReadyH.nil
        go_simp
        obtain ⟨s9, hY⟩ : ∃ Y, (y6.setCell ⟨w.heap.size + 1 + 1, 0, none⟩ (.int .i64 (l + l'))).setCell ⟨w.heap.size + 1 + 1, 1, none⟩ (.int .i64 (h + h')) = Y := ⟨_, rfl⟩
        have kd : mblk s9 (w.heap.size + 1 + 1) = some (.cells #[.int .i64 (l + l'), .int .i64 (h + h')] 23 (0, 0)) := by rw [← hY]; exact blk_put (blk_put kc 0 _) 1 _
        have V : Up w s9 := by rw [← hY]; exact Up.set (Up.set hHeld.1 (by show w.heap.size ≤ w.heap.size + 1 + 1; omega) _) (by show w.heap.size ≤ w.heap.size + 1 + 1; omega) _
        have ka' : mblk s9 w.heap.size = some (.cells #[.int .i64 l, .int .i64 h] 23 (0, 0)) := by rw [← hY, blk_set _ _ _ _ (by show w.heap.size ≠ w.heap.size + 1 + 1; omega), blk_set _ _ _ _ (by show w.heap.size ≠ w.heap.size + 1 + 1; omega)]; exact hHeld.2.1
        have kb' : mblk s9 (w.heap.size + 1) = some (.cells #[.int .i64 l', .int .i64 h'] 23 (0, 0)) := by rw [← hY, blk_set _ _ _ _ (by show w.heap.size + 1 ≠ w.heap.size + 1 + 1; omega), blk_set _ _ _ _ (by show w.heap.size + 1 ≠ w.heap.size + 1 + 1; omega)]; exact hHeld.2.2.1
        rw [hY]
        refine hK.out _ _ ⟨V, ka', kb', (_, _), kd⟩ (fun hHeld => ?_)
        clear hK K hY
        refine wpAnyH_done (by kernel_rfl) ?_ _
        exact HKey.out _ b4 b10 ⟨V, kd⟩
    · go_simp
      obtain ⟨y10, hY⟩ : ∃ Y, (W0.alloc (.cells #[.int .i64 h, .int .i64 h'] 3)).drew = Y := ⟨_, rfl⟩
      obtain ⟨b10, hb⟩ : ∃ b, W0.heap.size = b := ⟨_, rfl⟩
      have z10 : mblk y10 b10 = some (.cells #[.int .i64 h, .int .i64 h'] 3 (0, 0)) := by rw [← hY, blk_drew]; exact blk_new _ _ _ hb.symm
      have V : Up W0.drew y10 := by rw [← hY]; exact (Up.refl W0.drew).alloc (.cells #[.int .i64 h, .int .i64 h'] 3)
      rw [hb, hY]
      refine hK.out _ _ ⟨hHeld.1.trans V, V.blk hHeld.2.1, V.blk hHeld.2.2.1, hHeld.2.2.2.elim fun q k => ⟨q, V.blk k⟩⟩ (fun hHeld => ?_)
      clear hK K hY V hb
      refine wpAnyH_ready (rs := [4]) (by kernel_rfl) (by simp) ?_
      refine AllReadyH.cons rfl (fun K hK => ?_) AllReadyH.nil
      go_simp
      obtain ⟨y11, hY⟩ : ∃ Y, (y10.alloc (.cells #[.int .i64 l, .int .i64 l'] 3)) = Y := ⟨_, rfl⟩
      obtain ⟨b4, hb⟩ : ∃ b, y10.heap.size = b := ⟨_, rfl⟩
      have z4 : mblk y11 b4 = some (.cells #[.int .i64 l, .int .i64 l'] 3 (0, 0)) := by rw [← hY]; exact blk_new _ _ _ hb.symm
      have V : Up y10 y11 := by rw [← hY]; exact (Up.refl y10).alloc (.cells #[.int .i64 l, .int .i64 l'] 3)
      rw [hb, hY]
      refine hK.out _ _ ⟨hHeld.1.trans V, V.blk hHeld.2.1, V.blk hHeld.2.2.1, hHeld.2.2.2.elim fun q k => ⟨q, V.blk k⟩⟩ (fun hHeld => ?_)
      replace z10 := V.blk z10
      clear hK K hY V hb
      refine wpAnyH_ready (rs := [5]) (by kernel_rfl) (by simp) ?_
      refine AllReadyH.cons rfl (fun K hK => ?_) AllReadyH.nil
      go_simp
      refine (HS4.out _ _ z4).mono ?_
      rintro e y12 ⟨rfl, rfl⟩
      go_wp2_with fail
      refine hK.out _ _ hHeld (fun hHeld => ?_)
      clear hK K
      refine wpAnyH_ready (rs := [11]) (by kernel_rfl) (by simp) ?_
      refine AllReadyH.cons rfl (fun K hK => ?_) AllReadyH.nil
      go_simp
      refine (HS10.out _ _ z10).mono ?_
      rintro e y13 ⟨rfl, rfl⟩
      go_wp2_with fail
      refine hK.out _ _ hHeld (fun hHeld => ?_)
      clear hK K
      refine takeH (i := 12) (d := (some 17)) (v := ?v20) rfl rfl (by kernel_rfl) (by kernel_rfl) (by kernel_rfl) (fun _ _ _ h => h) (by rfl) ?hy20 (by assumption) ?_
      case hy20 => ((intro w hSw; (try dsimp only at hSw); (try go_split_ands); go_simp); try with_reducible rfl)
      simp only [Act.put, List.setIfInBounds_toArray, List.set_cons_zero, List.set_cons_succ]
      obtain ⟨qc, kc⟩ := hHeld.2.2.2
      have fc := cellB kc
      have gc := frozB kc
      refine wpAnyH_ready (rs := [13]) (by kernel_rfl) (by simp) ?_
      refine AllReadyH.cons rfl (fun K hK => ?_) AllReadyH.nil
      go_simp
      obtain ⟨s14, hY⟩ : ∃ Y, (y11.setCell ⟨w.heap.size + 1 + 1, 0, none⟩ (.int .i64 (l + l'))).setCell ⟨w.heap.size + 1 + 1, 1, none⟩ (.int .i64 (h + h')) = Y := ⟨_, rfl⟩
      have kd : mblk s14 (w.heap.size + 1 + 1) = some (.cells #[.int .i64 (l + l'), .int .i64 (h + h')] 23 (0, 0)) := by rw [← hY]; exact blk_put (blk_put kc 0 _) 1 _
      have V : Up w s14 := by rw [← hY]; exact Up.set (Up.set hHeld.1 (by show w.heap.size ≤ w.heap.size + 1 + 1; omega) _) (by show w.heap.size ≤ w.heap.size + 1 + 1; omega) _
      have ka' : mblk s14 w.heap.size = some (.cells #[.int .i64 l, .int .i64 h] 23 (0, 0)) := by rw [← hY, blk_set _ _ _ _ (by show w.heap.size ≠ w.heap.size + 1 + 1; omega), blk_set _ _ _ _ (by show w.heap.size ≠ w.heap.size + 1 + 1; omega)]; exact hHeld.2.1
      have kb' : mblk s14 (w.heap.size + 1) = some (.cells #[.int .i64 l', .int .i64 h'] 23 (0, 0)) := by rw [← hY, blk_set _ _ _ _ (by show w.heap.size + 1 ≠ w.heap.size + 1 + 1; omega), blk_set _ _ _ _ (by show w.heap.size + 1 ≠ w.heap.size + 1 + 1; omega)]; exact hHeld.2.2.1
      rw [hY]
      refine hK.out _ _ ⟨V, ka', kb', (_, _), kd⟩ (fun hHeld => ?_)
      clear hK K hY
      refine wpAnyH_done (by kernel_rfl) ?_ _
      exact HKey.out _ b4 b10 ⟨V, kd⟩
  intro w7 b4 b10 ⟨U7, kd⟩
  have c7 := cellB kd
  clear HS4 HS10 ka kb kc U0
  go_wp2_with fail
  exact bodyPost_ret (v := SpV (l + l') (h + h')) (by simp [results, Try.results117, go_sem, c7]) rfl ⟨rfl, U7⟩

end Go.Proofs.Ytcadpdbadgejfaa
