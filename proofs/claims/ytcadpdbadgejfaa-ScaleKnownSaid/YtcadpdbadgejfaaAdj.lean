import Derived.Test.YtcadpdbadgejfaaLev
/- The contract of adjustments. -/
namespace Go.Proofs.Ytcadpdbadgejfaa
open Go.RowKit

theorem S.list_len (f : Nat → Int) (k i : Nat) : (S.list f k i).length = k := by rw [S.list_is]; simp
theorem Ints.set {w : World} {v : Value} {xs : List Int} (h : Ints w v xs) {b : Nat} {a : Option Addr} {n c : Nat} {t : TypeId} {fr : Nat × Nat} (hb : mblk w b = some (.cells #[.slice a n c] t fr)) (u : Value) : Ints (w.setCell ⟨b, 0, none⟩ u) v xs := by
  obtain ⟨a', c', rfl, hc, hl, hm⟩ := h.is
  refine ⟨a', c', rfl, hc, hl, fun h0 => ?_⟩
  obtain ⟨g, off, rfl, gl, hx⟩ := hm h0
  have hne : g ≠ b := fun e => by
    have q := hx 0 h0
    rw [e, cellB hb] at q
    cases hk : off + 0 with
    | zero => rw [hk] at q; cases q
    | succ k => rw [hk] at q; simp at q
  refine ⟨g, off, rfl, by simpa using gl, fun j hj => (cell_blk (Below.heap_setCell w ⟨b, 0, none⟩ u g hne) _).trans (hx j hj)⟩
theorem upTo_sl {f s j dl dh p far : Int} (hr : S.ok f s j dl dh = true) (hp : p = 0 ∨ p = 1 ∨ p = 2) {T : Nat} (hT : T ≤ 200) (L : Int) {m : Nat} {w : World} (K : S.Know w (.map (some m)) f s j) :
    Calls Try.prog 99 #[CV m p far, .int .i64 L, .int .i64 T] w fun e w' => ∃ a c, e = .returned (.slice a T c) ∧ Up w w' ∧ Ints w' (.slice a T c) (S.list (S.lo (S.add (S.part f s p) j T) L) T 0) :=
  (upTo_any hr hp hT L K).mono fun e w' ⟨v, he, u, I⟩ => by
    obtain ⟨a, c, hv, _⟩ := I.is
    rw [S.list_len] at hv
    exact ⟨a, c, by rw [he, hv], u, by rw [← hv]; exact I⟩
theorem S.merge7 {P : Prop} (R : World → Nat → Nat → Option Addr → Nat → Option Addr → Nat → Prop) {G : World → Nat → Nat → Option Addr → Nat → Option Addr → Nat → Prop} (h1 : Hid (∀ w' b c d e f g, R w' b c d e f g → G w' b c d e f g) → P) (h2 : ∀ w' b c d e f g, R w' b c d e f g → G w' b c d e f g) : P := h1 (Lib.hid h2)

set_option maxRecDepth 100000 in
set_option maxHeartbeats 4000000 in
theorem adjustments_any {f s j dl dh p far : Int} (hr : S.ok f s j dl dh = true) (hp : p = 0 ∨ p = 1 ∨ p = 2) (far1 : 0 ≤ far) {T : Nat} (hT : T ≤ 200) {m : Nat} {w : World} (K : S.Know w (.map (some m)) f s j) :
    ∃ L : Nat, S.Level (S.add (S.part f s p) j T) T far L ∧ Calls Try.prog 86 #[CV m p far, .int .i64 T] w fun e w' => ∃ b6 b7 a1 c1 a2 c2, e = .returned (.func (.func 100) #[] #[.pointer (some ⟨w.heap.size, 0, none⟩), .pointer (some ⟨b6, 0, none⟩), .pointer (some ⟨w.heap.size + 1, 0, none⟩), .pointer (some ⟨b7, 0, none⟩)]) ∧
      Up w w' ∧ mblk w' w.heap.size = some (.cells #[.map (some m), .int .i64 p, .int .i64 far] 89 (0, 0)) ∧ mblk w' (w.heap.size + 1) = some (.cells #[.int .i64 T] 3 (0, 0)) ∧ mblk w' b6 = some (.cells #[.slice a1 T c1] 26 (0, 0)) ∧ mblk w' b7 = some (.cells #[.slice a2 T c2] 26 (0, 0)) ∧ Ints w' (.slice a1 T c1) (S.list (S.lo (S.add (S.part f s p) j T) L) T 0) ∧ Ints w' (.slice a2 T c2) (S.list (S.lo (S.add (S.part f s p) j T) ((L : Int) + 1)) T 0) ∧ w.heap.size + 2 ≤ b6 ∧ w.heap.size + 2 ≤ b7 := by
  obtain ⟨L, hL, KL⟩ := level_any (far := far) hr hp far1 hT K
  refine ⟨L, hL, ?_⟩
  have l500 := hL.top
  have HL := Lib.hid KL
  have HU1 := Lib.hid (fun w' (u : Up w w') => upTo_sl (far := far) hr hp hT (L : Int) (K.up u))
  have HU2 := Lib.hid (fun w' (u : Up w w') => upTo_sl (far := far) hr hp hT ((L : Int) + 1) (K.up u))
  generalize S.list (S.lo (S.add (S.part f s p) j T) (L : Int)) T 0 = lo at *
  generalize S.list (S.lo (S.add (S.part f s p) j T) ((L : Int) + 1)) T 0 = hi at *
  have ew : IntKind.i64.wrap ((L : Int) + 1) = (L : Int) + 1 := IntWalk.i64_in _ (by omega)
  have U := ((Up.refl w).alloc (.cells #[.map (some m), .int .i64 p, .int .i64 far] 89)).alloc (.cells #[.int .i64 T] 3)
  have k2 := blk_keep (.cells #[.int .i64 T] 3) (blk_new w (.cells #[.map (some m), .int .i64 p, .int .i64 far] 89) w.heap.size rfl)
  have k3 := blk_new (w.alloc (.cells #[.map (some m), .int .i64 p, .int .i64 far] 89)) (.cells #[.int .i64 T] 3) (w.heap.size + 1) (by simp)
  clear KL hL K hr hp
  go_enter Try.func86, Try.ntmps86
  go_wp2_with fail
  refine (HL.out _ U).mono ?_
  rintro e w1 ⟨rfl, u1⟩
  have U1 := U.trans u1
  have k2' := u1.blk k2
  have k3' := u1.blk k3
  clear u1 U k2 k3 HL
  go_wp2_with fail
  apply S.merge7 (fun w' b6 b7 a1 c1 a2 c2 => Up w w' ∧ mblk w' w.heap.size = some (.cells #[.map (some m), .int .i64 p, .int .i64 far] 89 (0, 0)) ∧ mblk w' (w.heap.size + 1) = some (.cells #[.int .i64 T] 3 (0, 0)) ∧ mblk w' b6 = some (.cells #[.slice a1 T c1] 26 (0, 0)) ∧ mblk w' b7 = some (.cells #[.slice a2 T c2] 26 (0, 0)) ∧ Ints w' (.slice a1 T c1) lo ∧ Ints w' (.slice a2 T c2) hi ∧ w.heap.size + 2 ≤ b6 ∧ w.heap.size + 2 ≤ b7)
  · intro HKey
    refine wp_region_held_drew (S := fun w' => Up w w' ∧ mblk w' w.heap.size = some (.cells #[.map (some m), .int .i64 p, .int .i64 far] 89 (0, 0)) ∧ mblk w' (w.heap.size + 1) = some (.cells #[.int .i64 T] 3 (0, 0))) (by as_aux_lemma => kernel_rfl) ⟨U1.drew, by rw [blk_drew]; exact k2', by rw [blk_drew]; exact k3'⟩ (fun hHeld => ?_)
    refine takeH (i := 0) (d := (some 11)) (v := ?v1) rfl rfl (by as_aux_lemma => kernel_rfl) (by as_aux_lemma => kernel_rfl) (by as_aux_lemma => kernel_rfl) (fun _ _ _ h => h) (by rfl) ?hy1 (by assumption) ?_
    case hy1 => ((intro w hSw; (try dsimp only at hSw); (try go_split_ands); go_simp); try with_reducible rfl)
    simp only [Act.put, List.setIfInBounds_toArray]; dsimp only [List.set_cons_zero, List.set_cons_succ]
    refine takeH (i := 1) (d := (some 12)) (v := ?v2) rfl rfl (by as_aux_lemma => kernel_rfl) (by as_aux_lemma => kernel_rfl) (by as_aux_lemma => kernel_rfl) (fun _ _ _ h => h) (by rfl) ?hy2 (by assumption) ?_
    case hy2 => ((intro w hSw; (try dsimp only at hSw); (try go_split_ands); go_simp); try with_reducible rfl)
    simp only [Act.put, List.setIfInBounds_toArray]; dsimp only [List.set_cons_zero, List.set_cons_succ]
    refine takeH (i := 2) (d := (some 13)) (v := ?v3) rfl rfl (by as_aux_lemma => kernel_rfl) (by as_aux_lemma => kernel_rfl) (by as_aux_lemma => kernel_rfl) (fun _ _ _ h => h) (by rfl) ?hy3 (by assumption) ?_
    case hy3 => ((intro w hSw; (try dsimp only at hSw); (try go_split_ands); go_simp); try with_reducible rfl)
    simp only [Act.put, List.setIfInBounds_toArray]; dsimp only [List.set_cons_zero, List.set_cons_succ]
    refine takeH (i := 4) (d := (some 15)) (v := ?v4) rfl rfl (by as_aux_lemma => kernel_rfl) (by as_aux_lemma => kernel_rfl) (by as_aux_lemma => kernel_rfl) (fun _ _ _ h => h) (by rfl) ?hy4 (by assumption) ?_
    case hy4 => ((intro w hSw; (try dsimp only at hSw); (try go_split_ands); go_simp); try with_reducible rfl)
    simp only [Act.put, List.setIfInBounds_toArray]; dsimp only [List.set_cons_zero, List.set_cons_succ]
    refine takeH (i := 5) (d := (some 16)) (v := ?v5) rfl rfl (by as_aux_lemma => kernel_rfl) (by as_aux_lemma => kernel_rfl) (by as_aux_lemma => kernel_rfl) (fun _ _ _ h => h) (by rfl) ?hy5 (by assumption) ?_
    case hy5 => ((intro w hSw; (try dsimp only at hSw); (try go_split_ands); go_simp); try with_reducible rfl)
    simp only [Act.put, List.setIfInBounds_toArray]; dsimp only [List.set_cons_zero, List.set_cons_succ]
    refine takeH (i := 7) (d := (some 18)) (v := ?v6) rfl rfl (by as_aux_lemma => kernel_rfl) (by as_aux_lemma => kernel_rfl) (by as_aux_lemma => kernel_rfl) (fun _ _ _ h => h) (by rfl) ?hy6 (by assumption) ?_
    case hy6 => ((intro w hSw; (try dsimp only at hSw); (try go_split_ands); go_simp); try with_reducible rfl)
    simp only [Act.put, List.setIfInBounds_toArray]; dsimp only [List.set_cons_zero, List.set_cons_succ]
    refine takeH (i := 6) (d := (some 17)) (v := ?v7) rfl rfl (by as_aux_lemma => kernel_rfl) (by as_aux_lemma => kernel_rfl) (by as_aux_lemma => kernel_rfl) (fun _ _ _ h => h) (by rfl) ?hy7 (by assumption) ?_
    case hy7 => ((intro w hSw; (try dsimp only at hSw); (try go_split_ands); go_simp); try with_reducible rfl)
    simp only [Act.put, List.setIfInBounds_toArray]; dsimp only [List.set_cons_zero, List.set_cons_succ]
    refine wpAnyH_ready (rs := [3, 9, 10]) (by as_aux_lemma => kernel_rfl) (by simp) ?_
    refine AllReadyH.cons rfl (fun K hK => ?_) (AllReadyH.cons rfl (fun K hK => ?_) (AllReadyH.cons rfl (fun K hK => ?_) AllReadyH.nil))
    · go_simp
      refine (HU1.out _ hHeld.1).mono ?_
      rintro e y1 ⟨a1, c1, rfl, u, I1⟩
      go_wp2_with fail
      refine hK.out _ _ ⟨hHeld.1.trans u, u.blk hHeld.2.1, u.blk hHeld.2.2⟩ (fun hHeld => ?_)
      clear hK K u
      refine wpAnyH_ready (rs := [8, 9, 10]) (by as_aux_lemma => kernel_rfl) (by simp) ?_
      refine AllReadyH.cons rfl (fun K hK => ?_) (AllReadyH.cons rfl (fun K hK => ?_) (AllReadyH.cons rfl (fun K hK => ?_) AllReadyH.nil))
      · go_simp
        refine (HU2.out _ hHeld.1).mono ?_
        rintro e y2 ⟨a2, c2, rfl, u, I2⟩
        go_wp2_with fail
        refine hK.out _ _ ⟨hHeld.1.trans u, u.blk hHeld.2.1, u.blk hHeld.2.2⟩ (fun hHeld => ?_)
        replace I1 := I1.up u
        clear hK K u
        refine wpAnyH_ready (rs := [9, 10]) (by as_aux_lemma => kernel_rfl) (by simp) ?_
        refine AllReadyH.cons rfl (fun K hK => ?_) (AllReadyH.cons rfl (fun K hK => ?_) AllReadyH.nil)
        · go_simp
          obtain ⟨y3, hY⟩ : ∃ Y, (y2.alloc (.cells #[.slice none 0 0] 26)) = Y := ⟨_, rfl⟩
          obtain ⟨b6, hb⟩ : ∃ b, y2.heap.size = b := ⟨_, rfl⟩
          have z6 : mblk y3 b6 = some (.cells #[.slice none 0 0] 26 (0, 0)) := by rw [← hY]; exact blk_new _ _ _ hb.symm
          have V : Up y2 y3 := by rw [← hY]; exact (Up.refl y2).alloc (.cells #[.slice none 0 0] 26)
          have l6 : w.heap.size + 2 ≤ b6 := by have h := blk_lt hHeld.2.2; have h2 : y2.heap.size = y2.heap.size := rfl; omega
          rw [hb, hY]
          refine hK.out _ _ ⟨hHeld.1.trans V, V.blk hHeld.2.1, V.blk hHeld.2.2⟩ (fun hHeld => ?_)
          replace I1 := I1.up V
          replace I2 := I2.up V
          clear hK K hY V hb
          refine wpAnyH_ready (rs := [10]) (by as_aux_lemma => kernel_rfl) (by simp) ?_
          refine AllReadyH.cons rfl (fun K hK => ?_) AllReadyH.nil
          go_simp
          obtain ⟨y4, hY⟩ : ∃ Y, (y3.alloc (.cells #[.slice none 0 0] 26)) = Y := ⟨_, rfl⟩
          obtain ⟨b7, hb⟩ : ∃ b, y3.heap.size = b := ⟨_, rfl⟩
          have z7 : mblk y4 b7 = some (.cells #[.slice none 0 0] 26 (0, 0)) := by rw [← hY]; exact blk_new _ _ _ hb.symm
          have V : Up y3 y4 := by rw [← hY]; exact (Up.refl y3).alloc (.cells #[.slice none 0 0] 26)
          have l7 : w.heap.size + 2 ≤ b7 := by have h := blk_lt hHeld.2.2; have h2 : y3.heap.size = y3.heap.size := rfl; omega
          have d67 : b6 ≠ b7 := by have h := blk_lt z6; omega
          rw [hb, hY]
          refine hK.out _ _ ⟨hHeld.1.trans V, V.blk hHeld.2.1, V.blk hHeld.2.2⟩ (fun hHeld => ?_)
          replace I1 := I1.up V
          replace I2 := I2.up V
          replace z6 := V.blk z6
          clear hK K hY V hb
          have f6 := cellB z6
          have g6 := frozB z6
          refine wpAnyH_ready (rs := [11]) (by as_aux_lemma => kernel_rfl) (by simp) ?_
          refine AllReadyH.cons rfl (fun K hK => ?_) AllReadyH.nil
          go_simp
          obtain ⟨s5, hY⟩ : ∃ Y, y4.setCell ⟨b6, 0, none⟩ (.slice a1 T c1) = Y := ⟨_, rfl⟩
          have z6' : mblk s5 b6 = some (.cells #[.slice a1 T c1] 26 (0, 0)) := by rw [← hY]; exact blk_put z6 0 _
          have z7' : mblk s5 b7 = some (.cells #[.slice none 0 0] 26 (0, 0)) := by rw [← hY, blk_set _ _ _ _ (by show b7 ≠ b6; omega)]; exact z7
          have I1' : Ints s5 (.slice a1 T c1) lo := by rw [← hY]; exact I1.set z6 _
          have I2' : Ints s5 (.slice a2 T c2) hi := by rw [← hY]; exact I2.set z6 _
          have V : Up w s5 := by rw [← hY]; exact Up.set hHeld.1 (by show w.heap.size ≤ b6; omega) _
          have k2' : mblk s5 w.heap.size = some (.cells #[.map (some m), .int .i64 p, .int .i64 far] 89 (0, 0)) := by rw [← hY, blk_set _ _ _ _ (by show w.heap.size ≠ b6; omega)]; exact hHeld.2.1
          have k3' : mblk s5 (w.heap.size + 1) = some (.cells #[.int .i64 T] 3 (0, 0)) := by rw [← hY, blk_set _ _ _ _ (by show w.heap.size + 1 ≠ b6; omega)]; exact hHeld.2.2
          rw [hY]
          refine hK.out _ _ ⟨V, k2', k3'⟩ (fun hHeld => ?_)
          clear hK K hY V k2' k3' z6 z7 I1 I2 f6 g6
          have f7 := cellB z7'
          have g7 := frozB z7'
          refine wpAnyH_ready (rs := [12]) (by as_aux_lemma => kernel_rfl) (by simp) ?_
          refine AllReadyH.cons rfl (fun K hK => ?_) AllReadyH.nil
          go_simp
          obtain ⟨t5, hY⟩ : ∃ Y, s5.setCell ⟨b7, 0, none⟩ (.slice a2 T c2) = Y := ⟨_, rfl⟩
          have z7 : mblk t5 b7 = some (.cells #[.slice a2 T c2] 26 (0, 0)) := by rw [← hY]; exact blk_put z7' 0 _
          have z6 : mblk t5 b6 = some (.cells #[.slice a1 T c1] 26 (0, 0)) := by rw [← hY, blk_set _ _ _ _ (by show b6 ≠ b7; omega)]; exact z6'
          have I1 : Ints t5 (.slice a1 T c1) lo := by rw [← hY]; exact I1'.set z7' _
          have I2 : Ints t5 (.slice a2 T c2) hi := by rw [← hY]; exact I2'.set z7' _
          have V : Up w t5 := by rw [← hY]; exact Up.set hHeld.1 (by show w.heap.size ≤ b7; omega) _
          have k2 : mblk t5 w.heap.size = some (.cells #[.map (some m), .int .i64 p, .int .i64 far] 89 (0, 0)) := by rw [← hY, blk_set _ _ _ _ (by show w.heap.size ≠ b7; omega)]; exact hHeld.2.1
          have k3 : mblk t5 (w.heap.size + 1) = some (.cells #[.int .i64 T] 3 (0, 0)) := by rw [← hY, blk_set _ _ _ _ (by show w.heap.size + 1 ≠ b7; omega)]; exact hHeld.2.2
          rw [hY]
          refine hK.out _ _ ⟨V, k2, k3⟩ (fun hHeld => ?_)
          clear hK K hY
          refine wpAnyH_done (by as_aux_lemma => kernel_rfl) ?_ _
          exact HKey.out _ b6 b7 a1 c1 a2 c2 ⟨V, k2, k3, z6, z7, I1, I2, l6, l7⟩
        · go_simp
          obtain ⟨y6, hY⟩ : ∃ Y, (y2.alloc (.cells #[.slice none 0 0] 26)) = Y := ⟨_, rfl⟩
          obtain ⟨b7, hb⟩ : ∃ b, y2.heap.size = b := ⟨_, rfl⟩
          have z7 : mblk y6 b7 = some (.cells #[.slice none 0 0] 26 (0, 0)) := by rw [← hY]; exact blk_new _ _ _ hb.symm
          have V : Up y2 y6 := by rw [← hY]; exact (Up.refl y2).alloc (.cells #[.slice none 0 0] 26)
          have l7 : w.heap.size + 2 ≤ b7 := by have h := blk_lt hHeld.2.2; have h2 : y2.heap.size = y2.heap.size := rfl; omega
          rw [hb, hY]
          refine hK.out _ _ ⟨hHeld.1.trans V, V.blk hHeld.2.1, V.blk hHeld.2.2⟩ (fun hHeld => ?_)
          replace I1 := I1.up V
          replace I2 := I2.up V
          clear hK K hY V hb
          refine wpAnyH_ready (rs := [9]) (by as_aux_lemma => kernel_rfl) (by simp) ?_
          refine AllReadyH.cons rfl (fun K hK => ?_) AllReadyH.nil
          go_simp
          obtain ⟨y7, hY⟩ : ∃ Y, (y6.alloc (.cells #[.slice none 0 0] 26)) = Y := ⟨_, rfl⟩
          obtain ⟨b6, hb⟩ : ∃ b, y6.heap.size = b := ⟨_, rfl⟩
          have z6 : mblk y7 b6 = some (.cells #[.slice none 0 0] 26 (0, 0)) := by rw [← hY]; exact blk_new _ _ _ hb.symm
          have V : Up y6 y7 := by rw [← hY]; exact (Up.refl y6).alloc (.cells #[.slice none 0 0] 26)
          have l6 : w.heap.size + 2 ≤ b6 := by have h := blk_lt hHeld.2.2; have h2 : y6.heap.size = y6.heap.size := rfl; omega
          have d67 : b6 ≠ b7 := by have h := blk_lt z7; omega
          rw [hb, hY]
          refine hK.out _ _ ⟨hHeld.1.trans V, V.blk hHeld.2.1, V.blk hHeld.2.2⟩ (fun hHeld => ?_)
          replace I1 := I1.up V
          replace I2 := I2.up V
          replace z7 := V.blk z7
          clear hK K hY V hb
          have f6 := cellB z6
          have g6 := frozB z6
          refine wpAnyH_ready (rs := [11]) (by as_aux_lemma => kernel_rfl) (by simp) ?_
          refine AllReadyH.cons rfl (fun K hK => ?_) AllReadyH.nil
          go_simp
          obtain ⟨s8, hY⟩ : ∃ Y, y7.setCell ⟨b6, 0, none⟩ (.slice a1 T c1) = Y := ⟨_, rfl⟩
          have z6' : mblk s8 b6 = some (.cells #[.slice a1 T c1] 26 (0, 0)) := by rw [← hY]; exact blk_put z6 0 _
          have z7' : mblk s8 b7 = some (.cells #[.slice none 0 0] 26 (0, 0)) := by rw [← hY, blk_set _ _ _ _ (by show b7 ≠ b6; omega)]; exact z7
          have I1' : Ints s8 (.slice a1 T c1) lo := by rw [← hY]; exact I1.set z6 _
          have I2' : Ints s8 (.slice a2 T c2) hi := by rw [← hY]; exact I2.set z6 _
          have V : Up w s8 := by rw [← hY]; exact Up.set hHeld.1 (by show w.heap.size ≤ b6; omega) _
          have k2' : mblk s8 w.heap.size = some (.cells #[.map (some m), .int .i64 p, .int .i64 far] 89 (0, 0)) := by rw [← hY, blk_set _ _ _ _ (by show w.heap.size ≠ b6; omega)]; exact hHeld.2.1
          have k3' : mblk s8 (w.heap.size + 1) = some (.cells #[.int .i64 T] 3 (0, 0)) := by rw [← hY, blk_set _ _ _ _ (by show w.heap.size + 1 ≠ b6; omega)]; exact hHeld.2.2
          rw [hY]
          refine hK.out _ _ ⟨V, k2', k3'⟩ (fun hHeld => ?_)
          clear hK K hY V k2' k3' z6 z7 I1 I2 f6 g6
          have f7 := cellB z7'
          have g7 := frozB z7'
          refine wpAnyH_ready (rs := [12]) (by as_aux_lemma => kernel_rfl) (by simp) ?_
          refine AllReadyH.cons rfl (fun K hK => ?_) AllReadyH.nil
          go_simp
          obtain ⟨t8, hY⟩ : ∃ Y, s8.setCell ⟨b7, 0, none⟩ (.slice a2 T c2) = Y := ⟨_, rfl⟩
          have z7 : mblk t8 b7 = some (.cells #[.slice a2 T c2] 26 (0, 0)) := by rw [← hY]; exact blk_put z7' 0 _
          have z6 : mblk t8 b6 = some (.cells #[.slice a1 T c1] 26 (0, 0)) := by rw [← hY, blk_set _ _ _ _ (by show b6 ≠ b7; omega)]; exact z6'
          have I1 : Ints t8 (.slice a1 T c1) lo := by rw [← hY]; exact I1'.set z7' _
          have I2 : Ints t8 (.slice a2 T c2) hi := by rw [← hY]; exact I2'.set z7' _
          have V : Up w t8 := by rw [← hY]; exact Up.set hHeld.1 (by show w.heap.size ≤ b7; omega) _
          have k2 : mblk t8 w.heap.size = some (.cells #[.map (some m), .int .i64 p, .int .i64 far] 89 (0, 0)) := by rw [← hY, blk_set _ _ _ _ (by show w.heap.size ≠ b7; omega)]; exact hHeld.2.1
          have k3 : mblk t8 (w.heap.size + 1) = some (.cells #[.int .i64 T] 3 (0, 0)) := by rw [← hY, blk_set _ _ _ _ (by show w.heap.size + 1 ≠ b7; omega)]; exact hHeld.2.2
          rw [hY]
          refine hK.out _ _ ⟨V, k2, k3⟩ (fun hHeld => ?_)
          clear hK K hY
          refine wpAnyH_done (by as_aux_lemma => kernel_rfl) ?_ _
          exact HKey.out _ b6 b7 a1 c1 a2 c2 ⟨V, k2, k3, z6, z7, I1, I2, l6, l7⟩
      · go_simp
        obtain ⟨y9, hY⟩ : ∃ Y, (y1.alloc (.cells #[.slice none 0 0] 26)) = Y := ⟨_, rfl⟩
        obtain ⟨b6, hb⟩ : ∃ b, y1.heap.size = b := ⟨_, rfl⟩
        have z6 : mblk y9 b6 = some (.cells #[.slice none 0 0] 26 (0, 0)) := by rw [← hY]; exact blk_new _ _ _ hb.symm
        have V : Up y1 y9 := by rw [← hY]; exact (Up.refl y1).alloc (.cells #[.slice none 0 0] 26)
        have l6 : w.heap.size + 2 ≤ b6 := by have h := blk_lt hHeld.2.2; have h2 : y1.heap.size = y1.heap.size := rfl; omega
        rw [hb, hY]
        refine hK.out _ _ ⟨hHeld.1.trans V, V.blk hHeld.2.1, V.blk hHeld.2.2⟩ (fun hHeld => ?_)
        replace I1 := I1.up V
        clear hK K hY V hb
        refine wpAnyH_ready (rs := [8, 10]) (by as_aux_lemma => kernel_rfl) (by simp) ?_
        refine AllReadyH.cons rfl (fun K hK => ?_) (AllReadyH.cons rfl (fun K hK => ?_) AllReadyH.nil)
        · go_simp
          refine (HU2.out _ hHeld.1).mono ?_
          rintro e y10 ⟨a2, c2, rfl, u, I2⟩
          go_wp2_with fail
          refine hK.out _ _ ⟨hHeld.1.trans u, u.blk hHeld.2.1, u.blk hHeld.2.2⟩ (fun hHeld => ?_)
          replace I1 := I1.up u
          replace z6 := u.blk z6
          clear hK K u
          refine wpAnyH_ready (rs := [10]) (by as_aux_lemma => kernel_rfl) (by simp) ?_
          refine AllReadyH.cons rfl (fun K hK => ?_) AllReadyH.nil
          go_simp
          obtain ⟨y11, hY⟩ : ∃ Y, (y10.alloc (.cells #[.slice none 0 0] 26)) = Y := ⟨_, rfl⟩
          obtain ⟨b7, hb⟩ : ∃ b, y10.heap.size = b := ⟨_, rfl⟩
          have z7 : mblk y11 b7 = some (.cells #[.slice none 0 0] 26 (0, 0)) := by rw [← hY]; exact blk_new _ _ _ hb.symm
          have V : Up y10 y11 := by rw [← hY]; exact (Up.refl y10).alloc (.cells #[.slice none 0 0] 26)
          have l7 : w.heap.size + 2 ≤ b7 := by have h := blk_lt hHeld.2.2; have h2 : y10.heap.size = y10.heap.size := rfl; omega
          have d67 : b6 ≠ b7 := by have h := blk_lt z6; omega
          rw [hb, hY]
          refine hK.out _ _ ⟨hHeld.1.trans V, V.blk hHeld.2.1, V.blk hHeld.2.2⟩ (fun hHeld => ?_)
          replace I1 := I1.up V
          replace I2 := I2.up V
          replace z6 := V.blk z6
          clear hK K hY V hb
          have f6 := cellB z6
          have g6 := frozB z6
          refine wpAnyH_ready (rs := [11]) (by as_aux_lemma => kernel_rfl) (by simp) ?_
          refine AllReadyH.cons rfl (fun K hK => ?_) AllReadyH.nil
          go_simp
          obtain ⟨s12, hY⟩ : ∃ Y, y11.setCell ⟨b6, 0, none⟩ (.slice a1 T c1) = Y := ⟨_, rfl⟩
          have z6' : mblk s12 b6 = some (.cells #[.slice a1 T c1] 26 (0, 0)) := by rw [← hY]; exact blk_put z6 0 _
          have z7' : mblk s12 b7 = some (.cells #[.slice none 0 0] 26 (0, 0)) := by rw [← hY, blk_set _ _ _ _ (by show b7 ≠ b6; omega)]; exact z7
          have I1' : Ints s12 (.slice a1 T c1) lo := by rw [← hY]; exact I1.set z6 _
          have I2' : Ints s12 (.slice a2 T c2) hi := by rw [← hY]; exact I2.set z6 _
          have V : Up w s12 := by rw [← hY]; exact Up.set hHeld.1 (by show w.heap.size ≤ b6; omega) _
          have k2' : mblk s12 w.heap.size = some (.cells #[.map (some m), .int .i64 p, .int .i64 far] 89 (0, 0)) := by rw [← hY, blk_set _ _ _ _ (by show w.heap.size ≠ b6; omega)]; exact hHeld.2.1
          have k3' : mblk s12 (w.heap.size + 1) = some (.cells #[.int .i64 T] 3 (0, 0)) := by rw [← hY, blk_set _ _ _ _ (by show w.heap.size + 1 ≠ b6; omega)]; exact hHeld.2.2
          rw [hY]
          refine hK.out _ _ ⟨V, k2', k3'⟩ (fun hHeld => ?_)
          clear hK K hY V k2' k3' z6 z7 I1 I2 f6 g6
          have f7 := cellB z7'
          have g7 := frozB z7'
          refine wpAnyH_ready (rs := [12]) (by as_aux_lemma => kernel_rfl) (by simp) ?_
          refine AllReadyH.cons rfl (fun K hK => ?_) AllReadyH.nil
          go_simp
          obtain ⟨t12, hY⟩ : ∃ Y, s12.setCell ⟨b7, 0, none⟩ (.slice a2 T c2) = Y := ⟨_, rfl⟩
          have z7 : mblk t12 b7 = some (.cells #[.slice a2 T c2] 26 (0, 0)) := by rw [← hY]; exact blk_put z7' 0 _
          have z6 : mblk t12 b6 = some (.cells #[.slice a1 T c1] 26 (0, 0)) := by rw [← hY, blk_set _ _ _ _ (by show b6 ≠ b7; omega)]; exact z6'
          have I1 : Ints t12 (.slice a1 T c1) lo := by rw [← hY]; exact I1'.set z7' _
          have I2 : Ints t12 (.slice a2 T c2) hi := by rw [← hY]; exact I2'.set z7' _
          have V : Up w t12 := by rw [← hY]; exact Up.set hHeld.1 (by show w.heap.size ≤ b7; omega) _
          have k2 : mblk t12 w.heap.size = some (.cells #[.map (some m), .int .i64 p, .int .i64 far] 89 (0, 0)) := by rw [← hY, blk_set _ _ _ _ (by show w.heap.size ≠ b7; omega)]; exact hHeld.2.1
          have k3 : mblk t12 (w.heap.size + 1) = some (.cells #[.int .i64 T] 3 (0, 0)) := by rw [← hY, blk_set _ _ _ _ (by show w.heap.size + 1 ≠ b7; omega)]; exact hHeld.2.2
          rw [hY]
          refine hK.out _ _ ⟨V, k2, k3⟩ (fun hHeld => ?_)
          clear hK K hY
          refine wpAnyH_done (by as_aux_lemma => kernel_rfl) ?_ _
          exact HKey.out _ b6 b7 a1 c1 a2 c2 ⟨V, k2, k3, z6, z7, I1, I2, l6, l7⟩
        · go_simp
          obtain ⟨y13, hY⟩ : ∃ Y, (y9.alloc (.cells #[.slice none 0 0] 26)) = Y := ⟨_, rfl⟩
          obtain ⟨b7, hb⟩ : ∃ b, y9.heap.size = b := ⟨_, rfl⟩
          have z7 : mblk y13 b7 = some (.cells #[.slice none 0 0] 26 (0, 0)) := by rw [← hY]; exact blk_new _ _ _ hb.symm
          have V : Up y9 y13 := by rw [← hY]; exact (Up.refl y9).alloc (.cells #[.slice none 0 0] 26)
          have l7 : w.heap.size + 2 ≤ b7 := by have h := blk_lt hHeld.2.2; have h2 : y9.heap.size = y9.heap.size := rfl; omega
          have d67 : b6 ≠ b7 := by have h := blk_lt z6; omega
          rw [hb, hY]
          refine hK.out _ _ ⟨hHeld.1.trans V, V.blk hHeld.2.1, V.blk hHeld.2.2⟩ (fun hHeld => ?_)
          replace I1 := I1.up V
          replace z6 := V.blk z6
          clear hK K hY V hb
          refine wpAnyH_ready (rs := [8]) (by as_aux_lemma => kernel_rfl) (by simp) ?_
          refine AllReadyH.cons rfl (fun K hK => ?_) AllReadyH.nil
          go_simp
          refine (HU2.out _ hHeld.1).mono ?_
          rintro e y14 ⟨a2, c2, rfl, u, I2⟩
          go_wp2_with fail
          refine hK.out _ _ ⟨hHeld.1.trans u, u.blk hHeld.2.1, u.blk hHeld.2.2⟩ (fun hHeld => ?_)
          replace I1 := I1.up u
          replace z6 := u.blk z6
          replace z7 := u.blk z7
          clear hK K u
          have f6 := cellB z6
          have g6 := frozB z6
          refine wpAnyH_ready (rs := [11]) (by as_aux_lemma => kernel_rfl) (by simp) ?_
          refine AllReadyH.cons rfl (fun K hK => ?_) AllReadyH.nil
          go_simp
          obtain ⟨s15, hY⟩ : ∃ Y, y14.setCell ⟨b6, 0, none⟩ (.slice a1 T c1) = Y := ⟨_, rfl⟩
          have z6' : mblk s15 b6 = some (.cells #[.slice a1 T c1] 26 (0, 0)) := by rw [← hY]; exact blk_put z6 0 _
          have z7' : mblk s15 b7 = some (.cells #[.slice none 0 0] 26 (0, 0)) := by rw [← hY, blk_set _ _ _ _ (by show b7 ≠ b6; omega)]; exact z7
          have I1' : Ints s15 (.slice a1 T c1) lo := by rw [← hY]; exact I1.set z6 _
          have I2' : Ints s15 (.slice a2 T c2) hi := by rw [← hY]; exact I2.set z6 _
          have V : Up w s15 := by rw [← hY]; exact Up.set hHeld.1 (by show w.heap.size ≤ b6; omega) _
          have k2' : mblk s15 w.heap.size = some (.cells #[.map (some m), .int .i64 p, .int .i64 far] 89 (0, 0)) := by rw [← hY, blk_set _ _ _ _ (by show w.heap.size ≠ b6; omega)]; exact hHeld.2.1
          have k3' : mblk s15 (w.heap.size + 1) = some (.cells #[.int .i64 T] 3 (0, 0)) := by rw [← hY, blk_set _ _ _ _ (by show w.heap.size + 1 ≠ b6; omega)]; exact hHeld.2.2
          rw [hY]
          refine hK.out _ _ ⟨V, k2', k3'⟩ (fun hHeld => ?_)
          clear hK K hY V k2' k3' z6 z7 I1 I2 f6 g6
          have f7 := cellB z7'
          have g7 := frozB z7'
          refine wpAnyH_ready (rs := [12]) (by as_aux_lemma => kernel_rfl) (by simp) ?_
          refine AllReadyH.cons rfl (fun K hK => ?_) AllReadyH.nil
          go_simp
          obtain ⟨t15, hY⟩ : ∃ Y, s15.setCell ⟨b7, 0, none⟩ (.slice a2 T c2) = Y := ⟨_, rfl⟩
          have z7 : mblk t15 b7 = some (.cells #[.slice a2 T c2] 26 (0, 0)) := by rw [← hY]; exact blk_put z7' 0 _
          have z6 : mblk t15 b6 = some (.cells #[.slice a1 T c1] 26 (0, 0)) := by rw [← hY, blk_set _ _ _ _ (by show b6 ≠ b7; omega)]; exact z6'
          have I1 : Ints t15 (.slice a1 T c1) lo := by rw [← hY]; exact I1'.set z7' _
          have I2 : Ints t15 (.slice a2 T c2) hi := by rw [← hY]; exact I2'.set z7' _
          have V : Up w t15 := by rw [← hY]; exact Up.set hHeld.1 (by show w.heap.size ≤ b7; omega) _
          have k2 : mblk t15 w.heap.size = some (.cells #[.map (some m), .int .i64 p, .int .i64 far] 89 (0, 0)) := by rw [← hY, blk_set _ _ _ _ (by show w.heap.size ≠ b7; omega)]; exact hHeld.2.1
          have k3 : mblk t15 (w.heap.size + 1) = some (.cells #[.int .i64 T] 3 (0, 0)) := by rw [← hY, blk_set _ _ _ _ (by show w.heap.size + 1 ≠ b7; omega)]; exact hHeld.2.2
          rw [hY]
          refine hK.out _ _ ⟨V, k2, k3⟩ (fun hHeld => ?_)
          clear hK K hY
          refine wpAnyH_done (by as_aux_lemma => kernel_rfl) ?_ _
          exact HKey.out _ b6 b7 a1 c1 a2 c2 ⟨V, k2, k3, z6, z7, I1, I2, l6, l7⟩
      · go_simp
        obtain ⟨y16, hY⟩ : ∃ Y, (y1.alloc (.cells #[.slice none 0 0] 26)) = Y := ⟨_, rfl⟩
        obtain ⟨b7, hb⟩ : ∃ b, y1.heap.size = b := ⟨_, rfl⟩
        have z7 : mblk y16 b7 = some (.cells #[.slice none 0 0] 26 (0, 0)) := by rw [← hY]; exact blk_new _ _ _ hb.symm
        have V : Up y1 y16 := by rw [← hY]; exact (Up.refl y1).alloc (.cells #[.slice none 0 0] 26)
        have l7 : w.heap.size + 2 ≤ b7 := by have h := blk_lt hHeld.2.2; have h2 : y1.heap.size = y1.heap.size := rfl; omega
        rw [hb, hY]
        refine hK.out _ _ ⟨hHeld.1.trans V, V.blk hHeld.2.1, V.blk hHeld.2.2⟩ (fun hHeld => ?_)
        replace I1 := I1.up V
        clear hK K hY V hb
        refine wpAnyH_ready (rs := [8, 9]) (by as_aux_lemma => kernel_rfl) (by simp) ?_
        refine AllReadyH.cons rfl (fun K hK => ?_) (AllReadyH.cons rfl (fun K hK => ?_) AllReadyH.nil)
        · go_simp
          refine (HU2.out _ hHeld.1).mono ?_
          rintro e y17 ⟨a2, c2, rfl, u, I2⟩
          go_wp2_with fail
          refine hK.out _ _ ⟨hHeld.1.trans u, u.blk hHeld.2.1, u.blk hHeld.2.2⟩ (fun hHeld => ?_)
          replace I1 := I1.up u
          replace z7 := u.blk z7
          clear hK K u
          refine wpAnyH_ready (rs := [9]) (by as_aux_lemma => kernel_rfl) (by simp) ?_
          refine AllReadyH.cons rfl (fun K hK => ?_) AllReadyH.nil
          go_simp
          obtain ⟨y18, hY⟩ : ∃ Y, (y17.alloc (.cells #[.slice none 0 0] 26)) = Y := ⟨_, rfl⟩
          obtain ⟨b6, hb⟩ : ∃ b, y17.heap.size = b := ⟨_, rfl⟩
          have z6 : mblk y18 b6 = some (.cells #[.slice none 0 0] 26 (0, 0)) := by rw [← hY]; exact blk_new _ _ _ hb.symm
          have V : Up y17 y18 := by rw [← hY]; exact (Up.refl y17).alloc (.cells #[.slice none 0 0] 26)
          have l6 : w.heap.size + 2 ≤ b6 := by have h := blk_lt hHeld.2.2; have h2 : y17.heap.size = y17.heap.size := rfl; omega
          have d67 : b6 ≠ b7 := by have h := blk_lt z7; omega
          rw [hb, hY]
          refine hK.out _ _ ⟨hHeld.1.trans V, V.blk hHeld.2.1, V.blk hHeld.2.2⟩ (fun hHeld => ?_)
          replace I1 := I1.up V
          replace I2 := I2.up V
          replace z7 := V.blk z7
          clear hK K hY V hb
          have f6 := cellB z6
          have g6 := frozB z6
          refine wpAnyH_ready (rs := [11]) (by as_aux_lemma => kernel_rfl) (by simp) ?_
          refine AllReadyH.cons rfl (fun K hK => ?_) AllReadyH.nil
          go_simp
          obtain ⟨s19, hY⟩ : ∃ Y, y18.setCell ⟨b6, 0, none⟩ (.slice a1 T c1) = Y := ⟨_, rfl⟩
          have z6' : mblk s19 b6 = some (.cells #[.slice a1 T c1] 26 (0, 0)) := by rw [← hY]; exact blk_put z6 0 _
          have z7' : mblk s19 b7 = some (.cells #[.slice none 0 0] 26 (0, 0)) := by rw [← hY, blk_set _ _ _ _ (by show b7 ≠ b6; omega)]; exact z7
          have I1' : Ints s19 (.slice a1 T c1) lo := by rw [← hY]; exact I1.set z6 _
          have I2' : Ints s19 (.slice a2 T c2) hi := by rw [← hY]; exact I2.set z6 _
          have V : Up w s19 := by rw [← hY]; exact Up.set hHeld.1 (by show w.heap.size ≤ b6; omega) _
          have k2' : mblk s19 w.heap.size = some (.cells #[.map (some m), .int .i64 p, .int .i64 far] 89 (0, 0)) := by rw [← hY, blk_set _ _ _ _ (by show w.heap.size ≠ b6; omega)]; exact hHeld.2.1
          have k3' : mblk s19 (w.heap.size + 1) = some (.cells #[.int .i64 T] 3 (0, 0)) := by rw [← hY, blk_set _ _ _ _ (by show w.heap.size + 1 ≠ b6; omega)]; exact hHeld.2.2
          rw [hY]
          refine hK.out _ _ ⟨V, k2', k3'⟩ (fun hHeld => ?_)
          clear hK K hY V k2' k3' z6 z7 I1 I2 f6 g6
          have f7 := cellB z7'
          have g7 := frozB z7'
          refine wpAnyH_ready (rs := [12]) (by as_aux_lemma => kernel_rfl) (by simp) ?_
          refine AllReadyH.cons rfl (fun K hK => ?_) AllReadyH.nil
          go_simp
          obtain ⟨t19, hY⟩ : ∃ Y, s19.setCell ⟨b7, 0, none⟩ (.slice a2 T c2) = Y := ⟨_, rfl⟩
          have z7 : mblk t19 b7 = some (.cells #[.slice a2 T c2] 26 (0, 0)) := by rw [← hY]; exact blk_put z7' 0 _
          have z6 : mblk t19 b6 = some (.cells #[.slice a1 T c1] 26 (0, 0)) := by rw [← hY, blk_set _ _ _ _ (by show b6 ≠ b7; omega)]; exact z6'
          have I1 : Ints t19 (.slice a1 T c1) lo := by rw [← hY]; exact I1'.set z7' _
          have I2 : Ints t19 (.slice a2 T c2) hi := by rw [← hY]; exact I2'.set z7' _
          have V : Up w t19 := by rw [← hY]; exact Up.set hHeld.1 (by show w.heap.size ≤ b7; omega) _
          have k2 : mblk t19 w.heap.size = some (.cells #[.map (some m), .int .i64 p, .int .i64 far] 89 (0, 0)) := by rw [← hY, blk_set _ _ _ _ (by show w.heap.size ≠ b7; omega)]; exact hHeld.2.1
          have k3 : mblk t19 (w.heap.size + 1) = some (.cells #[.int .i64 T] 3 (0, 0)) := by rw [← hY, blk_set _ _ _ _ (by show w.heap.size + 1 ≠ b7; omega)]; exact hHeld.2.2
          rw [hY]
          refine hK.out _ _ ⟨V, k2, k3⟩ (fun hHeld => ?_)
          clear hK K hY
          refine wpAnyH_done (by as_aux_lemma => kernel_rfl) ?_ _
          exact HKey.out _ b6 b7 a1 c1 a2 c2 ⟨V, k2, k3, z6, z7, I1, I2, l6, l7⟩
        · go_simp
          obtain ⟨y20, hY⟩ : ∃ Y, (y16.alloc (.cells #[.slice none 0 0] 26)) = Y := ⟨_, rfl⟩
          obtain ⟨b6, hb⟩ : ∃ b, y16.heap.size = b := ⟨_, rfl⟩
          have z6 : mblk y20 b6 = some (.cells #[.slice none 0 0] 26 (0, 0)) := by rw [← hY]; exact blk_new _ _ _ hb.symm
          have V : Up y16 y20 := by rw [← hY]; exact (Up.refl y16).alloc (.cells #[.slice none 0 0] 26)
          have l6 : w.heap.size + 2 ≤ b6 := by have h := blk_lt hHeld.2.2; have h2 : y16.heap.size = y16.heap.size := rfl; omega
          have d67 : b6 ≠ b7 := by have h := blk_lt z7; omega
          rw [hb, hY]
          refine hK.out _ _ ⟨hHeld.1.trans V, V.blk hHeld.2.1, V.blk hHeld.2.2⟩ (fun hHeld => ?_)
          replace I1 := I1.up V
          replace z7 := V.blk z7
          clear hK K hY V hb
          refine wpAnyH_ready (rs := [8]) (by as_aux_lemma => kernel_rfl) (by simp) ?_
          refine AllReadyH.cons rfl (fun K hK => ?_) AllReadyH.nil
          go_simp
          refine (HU2.out _ hHeld.1).mono ?_
          rintro e y21 ⟨a2, c2, rfl, u, I2⟩
          go_wp2_with fail
          refine hK.out _ _ ⟨hHeld.1.trans u, u.blk hHeld.2.1, u.blk hHeld.2.2⟩ (fun hHeld => ?_)
          replace I1 := I1.up u
          replace z7 := u.blk z7
          replace z6 := u.blk z6
          clear hK K u
          have f6 := cellB z6
          have g6 := frozB z6
          refine wpAnyH_ready (rs := [11]) (by as_aux_lemma => kernel_rfl) (by simp) ?_
          refine AllReadyH.cons rfl (fun K hK => ?_) AllReadyH.nil
          go_simp
          obtain ⟨s22, hY⟩ : ∃ Y, y21.setCell ⟨b6, 0, none⟩ (.slice a1 T c1) = Y := ⟨_, rfl⟩
          have z6' : mblk s22 b6 = some (.cells #[.slice a1 T c1] 26 (0, 0)) := by rw [← hY]; exact blk_put z6 0 _
          have z7' : mblk s22 b7 = some (.cells #[.slice none 0 0] 26 (0, 0)) := by rw [← hY, blk_set _ _ _ _ (by show b7 ≠ b6; omega)]; exact z7
          have I1' : Ints s22 (.slice a1 T c1) lo := by rw [← hY]; exact I1.set z6 _
          have I2' : Ints s22 (.slice a2 T c2) hi := by rw [← hY]; exact I2.set z6 _
          have V : Up w s22 := by rw [← hY]; exact Up.set hHeld.1 (by show w.heap.size ≤ b6; omega) _
          have k2' : mblk s22 w.heap.size = some (.cells #[.map (some m), .int .i64 p, .int .i64 far] 89 (0, 0)) := by rw [← hY, blk_set _ _ _ _ (by show w.heap.size ≠ b6; omega)]; exact hHeld.2.1
          have k3' : mblk s22 (w.heap.size + 1) = some (.cells #[.int .i64 T] 3 (0, 0)) := by rw [← hY, blk_set _ _ _ _ (by show w.heap.size + 1 ≠ b6; omega)]; exact hHeld.2.2
          rw [hY]
          refine hK.out _ _ ⟨V, k2', k3'⟩ (fun hHeld => ?_)
          clear hK K hY V k2' k3' z6 z7 I1 I2 f6 g6
          have f7 := cellB z7'
          have g7 := frozB z7'
          refine wpAnyH_ready (rs := [12]) (by as_aux_lemma => kernel_rfl) (by simp) ?_
          refine AllReadyH.cons rfl (fun K hK => ?_) AllReadyH.nil
          go_simp
          obtain ⟨t22, hY⟩ : ∃ Y, s22.setCell ⟨b7, 0, none⟩ (.slice a2 T c2) = Y := ⟨_, rfl⟩
          have z7 : mblk t22 b7 = some (.cells #[.slice a2 T c2] 26 (0, 0)) := by rw [← hY]; exact blk_put z7' 0 _
          have z6 : mblk t22 b6 = some (.cells #[.slice a1 T c1] 26 (0, 0)) := by rw [← hY, blk_set _ _ _ _ (by show b6 ≠ b7; omega)]; exact z6'
          have I1 : Ints t22 (.slice a1 T c1) lo := by rw [← hY]; exact I1'.set z7' _
          have I2 : Ints t22 (.slice a2 T c2) hi := by rw [← hY]; exact I2'.set z7' _
          have V : Up w t22 := by rw [← hY]; exact Up.set hHeld.1 (by show w.heap.size ≤ b7; omega) _
          have k2 : mblk t22 w.heap.size = some (.cells #[.map (some m), .int .i64 p, .int .i64 far] 89 (0, 0)) := by rw [← hY, blk_set _ _ _ _ (by show w.heap.size ≠ b7; omega)]; exact hHeld.2.1
          have k3 : mblk t22 (w.heap.size + 1) = some (.cells #[.int .i64 T] 3 (0, 0)) := by rw [← hY, blk_set _ _ _ _ (by show w.heap.size + 1 ≠ b7; omega)]; exact hHeld.2.2
          rw [hY]
          refine hK.out _ _ ⟨V, k2, k3⟩ (fun hHeld => ?_)
          clear hK K hY
          refine wpAnyH_done (by as_aux_lemma => kernel_rfl) ?_ _
          exact HKey.out _ b6 b7 a1 c1 a2 c2 ⟨V, k2, k3, z6, z7, I1, I2, l6, l7⟩
    · go_simp
      obtain ⟨y23, hY⟩ : ∃ Y, (w1.alloc (.cells #[.slice none 0 0] 26)).drew = Y := ⟨_, rfl⟩
      obtain ⟨b6, hb⟩ : ∃ b, w1.heap.size = b := ⟨_, rfl⟩
      have z6 : mblk y23 b6 = some (.cells #[.slice none 0 0] 26 (0, 0)) := by rw [← hY, blk_drew]; exact blk_new _ _ _ hb.symm
      have V : Up w1.drew y23 := by rw [← hY]; exact (Up.refl w1.drew).alloc (.cells #[.slice none 0 0] 26)
      have l6 : w.heap.size + 2 ≤ b6 := by have h := blk_lt hHeld.2.2; have h2 : w1.drew.heap.size = w1.heap.size := rfl; omega
      rw [hb, hY]
      refine hK.out _ _ ⟨hHeld.1.trans V, V.blk hHeld.2.1, V.blk hHeld.2.2⟩ (fun hHeld => ?_)
      clear hK K hY V hb
      refine wpAnyH_ready (rs := [3, 10]) (by as_aux_lemma => kernel_rfl) (by simp) ?_
      refine AllReadyH.cons rfl (fun K hK => ?_) (AllReadyH.cons rfl (fun K hK => ?_) AllReadyH.nil)
      · go_simp
        refine (HU1.out _ hHeld.1).mono ?_
        rintro e y24 ⟨a1, c1, rfl, u, I1⟩
        go_wp2_with fail
        refine hK.out _ _ ⟨hHeld.1.trans u, u.blk hHeld.2.1, u.blk hHeld.2.2⟩ (fun hHeld => ?_)
        replace z6 := u.blk z6
        clear hK K u
        refine wpAnyH_ready (rs := [8, 10]) (by as_aux_lemma => kernel_rfl) (by simp) ?_
        refine AllReadyH.cons rfl (fun K hK => ?_) (AllReadyH.cons rfl (fun K hK => ?_) AllReadyH.nil)
        · go_simp
          refine (HU2.out _ hHeld.1).mono ?_
          rintro e y25 ⟨a2, c2, rfl, u, I2⟩
          go_wp2_with fail
          refine hK.out _ _ ⟨hHeld.1.trans u, u.blk hHeld.2.1, u.blk hHeld.2.2⟩ (fun hHeld => ?_)
          replace I1 := I1.up u
          replace z6 := u.blk z6
          clear hK K u
          refine wpAnyH_ready (rs := [10]) (by as_aux_lemma => kernel_rfl) (by simp) ?_
          refine AllReadyH.cons rfl (fun K hK => ?_) AllReadyH.nil
          go_simp
          obtain ⟨y26, hY⟩ : ∃ Y, (y25.alloc (.cells #[.slice none 0 0] 26)) = Y := ⟨_, rfl⟩
          obtain ⟨b7, hb⟩ : ∃ b, y25.heap.size = b := ⟨_, rfl⟩
          have z7 : mblk y26 b7 = some (.cells #[.slice none 0 0] 26 (0, 0)) := by rw [← hY]; exact blk_new _ _ _ hb.symm
          have V : Up y25 y26 := by rw [← hY]; exact (Up.refl y25).alloc (.cells #[.slice none 0 0] 26)
          have l7 : w.heap.size + 2 ≤ b7 := by have h := blk_lt hHeld.2.2; have h2 : y25.heap.size = y25.heap.size := rfl; omega
          have d67 : b6 ≠ b7 := by have h := blk_lt z6; omega
          rw [hb, hY]
          refine hK.out _ _ ⟨hHeld.1.trans V, V.blk hHeld.2.1, V.blk hHeld.2.2⟩ (fun hHeld => ?_)
          replace I1 := I1.up V
          replace I2 := I2.up V
          replace z6 := V.blk z6
          clear hK K hY V hb
          have f6 := cellB z6
          have g6 := frozB z6
          refine wpAnyH_ready (rs := [11]) (by as_aux_lemma => kernel_rfl) (by simp) ?_
          refine AllReadyH.cons rfl (fun K hK => ?_) AllReadyH.nil
          go_simp
          obtain ⟨s27, hY⟩ : ∃ Y, y26.setCell ⟨b6, 0, none⟩ (.slice a1 T c1) = Y := ⟨_, rfl⟩
          have z6' : mblk s27 b6 = some (.cells #[.slice a1 T c1] 26 (0, 0)) := by rw [← hY]; exact blk_put z6 0 _
          have z7' : mblk s27 b7 = some (.cells #[.slice none 0 0] 26 (0, 0)) := by rw [← hY, blk_set _ _ _ _ (by show b7 ≠ b6; omega)]; exact z7
          have I1' : Ints s27 (.slice a1 T c1) lo := by rw [← hY]; exact I1.set z6 _
          have I2' : Ints s27 (.slice a2 T c2) hi := by rw [← hY]; exact I2.set z6 _
          have V : Up w s27 := by rw [← hY]; exact Up.set hHeld.1 (by show w.heap.size ≤ b6; omega) _
          have k2' : mblk s27 w.heap.size = some (.cells #[.map (some m), .int .i64 p, .int .i64 far] 89 (0, 0)) := by rw [← hY, blk_set _ _ _ _ (by show w.heap.size ≠ b6; omega)]; exact hHeld.2.1
          have k3' : mblk s27 (w.heap.size + 1) = some (.cells #[.int .i64 T] 3 (0, 0)) := by rw [← hY, blk_set _ _ _ _ (by show w.heap.size + 1 ≠ b6; omega)]; exact hHeld.2.2
          rw [hY]
          refine hK.out _ _ ⟨V, k2', k3'⟩ (fun hHeld => ?_)
          clear hK K hY V k2' k3' z6 z7 I1 I2 f6 g6
          have f7 := cellB z7'
          have g7 := frozB z7'
          refine wpAnyH_ready (rs := [12]) (by as_aux_lemma => kernel_rfl) (by simp) ?_
          refine AllReadyH.cons rfl (fun K hK => ?_) AllReadyH.nil
          go_simp
          obtain ⟨t27, hY⟩ : ∃ Y, s27.setCell ⟨b7, 0, none⟩ (.slice a2 T c2) = Y := ⟨_, rfl⟩
          have z7 : mblk t27 b7 = some (.cells #[.slice a2 T c2] 26 (0, 0)) := by rw [← hY]; exact blk_put z7' 0 _
          have z6 : mblk t27 b6 = some (.cells #[.slice a1 T c1] 26 (0, 0)) := by rw [← hY, blk_set _ _ _ _ (by show b6 ≠ b7; omega)]; exact z6'
          have I1 : Ints t27 (.slice a1 T c1) lo := by rw [← hY]; exact I1'.set z7' _
          have I2 : Ints t27 (.slice a2 T c2) hi := by rw [← hY]; exact I2'.set z7' _
          have V : Up w t27 := by rw [← hY]; exact Up.set hHeld.1 (by show w.heap.size ≤ b7; omega) _
          have k2 : mblk t27 w.heap.size = some (.cells #[.map (some m), .int .i64 p, .int .i64 far] 89 (0, 0)) := by rw [← hY, blk_set _ _ _ _ (by show w.heap.size ≠ b7; omega)]; exact hHeld.2.1
          have k3 : mblk t27 (w.heap.size + 1) = some (.cells #[.int .i64 T] 3 (0, 0)) := by rw [← hY, blk_set _ _ _ _ (by show w.heap.size + 1 ≠ b7; omega)]; exact hHeld.2.2
          rw [hY]
          refine hK.out _ _ ⟨V, k2, k3⟩ (fun hHeld => ?_)
          clear hK K hY
          refine wpAnyH_done (by as_aux_lemma => kernel_rfl) ?_ _
          exact HKey.out _ b6 b7 a1 c1 a2 c2 ⟨V, k2, k3, z6, z7, I1, I2, l6, l7⟩
        · go_simp
          obtain ⟨y28, hY⟩ : ∃ Y, (y24.alloc (.cells #[.slice none 0 0] 26)) = Y := ⟨_, rfl⟩
          obtain ⟨b7, hb⟩ : ∃ b, y24.heap.size = b := ⟨_, rfl⟩
          have z7 : mblk y28 b7 = some (.cells #[.slice none 0 0] 26 (0, 0)) := by rw [← hY]; exact blk_new _ _ _ hb.symm
          have V : Up y24 y28 := by rw [← hY]; exact (Up.refl y24).alloc (.cells #[.slice none 0 0] 26)
          have l7 : w.heap.size + 2 ≤ b7 := by have h := blk_lt hHeld.2.2; have h2 : y24.heap.size = y24.heap.size := rfl; omega
          have d67 : b6 ≠ b7 := by have h := blk_lt z6; omega
          rw [hb, hY]
          refine hK.out _ _ ⟨hHeld.1.trans V, V.blk hHeld.2.1, V.blk hHeld.2.2⟩ (fun hHeld => ?_)
          replace I1 := I1.up V
          replace z6 := V.blk z6
          clear hK K hY V hb
          refine wpAnyH_ready (rs := [8]) (by as_aux_lemma => kernel_rfl) (by simp) ?_
          refine AllReadyH.cons rfl (fun K hK => ?_) AllReadyH.nil
          go_simp
          refine (HU2.out _ hHeld.1).mono ?_
          rintro e y29 ⟨a2, c2, rfl, u, I2⟩
          go_wp2_with fail
          refine hK.out _ _ ⟨hHeld.1.trans u, u.blk hHeld.2.1, u.blk hHeld.2.2⟩ (fun hHeld => ?_)
          replace I1 := I1.up u
          replace z6 := u.blk z6
          replace z7 := u.blk z7
          clear hK K u
          have f6 := cellB z6
          have g6 := frozB z6
          refine wpAnyH_ready (rs := [11]) (by as_aux_lemma => kernel_rfl) (by simp) ?_
          refine AllReadyH.cons rfl (fun K hK => ?_) AllReadyH.nil
          go_simp
          obtain ⟨s30, hY⟩ : ∃ Y, y29.setCell ⟨b6, 0, none⟩ (.slice a1 T c1) = Y := ⟨_, rfl⟩
          have z6' : mblk s30 b6 = some (.cells #[.slice a1 T c1] 26 (0, 0)) := by rw [← hY]; exact blk_put z6 0 _
          have z7' : mblk s30 b7 = some (.cells #[.slice none 0 0] 26 (0, 0)) := by rw [← hY, blk_set _ _ _ _ (by show b7 ≠ b6; omega)]; exact z7
          have I1' : Ints s30 (.slice a1 T c1) lo := by rw [← hY]; exact I1.set z6 _
          have I2' : Ints s30 (.slice a2 T c2) hi := by rw [← hY]; exact I2.set z6 _
          have V : Up w s30 := by rw [← hY]; exact Up.set hHeld.1 (by show w.heap.size ≤ b6; omega) _
          have k2' : mblk s30 w.heap.size = some (.cells #[.map (some m), .int .i64 p, .int .i64 far] 89 (0, 0)) := by rw [← hY, blk_set _ _ _ _ (by show w.heap.size ≠ b6; omega)]; exact hHeld.2.1
          have k3' : mblk s30 (w.heap.size + 1) = some (.cells #[.int .i64 T] 3 (0, 0)) := by rw [← hY, blk_set _ _ _ _ (by show w.heap.size + 1 ≠ b6; omega)]; exact hHeld.2.2
          rw [hY]
          refine hK.out _ _ ⟨V, k2', k3'⟩ (fun hHeld => ?_)
          clear hK K hY V k2' k3' z6 z7 I1 I2 f6 g6
          have f7 := cellB z7'
          have g7 := frozB z7'
          refine wpAnyH_ready (rs := [12]) (by as_aux_lemma => kernel_rfl) (by simp) ?_
          refine AllReadyH.cons rfl (fun K hK => ?_) AllReadyH.nil
          go_simp
          obtain ⟨t30, hY⟩ : ∃ Y, s30.setCell ⟨b7, 0, none⟩ (.slice a2 T c2) = Y := ⟨_, rfl⟩
          have z7 : mblk t30 b7 = some (.cells #[.slice a2 T c2] 26 (0, 0)) := by rw [← hY]; exact blk_put z7' 0 _
          have z6 : mblk t30 b6 = some (.cells #[.slice a1 T c1] 26 (0, 0)) := by rw [← hY, blk_set _ _ _ _ (by show b6 ≠ b7; omega)]; exact z6'
          have I1 : Ints t30 (.slice a1 T c1) lo := by rw [← hY]; exact I1'.set z7' _
          have I2 : Ints t30 (.slice a2 T c2) hi := by rw [← hY]; exact I2'.set z7' _
          have V : Up w t30 := by rw [← hY]; exact Up.set hHeld.1 (by show w.heap.size ≤ b7; omega) _
          have k2 : mblk t30 w.heap.size = some (.cells #[.map (some m), .int .i64 p, .int .i64 far] 89 (0, 0)) := by rw [← hY, blk_set _ _ _ _ (by show w.heap.size ≠ b7; omega)]; exact hHeld.2.1
          have k3 : mblk t30 (w.heap.size + 1) = some (.cells #[.int .i64 T] 3 (0, 0)) := by rw [← hY, blk_set _ _ _ _ (by show w.heap.size + 1 ≠ b7; omega)]; exact hHeld.2.2
          rw [hY]
          refine hK.out _ _ ⟨V, k2, k3⟩ (fun hHeld => ?_)
          clear hK K hY
          refine wpAnyH_done (by as_aux_lemma => kernel_rfl) ?_ _
          exact HKey.out _ b6 b7 a1 c1 a2 c2 ⟨V, k2, k3, z6, z7, I1, I2, l6, l7⟩
      · go_simp
        obtain ⟨y31, hY⟩ : ∃ Y, (y23.alloc (.cells #[.slice none 0 0] 26)) = Y := ⟨_, rfl⟩
        obtain ⟨b7, hb⟩ : ∃ b, y23.heap.size = b := ⟨_, rfl⟩
        have z7 : mblk y31 b7 = some (.cells #[.slice none 0 0] 26 (0, 0)) := by rw [← hY]; exact blk_new _ _ _ hb.symm
        have V : Up y23 y31 := by rw [← hY]; exact (Up.refl y23).alloc (.cells #[.slice none 0 0] 26)
        have l7 : w.heap.size + 2 ≤ b7 := by have h := blk_lt hHeld.2.2; have h2 : y23.heap.size = y23.heap.size := rfl; omega
        have d67 : b6 ≠ b7 := by have h := blk_lt z6; omega
        rw [hb, hY]
        refine hK.out _ _ ⟨hHeld.1.trans V, V.blk hHeld.2.1, V.blk hHeld.2.2⟩ (fun hHeld => ?_)
        replace z6 := V.blk z6
        clear hK K hY V hb
        refine wpAnyH_ready (rs := [3]) (by as_aux_lemma => kernel_rfl) (by simp) ?_
        refine AllReadyH.cons rfl (fun K hK => ?_) AllReadyH.nil
        go_simp
        refine (HU1.out _ hHeld.1).mono ?_
        rintro e y32 ⟨a1, c1, rfl, u, I1⟩
        go_wp2_with fail
        refine hK.out _ _ ⟨hHeld.1.trans u, u.blk hHeld.2.1, u.blk hHeld.2.2⟩ (fun hHeld => ?_)
        replace z6 := u.blk z6
        replace z7 := u.blk z7
        clear hK K u
        refine wpAnyH_ready (rs := [8]) (by as_aux_lemma => kernel_rfl) (by simp) ?_
        refine AllReadyH.cons rfl (fun K hK => ?_) AllReadyH.nil
        go_simp
        refine (HU2.out _ hHeld.1).mono ?_
        rintro e y33 ⟨a2, c2, rfl, u, I2⟩
        go_wp2_with fail
        refine hK.out _ _ ⟨hHeld.1.trans u, u.blk hHeld.2.1, u.blk hHeld.2.2⟩ (fun hHeld => ?_)
        replace I1 := I1.up u
        replace z6 := u.blk z6
        replace z7 := u.blk z7
        clear hK K u
        have f6 := cellB z6
        have g6 := frozB z6
        refine wpAnyH_ready (rs := [11]) (by as_aux_lemma => kernel_rfl) (by simp) ?_
        refine AllReadyH.cons rfl (fun K hK => ?_) AllReadyH.nil
        go_simp
        obtain ⟨s34, hY⟩ : ∃ Y, y33.setCell ⟨b6, 0, none⟩ (.slice a1 T c1) = Y := ⟨_, rfl⟩
        have z6' : mblk s34 b6 = some (.cells #[.slice a1 T c1] 26 (0, 0)) := by rw [← hY]; exact blk_put z6 0 _
        have z7' : mblk s34 b7 = some (.cells #[.slice none 0 0] 26 (0, 0)) := by rw [← hY, blk_set _ _ _ _ (by show b7 ≠ b6; omega)]; exact z7
        have I1' : Ints s34 (.slice a1 T c1) lo := by rw [← hY]; exact I1.set z6 _
        have I2' : Ints s34 (.slice a2 T c2) hi := by rw [← hY]; exact I2.set z6 _
        have V : Up w s34 := by rw [← hY]; exact Up.set hHeld.1 (by show w.heap.size ≤ b6; omega) _
        have k2' : mblk s34 w.heap.size = some (.cells #[.map (some m), .int .i64 p, .int .i64 far] 89 (0, 0)) := by rw [← hY, blk_set _ _ _ _ (by show w.heap.size ≠ b6; omega)]; exact hHeld.2.1
        have k3' : mblk s34 (w.heap.size + 1) = some (.cells #[.int .i64 T] 3 (0, 0)) := by rw [← hY, blk_set _ _ _ _ (by show w.heap.size + 1 ≠ b6; omega)]; exact hHeld.2.2
        rw [hY]
        refine hK.out _ _ ⟨V, k2', k3'⟩ (fun hHeld => ?_)
        clear hK K hY V k2' k3' z6 z7 I1 I2 f6 g6
        have f7 := cellB z7'
        have g7 := frozB z7'
        refine wpAnyH_ready (rs := [12]) (by as_aux_lemma => kernel_rfl) (by simp) ?_
        refine AllReadyH.cons rfl (fun K hK => ?_) AllReadyH.nil
        go_simp
        obtain ⟨t34, hY⟩ : ∃ Y, s34.setCell ⟨b7, 0, none⟩ (.slice a2 T c2) = Y := ⟨_, rfl⟩
        have z7 : mblk t34 b7 = some (.cells #[.slice a2 T c2] 26 (0, 0)) := by rw [← hY]; exact blk_put z7' 0 _
        have z6 : mblk t34 b6 = some (.cells #[.slice a1 T c1] 26 (0, 0)) := by rw [← hY, blk_set _ _ _ _ (by show b6 ≠ b7; omega)]; exact z6'
        have I1 : Ints t34 (.slice a1 T c1) lo := by rw [← hY]; exact I1'.set z7' _
        have I2 : Ints t34 (.slice a2 T c2) hi := by rw [← hY]; exact I2'.set z7' _
        have V : Up w t34 := by rw [← hY]; exact Up.set hHeld.1 (by show w.heap.size ≤ b7; omega) _
        have k2 : mblk t34 w.heap.size = some (.cells #[.map (some m), .int .i64 p, .int .i64 far] 89 (0, 0)) := by rw [← hY, blk_set _ _ _ _ (by show w.heap.size ≠ b7; omega)]; exact hHeld.2.1
        have k3 : mblk t34 (w.heap.size + 1) = some (.cells #[.int .i64 T] 3 (0, 0)) := by rw [← hY, blk_set _ _ _ _ (by show w.heap.size + 1 ≠ b7; omega)]; exact hHeld.2.2
        rw [hY]
        refine hK.out _ _ ⟨V, k2, k3⟩ (fun hHeld => ?_)
        clear hK K hY
        refine wpAnyH_done (by as_aux_lemma => kernel_rfl) ?_ _
        exact HKey.out _ b6 b7 a1 c1 a2 c2 ⟨V, k2, k3, z6, z7, I1, I2, l6, l7⟩
    · go_simp
      obtain ⟨y35, hY⟩ : ∃ Y, (w1.alloc (.cells #[.slice none 0 0] 26)).drew = Y := ⟨_, rfl⟩
      obtain ⟨b7, hb⟩ : ∃ b, w1.heap.size = b := ⟨_, rfl⟩
      have z7 : mblk y35 b7 = some (.cells #[.slice none 0 0] 26 (0, 0)) := by rw [← hY, blk_drew]; exact blk_new _ _ _ hb.symm
      have V : Up w1.drew y35 := by rw [← hY]; exact (Up.refl w1.drew).alloc (.cells #[.slice none 0 0] 26)
      have l7 : w.heap.size + 2 ≤ b7 := by have h := blk_lt hHeld.2.2; have h2 : w1.drew.heap.size = w1.heap.size := rfl; omega
      rw [hb, hY]
      refine hK.out _ _ ⟨hHeld.1.trans V, V.blk hHeld.2.1, V.blk hHeld.2.2⟩ (fun hHeld => ?_)
      clear hK K hY V hb
      refine wpAnyH_ready (rs := [3, 9]) (by as_aux_lemma => kernel_rfl) (by simp) ?_
      refine AllReadyH.cons rfl (fun K hK => ?_) (AllReadyH.cons rfl (fun K hK => ?_) AllReadyH.nil)
      · go_simp
        refine (HU1.out _ hHeld.1).mono ?_
        rintro e y36 ⟨a1, c1, rfl, u, I1⟩
        go_wp2_with fail
        refine hK.out _ _ ⟨hHeld.1.trans u, u.blk hHeld.2.1, u.blk hHeld.2.2⟩ (fun hHeld => ?_)
        replace z7 := u.blk z7
        clear hK K u
        refine wpAnyH_ready (rs := [8, 9]) (by as_aux_lemma => kernel_rfl) (by simp) ?_
        refine AllReadyH.cons rfl (fun K hK => ?_) (AllReadyH.cons rfl (fun K hK => ?_) AllReadyH.nil)
        · go_simp
          refine (HU2.out _ hHeld.1).mono ?_
          rintro e y37 ⟨a2, c2, rfl, u, I2⟩
          go_wp2_with fail
          refine hK.out _ _ ⟨hHeld.1.trans u, u.blk hHeld.2.1, u.blk hHeld.2.2⟩ (fun hHeld => ?_)
          replace I1 := I1.up u
          replace z7 := u.blk z7
          clear hK K u
          refine wpAnyH_ready (rs := [9]) (by as_aux_lemma => kernel_rfl) (by simp) ?_
          refine AllReadyH.cons rfl (fun K hK => ?_) AllReadyH.nil
          go_simp
          obtain ⟨y38, hY⟩ : ∃ Y, (y37.alloc (.cells #[.slice none 0 0] 26)) = Y := ⟨_, rfl⟩
          obtain ⟨b6, hb⟩ : ∃ b, y37.heap.size = b := ⟨_, rfl⟩
          have z6 : mblk y38 b6 = some (.cells #[.slice none 0 0] 26 (0, 0)) := by rw [← hY]; exact blk_new _ _ _ hb.symm
          have V : Up y37 y38 := by rw [← hY]; exact (Up.refl y37).alloc (.cells #[.slice none 0 0] 26)
          have l6 : w.heap.size + 2 ≤ b6 := by have h := blk_lt hHeld.2.2; have h2 : y37.heap.size = y37.heap.size := rfl; omega
          have d67 : b6 ≠ b7 := by have h := blk_lt z7; omega
          rw [hb, hY]
          refine hK.out _ _ ⟨hHeld.1.trans V, V.blk hHeld.2.1, V.blk hHeld.2.2⟩ (fun hHeld => ?_)
          replace I1 := I1.up V
          replace I2 := I2.up V
          replace z7 := V.blk z7
          clear hK K hY V hb
          have f6 := cellB z6
          have g6 := frozB z6
          refine wpAnyH_ready (rs := [11]) (by as_aux_lemma => kernel_rfl) (by simp) ?_
          refine AllReadyH.cons rfl (fun K hK => ?_) AllReadyH.nil
          go_simp
          obtain ⟨s39, hY⟩ : ∃ Y, y38.setCell ⟨b6, 0, none⟩ (.slice a1 T c1) = Y := ⟨_, rfl⟩
          have z6' : mblk s39 b6 = some (.cells #[.slice a1 T c1] 26 (0, 0)) := by rw [← hY]; exact blk_put z6 0 _
          have z7' : mblk s39 b7 = some (.cells #[.slice none 0 0] 26 (0, 0)) := by rw [← hY, blk_set _ _ _ _ (by show b7 ≠ b6; omega)]; exact z7
          have I1' : Ints s39 (.slice a1 T c1) lo := by rw [← hY]; exact I1.set z6 _
          have I2' : Ints s39 (.slice a2 T c2) hi := by rw [← hY]; exact I2.set z6 _
          have V : Up w s39 := by rw [← hY]; exact Up.set hHeld.1 (by show w.heap.size ≤ b6; omega) _
          have k2' : mblk s39 w.heap.size = some (.cells #[.map (some m), .int .i64 p, .int .i64 far] 89 (0, 0)) := by rw [← hY, blk_set _ _ _ _ (by show w.heap.size ≠ b6; omega)]; exact hHeld.2.1
          have k3' : mblk s39 (w.heap.size + 1) = some (.cells #[.int .i64 T] 3 (0, 0)) := by rw [← hY, blk_set _ _ _ _ (by show w.heap.size + 1 ≠ b6; omega)]; exact hHeld.2.2
          rw [hY]
          refine hK.out _ _ ⟨V, k2', k3'⟩ (fun hHeld => ?_)
          clear hK K hY V k2' k3' z6 z7 I1 I2 f6 g6
          have f7 := cellB z7'
          have g7 := frozB z7'
          refine wpAnyH_ready (rs := [12]) (by as_aux_lemma => kernel_rfl) (by simp) ?_
          refine AllReadyH.cons rfl (fun K hK => ?_) AllReadyH.nil
          go_simp
          obtain ⟨t39, hY⟩ : ∃ Y, s39.setCell ⟨b7, 0, none⟩ (.slice a2 T c2) = Y := ⟨_, rfl⟩
          have z7 : mblk t39 b7 = some (.cells #[.slice a2 T c2] 26 (0, 0)) := by rw [← hY]; exact blk_put z7' 0 _
          have z6 : mblk t39 b6 = some (.cells #[.slice a1 T c1] 26 (0, 0)) := by rw [← hY, blk_set _ _ _ _ (by show b6 ≠ b7; omega)]; exact z6'
          have I1 : Ints t39 (.slice a1 T c1) lo := by rw [← hY]; exact I1'.set z7' _
          have I2 : Ints t39 (.slice a2 T c2) hi := by rw [← hY]; exact I2'.set z7' _
          have V : Up w t39 := by rw [← hY]; exact Up.set hHeld.1 (by show w.heap.size ≤ b7; omega) _
          have k2 : mblk t39 w.heap.size = some (.cells #[.map (some m), .int .i64 p, .int .i64 far] 89 (0, 0)) := by rw [← hY, blk_set _ _ _ _ (by show w.heap.size ≠ b7; omega)]; exact hHeld.2.1
          have k3 : mblk t39 (w.heap.size + 1) = some (.cells #[.int .i64 T] 3 (0, 0)) := by rw [← hY, blk_set _ _ _ _ (by show w.heap.size + 1 ≠ b7; omega)]; exact hHeld.2.2
          rw [hY]
          refine hK.out _ _ ⟨V, k2, k3⟩ (fun hHeld => ?_)
          clear hK K hY
          refine wpAnyH_done (by as_aux_lemma => kernel_rfl) ?_ _
          exact HKey.out _ b6 b7 a1 c1 a2 c2 ⟨V, k2, k3, z6, z7, I1, I2, l6, l7⟩
        · go_simp
          obtain ⟨y40, hY⟩ : ∃ Y, (y36.alloc (.cells #[.slice none 0 0] 26)) = Y := ⟨_, rfl⟩
          obtain ⟨b6, hb⟩ : ∃ b, y36.heap.size = b := ⟨_, rfl⟩
          have z6 : mblk y40 b6 = some (.cells #[.slice none 0 0] 26 (0, 0)) := by rw [← hY]; exact blk_new _ _ _ hb.symm
          have V : Up y36 y40 := by rw [← hY]; exact (Up.refl y36).alloc (.cells #[.slice none 0 0] 26)
          have l6 : w.heap.size + 2 ≤ b6 := by have h := blk_lt hHeld.2.2; have h2 : y36.heap.size = y36.heap.size := rfl; omega
          have d67 : b6 ≠ b7 := by have h := blk_lt z7; omega
          rw [hb, hY]
          refine hK.out _ _ ⟨hHeld.1.trans V, V.blk hHeld.2.1, V.blk hHeld.2.2⟩ (fun hHeld => ?_)
          replace I1 := I1.up V
          replace z7 := V.blk z7
          clear hK K hY V hb
          refine wpAnyH_ready (rs := [8]) (by as_aux_lemma => kernel_rfl) (by simp) ?_
          refine AllReadyH.cons rfl (fun K hK => ?_) AllReadyH.nil
          go_simp
          refine (HU2.out _ hHeld.1).mono ?_
          rintro e y41 ⟨a2, c2, rfl, u, I2⟩
          go_wp2_with fail
          refine hK.out _ _ ⟨hHeld.1.trans u, u.blk hHeld.2.1, u.blk hHeld.2.2⟩ (fun hHeld => ?_)
          replace I1 := I1.up u
          replace z7 := u.blk z7
          replace z6 := u.blk z6
          clear hK K u
          have f6 := cellB z6
          have g6 := frozB z6
          refine wpAnyH_ready (rs := [11]) (by as_aux_lemma => kernel_rfl) (by simp) ?_
          refine AllReadyH.cons rfl (fun K hK => ?_) AllReadyH.nil
          go_simp
          obtain ⟨s42, hY⟩ : ∃ Y, y41.setCell ⟨b6, 0, none⟩ (.slice a1 T c1) = Y := ⟨_, rfl⟩
          have z6' : mblk s42 b6 = some (.cells #[.slice a1 T c1] 26 (0, 0)) := by rw [← hY]; exact blk_put z6 0 _
          have z7' : mblk s42 b7 = some (.cells #[.slice none 0 0] 26 (0, 0)) := by rw [← hY, blk_set _ _ _ _ (by show b7 ≠ b6; omega)]; exact z7
          have I1' : Ints s42 (.slice a1 T c1) lo := by rw [← hY]; exact I1.set z6 _
          have I2' : Ints s42 (.slice a2 T c2) hi := by rw [← hY]; exact I2.set z6 _
          have V : Up w s42 := by rw [← hY]; exact Up.set hHeld.1 (by show w.heap.size ≤ b6; omega) _
          have k2' : mblk s42 w.heap.size = some (.cells #[.map (some m), .int .i64 p, .int .i64 far] 89 (0, 0)) := by rw [← hY, blk_set _ _ _ _ (by show w.heap.size ≠ b6; omega)]; exact hHeld.2.1
          have k3' : mblk s42 (w.heap.size + 1) = some (.cells #[.int .i64 T] 3 (0, 0)) := by rw [← hY, blk_set _ _ _ _ (by show w.heap.size + 1 ≠ b6; omega)]; exact hHeld.2.2
          rw [hY]
          refine hK.out _ _ ⟨V, k2', k3'⟩ (fun hHeld => ?_)
          clear hK K hY V k2' k3' z6 z7 I1 I2 f6 g6
          have f7 := cellB z7'
          have g7 := frozB z7'
          refine wpAnyH_ready (rs := [12]) (by as_aux_lemma => kernel_rfl) (by simp) ?_
          refine AllReadyH.cons rfl (fun K hK => ?_) AllReadyH.nil
          go_simp
          obtain ⟨t42, hY⟩ : ∃ Y, s42.setCell ⟨b7, 0, none⟩ (.slice a2 T c2) = Y := ⟨_, rfl⟩
          have z7 : mblk t42 b7 = some (.cells #[.slice a2 T c2] 26 (0, 0)) := by rw [← hY]; exact blk_put z7' 0 _
          have z6 : mblk t42 b6 = some (.cells #[.slice a1 T c1] 26 (0, 0)) := by rw [← hY, blk_set _ _ _ _ (by show b6 ≠ b7; omega)]; exact z6'
          have I1 : Ints t42 (.slice a1 T c1) lo := by rw [← hY]; exact I1'.set z7' _
          have I2 : Ints t42 (.slice a2 T c2) hi := by rw [← hY]; exact I2'.set z7' _
          have V : Up w t42 := by rw [← hY]; exact Up.set hHeld.1 (by show w.heap.size ≤ b7; omega) _
          have k2 : mblk t42 w.heap.size = some (.cells #[.map (some m), .int .i64 p, .int .i64 far] 89 (0, 0)) := by rw [← hY, blk_set _ _ _ _ (by show w.heap.size ≠ b7; omega)]; exact hHeld.2.1
          have k3 : mblk t42 (w.heap.size + 1) = some (.cells #[.int .i64 T] 3 (0, 0)) := by rw [← hY, blk_set _ _ _ _ (by show w.heap.size + 1 ≠ b7; omega)]; exact hHeld.2.2
          rw [hY]
          refine hK.out _ _ ⟨V, k2, k3⟩ (fun hHeld => ?_)
          clear hK K hY
          refine wpAnyH_done (by as_aux_lemma => kernel_rfl) ?_ _
          exact HKey.out _ b6 b7 a1 c1 a2 c2 ⟨V, k2, k3, z6, z7, I1, I2, l6, l7⟩
      · go_simp
        obtain ⟨y43, hY⟩ : ∃ Y, (y35.alloc (.cells #[.slice none 0 0] 26)) = Y := ⟨_, rfl⟩
        obtain ⟨b6, hb⟩ : ∃ b, y35.heap.size = b := ⟨_, rfl⟩
        have z6 : mblk y43 b6 = some (.cells #[.slice none 0 0] 26 (0, 0)) := by rw [← hY]; exact blk_new _ _ _ hb.symm
        have V : Up y35 y43 := by rw [← hY]; exact (Up.refl y35).alloc (.cells #[.slice none 0 0] 26)
        have l6 : w.heap.size + 2 ≤ b6 := by have h := blk_lt hHeld.2.2; have h2 : y35.heap.size = y35.heap.size := rfl; omega
        have d67 : b6 ≠ b7 := by have h := blk_lt z7; omega
        rw [hb, hY]
        refine hK.out _ _ ⟨hHeld.1.trans V, V.blk hHeld.2.1, V.blk hHeld.2.2⟩ (fun hHeld => ?_)
        replace z7 := V.blk z7
        clear hK K hY V hb
        refine wpAnyH_ready (rs := [3]) (by as_aux_lemma => kernel_rfl) (by simp) ?_
        refine AllReadyH.cons rfl (fun K hK => ?_) AllReadyH.nil
        go_simp
        refine (HU1.out _ hHeld.1).mono ?_
        rintro e y44 ⟨a1, c1, rfl, u, I1⟩
        go_wp2_with fail
        refine hK.out _ _ ⟨hHeld.1.trans u, u.blk hHeld.2.1, u.blk hHeld.2.2⟩ (fun hHeld => ?_)
        replace z7 := u.blk z7
        replace z6 := u.blk z6
        clear hK K u
        refine wpAnyH_ready (rs := [8]) (by as_aux_lemma => kernel_rfl) (by simp) ?_
        refine AllReadyH.cons rfl (fun K hK => ?_) AllReadyH.nil
        go_simp
        refine (HU2.out _ hHeld.1).mono ?_
        rintro e y45 ⟨a2, c2, rfl, u, I2⟩
        go_wp2_with fail
        refine hK.out _ _ ⟨hHeld.1.trans u, u.blk hHeld.2.1, u.blk hHeld.2.2⟩ (fun hHeld => ?_)
        replace I1 := I1.up u
        replace z7 := u.blk z7
        replace z6 := u.blk z6
        clear hK K u
        have f6 := cellB z6
        have g6 := frozB z6
        refine wpAnyH_ready (rs := [11]) (by as_aux_lemma => kernel_rfl) (by simp) ?_
        refine AllReadyH.cons rfl (fun K hK => ?_) AllReadyH.nil
        go_simp
        obtain ⟨s46, hY⟩ : ∃ Y, y45.setCell ⟨b6, 0, none⟩ (.slice a1 T c1) = Y := ⟨_, rfl⟩
        have z6' : mblk s46 b6 = some (.cells #[.slice a1 T c1] 26 (0, 0)) := by rw [← hY]; exact blk_put z6 0 _
        have z7' : mblk s46 b7 = some (.cells #[.slice none 0 0] 26 (0, 0)) := by rw [← hY, blk_set _ _ _ _ (by show b7 ≠ b6; omega)]; exact z7
        have I1' : Ints s46 (.slice a1 T c1) lo := by rw [← hY]; exact I1.set z6 _
        have I2' : Ints s46 (.slice a2 T c2) hi := by rw [← hY]; exact I2.set z6 _
        have V : Up w s46 := by rw [← hY]; exact Up.set hHeld.1 (by show w.heap.size ≤ b6; omega) _
        have k2' : mblk s46 w.heap.size = some (.cells #[.map (some m), .int .i64 p, .int .i64 far] 89 (0, 0)) := by rw [← hY, blk_set _ _ _ _ (by show w.heap.size ≠ b6; omega)]; exact hHeld.2.1
        have k3' : mblk s46 (w.heap.size + 1) = some (.cells #[.int .i64 T] 3 (0, 0)) := by rw [← hY, blk_set _ _ _ _ (by show w.heap.size + 1 ≠ b6; omega)]; exact hHeld.2.2
        rw [hY]
        refine hK.out _ _ ⟨V, k2', k3'⟩ (fun hHeld => ?_)
        clear hK K hY V k2' k3' z6 z7 I1 I2 f6 g6
        have f7 := cellB z7'
        have g7 := frozB z7'
        refine wpAnyH_ready (rs := [12]) (by as_aux_lemma => kernel_rfl) (by simp) ?_
        refine AllReadyH.cons rfl (fun K hK => ?_) AllReadyH.nil
        go_simp
        obtain ⟨t46, hY⟩ : ∃ Y, s46.setCell ⟨b7, 0, none⟩ (.slice a2 T c2) = Y := ⟨_, rfl⟩
        have z7 : mblk t46 b7 = some (.cells #[.slice a2 T c2] 26 (0, 0)) := by rw [← hY]; exact blk_put z7' 0 _
        have z6 : mblk t46 b6 = some (.cells #[.slice a1 T c1] 26 (0, 0)) := by rw [← hY, blk_set _ _ _ _ (by show b6 ≠ b7; omega)]; exact z6'
        have I1 : Ints t46 (.slice a1 T c1) lo := by rw [← hY]; exact I1'.set z7' _
        have I2 : Ints t46 (.slice a2 T c2) hi := by rw [← hY]; exact I2'.set z7' _
        have V : Up w t46 := by rw [← hY]; exact Up.set hHeld.1 (by show w.heap.size ≤ b7; omega) _
        have k2 : mblk t46 w.heap.size = some (.cells #[.map (some m), .int .i64 p, .int .i64 far] 89 (0, 0)) := by rw [← hY, blk_set _ _ _ _ (by show w.heap.size ≠ b7; omega)]; exact hHeld.2.1
        have k3 : mblk t46 (w.heap.size + 1) = some (.cells #[.int .i64 T] 3 (0, 0)) := by rw [← hY, blk_set _ _ _ _ (by show w.heap.size + 1 ≠ b7; omega)]; exact hHeld.2.2
        rw [hY]
        refine hK.out _ _ ⟨V, k2, k3⟩ (fun hHeld => ?_)
        clear hK K hY
        refine wpAnyH_done (by as_aux_lemma => kernel_rfl) ?_ _
        exact HKey.out _ b6 b7 a1 c1 a2 c2 ⟨V, k2, k3, z6, z7, I1, I2, l6, l7⟩
  intro w7 b6 b7 a1 c1 a2 c2 ⟨U7, k2, k3, z6, z7, I1, I2, l6, l7⟩
  have R := Lib.hid (And.intro U7 (And.intro k2 (And.intro k3 (And.intro z6 (And.intro z7 (And.intro I1 (And.intro I2 (And.intro l6 l7))))))))
  clear U7 k2 k3 z6 z7 I1 I2 l6 l7 U1 k2' k3' HU1 HU2
  go_wp2
  go_ret
  exact ⟨b6, b7, a1, c1, a2, c2, rfl, R.out⟩

end Go.Proofs.Ytcadpdbadgejfaa
