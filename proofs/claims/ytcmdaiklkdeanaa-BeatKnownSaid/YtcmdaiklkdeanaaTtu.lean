import Derived.Test.YtcmdaiklkdeanaaLrn
/- The contracts of a tie turned, of sources, and of learn, whatever is known. -/
namespace Go.Proofs.Ytcmdaiklkdeanaa
open Go.RowKit

set_option maxRecDepth 100000 in
set_option maxHeartbeats 1000000 in
theorem tturned_any (c h c' h' l u : Int) (w : World) (l1 : -10000000 ≤ l) (l2 : l ≤ 10000000) (u1 : -10000000 ≤ u) (u2 : u ≤ 10000000) : Calls Try.prog 102 #[TiV c h c' h' l u] w fun e w' => e = .returned (TiV c' h' c h (-u) (-l)) ∧ Up w w' := by
  have HT := Lib.hid (fun w => turned_any l u w l1 l2 u1 u2)
  clear l1 l2 u1 u2
  obtain ⟨r1, hr1⟩ : ∃ z, -u = z := ⟨_, rfl⟩
  obtain ⟨r2, hr2⟩ : ∃ z, -l = z := ⟨_, rfl⟩
  rw [hr1, hr2] at HT ⊢
  clear hr1 hr2
  have U0 := ((Up.refl w).alloc (.cells (TiC c h c' h' l u) 125)).alloc (.cells (TiC 0 0 0 0 0 0) 125)
  have k0 := blk_keep (.cells (TiC 0 0 0 0 0 0) 125) (blk_new w (.cells (TiC c h c' h' l u) 125) _ rfl)
  have k1 := blk_new (w.alloc (.cells (TiC c h c' h' l u) 125)) (.cells (TiC 0 0 0 0 0 0) 125) (w.heap.size + 1) (by simp)
  go_enter Try.func102, Try.ntmps102
  go_wp2_with fail
  refine wp_region_held_drew (S := fun w' => Up w w' ∧ mblk w' w.heap.size = some (.cells (TiC c h c' h' l u) 125 (0, 0)) ∧ ∃ q : Value × Value × Value × Value × Value × Value, mblk w' (w.heap.size + 1) = some (.cells #[q.1, q.2.1, q.2.2.1, q.2.2.2.1, q.2.2.2.2.1, q.2.2.2.2.2] 125 (0, 0))) (by kernel_rfl) ⟨U0.drew, by rw [blk_drew]; exact k0, (.int .i64 0, .int .i64 0, .int .i64 0, .int .i64 0, .int .i64 0, .int .i64 0), by rw [blk_drew]; exact k1⟩ (fun hHeld => ?_)
  clear U0 k0 k1
  refine takeH (i := 0) (d := (some 3)) (v := ?v1) rfl rfl (by kernel_rfl) (by kernel_rfl) (by kernel_rfl) (fun _ _ _ h => h) (by rfl) ?hy1 (by assumption) ?_
  case hy1 => ((intro w hSw; (try dsimp only at hSw); (try go_split_ands); go_simp); try with_reducible rfl)
  simp only [Act.put, List.setIfInBounds_toArray, List.set_cons_zero, List.set_cons_succ]
  refine takeH (i := 2) (d := (some 5)) (v := ?v2) rfl rfl (by kernel_rfl) (by kernel_rfl) (by kernel_rfl) (fun _ _ _ h => h) (by rfl) ?hy2 (by assumption) ?_
  case hy2 => ((intro w hSw; (try dsimp only at hSw); (try go_split_ands); go_simp); try with_reducible rfl)
  simp only [Act.put, List.setIfInBounds_toArray, List.set_cons_zero, List.set_cons_succ]
  refine takeH (i := 4) (d := (some 7)) (v := ?v3) rfl rfl (by kernel_rfl) (by kernel_rfl) (by kernel_rfl) (fun _ _ _ h => h) (by rfl) ?hy3 (by assumption) ?_
  case hy3 => ((intro w hSw; (try dsimp only at hSw); (try go_split_ands); go_simp); try with_reducible rfl)
  simp only [Act.put, List.setIfInBounds_toArray, List.set_cons_zero, List.set_cons_succ]
  refine takeH (i := 1) (d := (some 4)) (v := ?v4) rfl rfl (by kernel_rfl) (by kernel_rfl) (by kernel_rfl) (fun _ _ _ h => h) (by rfl) ?hy4 (by assumption) ?_
  case hy4 => ((intro w hSw; (try dsimp only at hSw); (try go_split_ands); go_simp); try with_reducible rfl)
  simp only [Act.put, List.setIfInBounds_toArray, List.set_cons_zero, List.set_cons_succ]
  refine takeH (i := 3) (d := (some 6)) (v := ?v5) rfl rfl (by kernel_rfl) (by kernel_rfl) (by kernel_rfl) (fun _ _ _ h => h) (by rfl) ?hy5 (by assumption) ?_
  case hy5 => ((intro w hSw; (try dsimp only at hSw); (try go_split_ands); go_simp); try with_reducible rfl)
  simp only [Act.put, List.setIfInBounds_toArray, List.set_cons_zero, List.set_cons_succ]
  refine takeH (i := 5) (d := (some 8)) (v := ?v6) rfl rfl (by kernel_rfl) (by kernel_rfl) (by kernel_rfl) (fun _ _ _ h => h) (by rfl) ?hy6 (by assumption) ?_
  case hy6 => ((intro w hSw; (try dsimp only at hSw); (try go_split_ands); go_simp); try with_reducible rfl)
  simp only [Act.put, List.setIfInBounds_toArray, List.set_cons_zero, List.set_cons_succ]
  refine wpAnyH_ready (rs := [6]) (by kernel_rfl) (by simp) ?_
  refine AllReadyH.cons rfl (fun K hK => ?_) AllReadyH.nil
  go_simp
  refine (HT.out _).mono ?_
  rintro e w1 ⟨rfl, u1⟩
  go_wp2_with fail
  refine hK.out _ _ ⟨hHeld.1.trans u1, u1.blk hHeld.2.1, hHeld.2.2.elim fun q k => ⟨q, u1.blk k⟩⟩ (fun hHeld => ?_)
  clear hK K u1
  refine takeH (i := 7) (d := (some 10)) (v := ?v8) rfl rfl (by kernel_rfl) (by kernel_rfl) (by kernel_rfl) (fun _ _ _ h => h) (by rfl) ?hy8 (by assumption) ?_
  case hy8 => ((intro w hSw; (try dsimp only at hSw); (try go_split_ands); go_simp); try with_reducible rfl)
  simp only [Act.put, List.setIfInBounds_toArray, List.set_cons_zero, List.set_cons_succ]
  obtain ⟨q, kq⟩ := hHeld.2.2
  have fc := cellB kq
  have gc := frozB kq
  have n0 : w.heap.size ≤ w.heap.size + 1 := by omega
  have C := Lib.hid (blk_put (blk_put (blk_put (blk_put (blk_put (blk_put kq 0 (.int .i64 c')) 1 (.int .i64 h')) 2 (.int .i64 c)) 3 (.int .i64 h)) 4 (.int .i64 r1)) 5 (.int .i64 r2))
  have V := (((((hHeld.1.set (p := ⟨w.heap.size + 1, 0, none⟩) n0 (.int .i64 c')).set (p := ⟨w.heap.size + 1, 1, none⟩) n0 (.int .i64 h')).set (p := ⟨w.heap.size + 1, 2, none⟩) n0 (.int .i64 c)).set (p := ⟨w.heap.size + 1, 3, none⟩) n0 (.int .i64 h)).set (p := ⟨w.heap.size + 1, 4, none⟩) n0 (.int .i64 r1)).set (p := ⟨w.heap.size + 1, 5, none⟩) n0 (.int .i64 r2)
  have kk : mblk ((((((w1.setCell ⟨w.heap.size + 1, 0, none⟩ (.int .i64 c')).setCell ⟨w.heap.size + 1, 1, none⟩ (.int .i64 h')).setCell ⟨w.heap.size + 1, 2, none⟩ (.int .i64 c)).setCell ⟨w.heap.size + 1, 3, none⟩ (.int .i64 h)).setCell ⟨w.heap.size + 1, 4, none⟩ (.int .i64 r1)).setCell ⟨w.heap.size + 1, 5, none⟩ (.int .i64 r2)) w.heap.size = some (.cells (TiC c h c' h' l u) 125 (0, 0)) := by
    have hn : w.heap.size ≠ w.heap.size + 1 := by omega
    rw [blk_set _ _ _ _ hn, blk_set _ _ _ _ hn, blk_set _ _ _ _ hn, blk_set _ _ _ _ hn, blk_set _ _ _ _ hn, blk_set _ _ _ _ hn]
    exact hHeld.2.1
  refine wpAnyH_ready (rs := [8]) (by kernel_rfl) (by simp) ?_
  refine AllReadyH.cons rfl (fun K hK => ?_) AllReadyH.nil
  go_simp
  obtain ⟨W2, hW2⟩ : ∃ x, ((((((w1.setCell ⟨w.heap.size + 1, 0, none⟩ (.int .i64 c')).setCell ⟨w.heap.size + 1, 1, none⟩ (.int .i64 h')).setCell ⟨w.heap.size + 1, 2, none⟩ (.int .i64 c)).setCell ⟨w.heap.size + 1, 3, none⟩ (.int .i64 h)).setCell ⟨w.heap.size + 1, 4, none⟩ (.int .i64 r1)).setCell ⟨w.heap.size + 1, 5, none⟩ (.int .i64 r2)) = x := ⟨_, rfl⟩
  have C2 := C.out
  rw [hW2] at C2 V kk ⊢
  refine hK.out _ _ ⟨V, kk, (_, _, _, _, _, _), C2⟩ (fun hHeld2 => ?_)
  clear hK K hW2 kq fc gc hHeld
  refine wpAnyH_done (by kernel_rfl) ?_ _
  clear hHeld2
  have c7 := cellB C2
  go_wp2_with fail
  exact bodyPost_ret (v := TiV c' h' c h r1 r2) (by simp [results, Try.results102, go_sem, c7]) rfl ⟨rfl, V⟩

/-- the sources -/
abbrev SrV : Value := .agg #[.func (.func 107) #[] #[], .func (.func 108) #[] #[], .func (.func 109) #[] #[], .func (.func 108) #[] #[], .func (.func 110) #[] #[], .func (.func 111) #[] #[], .func (.func 112) #[] #[], .func (.func 108) #[] #[]]
set_option maxRecDepth 100000 in
theorem sources_any (w : World) : Calls Try.prog 100 #[] w fun e w' => e = .returned SrV ∧ Up w w' := by
  go_enter Try.func100, Try.ntmps100
  go_wp2
  exact bodyPost_ret (v := SrV) (by simp [results, Try.results100, go_sem]) rfl ⟨rfl, (Up.refl w).alloc _⟩

theorem learn_B {w : World} {m : Nat} {D : List (Int × Int)} {g : Int × Int → Nat} {K : Int × Int → Int × Int → Option (Int × Int)} {N : Nat} (h : T.Know w m D g K N) (hN : N < 100000) {x y s : Int × Int} (hx : x ∈ D) (hy : T.in64 y) :
    Calls Try.prog 101 #[.map (some m), TiV x.1 x.2 y.1 y.2 s.1 s.2, .func (.func 108) #[] #[]] w fun e w' => e = .returned (.tuple #[]) ∧ T.Know w' m D g (T.put2 K x y (T.joinB (K x y) s)) (N + 1) ∧ w.grownBy w' (some (g x)) := by
  cases hk : K x y with
  | none => have q := learn_both_no h hN hx hy (s := s) hk; rw [hk] at q; exact q
  | some s0 => have q := learn_both_yes h hN hx hy (s := s) hk; rw [hk] at q; exact q
theorem learn_A {w : World} {m : Nat} {D : List (Int × Int)} {g : Int × Int → Nat} {K : Int × Int → Int × Int → Option (Int × Int)} {N : Nat} (h : T.Know w m D g K N) (hN : N < 100000) {x y s : Int × Int} (hx : x ∈ D) (hy : T.in64 y)
    (hb : ∀ s0, K x y = some s0 → (-10000000 ≤ s0.1 ∧ s0.1 ≤ 10000000) ∧ (-10000000 ≤ s0.2 ∧ s0.2 ≤ 10000000)) (hs : (-10000000 ≤ s.1 ∧ s.1 ≤ 10000000) ∧ (-10000000 ≤ s.2 ∧ s.2 ≤ 10000000)) :
    Calls Try.prog 101 #[.map (some m), TiV x.1 x.2 y.1 y.2 s.1 s.2, .func (.func 111) #[] #[]] w fun e w' => e = .returned (.tuple #[]) ∧ T.Know w' m D g (T.put2 K x y (T.joinA (K x y) s)) (N + 1) ∧ w.grownBy w' (some (g x)) := by
  cases hk : K x y with
  | none => have q := learn_added_no h hN hx hy (s := s) hk; rw [hk] at q; exact q
  | some s0 =>
    have b := hb s0 hk
    have q := learn_added_yes h hN hx hy (s := s) hk ⟨⟨by omega, by omega⟩, ⟨by omega, by omega⟩⟩
    rw [hk] at q; exact q

end Go.Proofs.Ytcmdaiklkdeanaa
