import Derived.Test.YtnaibklajocejaaNextA
/- The contract of dial's next. -/
namespace Go.Proofs.Ytnaibklajocejaa
open Go.RowKit Go.Shelf
attribute [local go_sem] Oper.semAt_some

/-- none of the ticks that have come can be divided -/
def NoneIn (S : Int → Int) (f each : Int) (pre : List Nat) : Prop := ∀ i ∈ pre, ¬ (S (f + (i : Nat))).tmod each = 0
/-- x, the last of the ticks that have come, can be divided, and none before it -/
def FirstIn (S : Int → Int) (f each : Int) (pre : List Nat) (x : Nat) (c : Code) : Prop := c = .ret ∧ ∃ pre', pre = pre' ++ [x] ∧ NoneIn S f each pre' ∧ (S (f + (x : Nat))).tmod each = 0
/-- what next tells -/
def NextIs (S : Int → Int) (f u each v : Int) (ok : Bool) : Prop :=
  (∃ x : Nat, f + x < u ∧ NoneIn S f each (List.range x) ∧ (S (f + (x : Nat))).tmod each = 0 ∧ v = f + x ∧ ok = true) ∨ (NoneIn S f each (List.range (u - f).toNat) ∧ v = 0 ∧ ok = false)
theorem NextIs.done {S : Int → Int} {f u each v : Int} {ok : Bool} (h : NextIs S f u each v ok) (hN : NoneIn S f each (List.range (u - f).toNat)) : v = 0 ∧ ok = false := by
  rcases h with ⟨x, hx, _, hz, _⟩ | ⟨_, h1, h2⟩
  · exact absurd hz (hN x (by rw [List.mem_range]; omega))
  · exact ⟨h1, h2⟩
theorem NextIs.stop {S : Int → Int} {f u each v : Int} {ok : Bool} (h : NextIs S f u each v ok) {pre : List Nat} {x : Nat} {c : Code} (hp : pre <+: List.range (u - f).toNat) (hF : FirstIn S f each pre x c) : v = f + x ∧ ok = true := by
  obtain ⟨_, pre', rfl, hN, hz⟩ := hF
  have hl : (pre' ++ [x]).length ≤ (u - f).toNat := by have := hp.length_le; simpa using this
  have he : pre' ++ [x] = List.range (pre'.length + 1) := by
    have q := List.prefix_iff_eq_take.1 hp
    rw [List.take_range, Nat.min_eq_left hl, List.length_append] at q
    exact q
  rw [List.range_succ] at he
  obtain ⟨e1, e2⟩ := List.append_inj he (by simp)
  have e3 : x = pre'.length := by simpa using e2
  simp only [List.length_append, List.length_cons, List.length_nil] at hl
  rw [e1] at hN
  rcases h with ⟨y, hy, hM, hw, h1, h2⟩ | ⟨hM, _⟩
  · have : y = x := by
      by_cases a : y < x
      · exact absurd hw (hN y (by rw [List.mem_range]; omega))
      · by_cases b : x < y
        · exact absurd hz (hM x (by rw [List.mem_range]; omega))
        · omega
    subst this
    exact ⟨h1, h2⟩
  · exact absurd hz (hM x (by rw [List.mem_range]; omega))
theorem NoneIn.snoc {S : Int → Int} {f each : Int} {pre : List Nat} {x : Nat} (h : NoneIn S f each pre) (hx : ¬ (S (f + (x : Nat))).tmod each = 0) : NoneIn S f each (pre ++ [x]) := by
  intro i hi
  rcases List.mem_append.1 hi with h1 | h1
  · exact h i h1
  · simp at h1; subst h1; exact hx

set_option maxRecDepth 100000 in
set_option maxHeartbeats 1000000 in
theorem next_in {cs : Array Value} (hsz : cs.size = 15) (A B Z S : Int → Int) (f u each : Int) (f0 : 0 ≤ f) (u1' : u ≤ 1000000) (fu : f ≤ u) (e1 : 1 ≤ each)
    (HR : ∀ (t : Int) (w : World), f ≤ t → t < u → Calls Try.prog 59 #[.agg cs, .int .i64 t] w fun e w' => e = .returned (rd (A t) (B t) (Z t) (S t)) ∧ Up w w')
    (HT : ∀ w : World, Calls Try.prog 56 #[.agg cs] w fun e w' => e = .returned (.int .i64 u) ∧ Up w w')
    (v : Int) (ok : Bool) (hv : NextIs S f u each v ok) (w : World) :
    Calls Try.prog 67 #[.agg cs, .int .i64 f, .int .i64 each] w fun e w' => e = .returned (.tuple #[.int .i64 v, .bool ok]) ∧ Up w w' := by
  have hs := Lib.hid hsz
  have HR' := Lib.hid HR
  have HT' := Lib.hid HT
  have HV := Lib.hid hv
  clear HR HT hsz hv
  refine (callsIn_wide (n := 5)).1 ?_
  refine callsIn_of_wp_marks Try.func67 rfl trivial ?_ rfl
  simp only [Try.ntmps67, List.size_toArray, List.length_cons, List.length_nil, Nat.reduceAdd, Nat.reduceSub, Array.replicate_succ, Array.replicate_zero, List.push_toArray, List.append_toArray, List.nil_append, List.cons_append]
  gi_wp2_with fail
  refine wpIn_wide.2 (wp_scope_straight ((wpIn_wide (n := 5)).1 ?_))
  refine wpIn_seq_k (fun K2 hK2 => wpIn_label (hK2 _ _ ?_))
  clear hK2 K2
  obtain ⟨W0, hW0⟩ : ∃ W0, (((w.alloc (.cells cs 87)).alloc (.cells #[.int .i64 each] 3)).alloc (.cells #[.int .i64 0] 3)).alloc (.cells #[.bool false] 4) = W0 := ⟨_, rfl⟩
  have U0 : Up w W0 := by rw [← hW0]; exact (((Up.refl w).alloc _).alloc _ |>.alloc _).alloc _
  have k3 : mblk W0 w.heap.size = some (.cells cs 87) := by rw [← hW0]; exact blk_keep _ (blk_keep _ (blk_keep _ (blk_new _ _ _ rfl)))
  have k5 : mblk W0 (w.heap.size + 1) = some (.cells #[.int .i64 each] 3) := by rw [← hW0]; exact blk_keep _ (blk_keep _ (blk_new _ _ _ (by simp)))
  have k6 : mblk W0 (w.heap.size + 1 + 1) = some (.cells #[.int .i64 0] 3) := by rw [← hW0]; exact blk_keep _ (blk_new _ _ _ (by simp))
  have k7 : mblk W0 (w.heap.size + 1 + 1 + 1) = some (.cells #[.bool false] 4) := by rw [← hW0]; exact blk_new _ _ _ (by simp)
  rw [hW0]
  clear hW0
  gi_wp2_with fail
  refine wpIn_wide.2 ?_
  refine wp_region_noPanic ?_
  refine wp_region_held_drew (S := fun w' => mblk w' w.heap.size = some (.cells cs 87 (0, 0)) ∧ Up W0 w') (by kernel_rfl) ⟨by rw [blk_drew]; exact k3, (Up.refl W0).drew⟩ (fun hHeld => ?_)
  refine takeH (i := 0) (d := (some 10)) (v := ?v1) rfl rfl (by kernel_rfl) (by kernel_rfl) (by kernel_rfl) (fun _ _ _ h => h) (by rfl) ?hy1 (by assumption) ?_
  case hy1 => ((intro w hSw; (try dsimp only at hSw); (try go_split_ands); go_simp); try with_reducible rfl)
  simp only [Act.put, List.setIfInBounds_toArray, List.set_cons_zero, List.set_cons_succ]
  refine takeH (i := 1) (d := (some 11)) (v := ?v2) rfl rfl (by kernel_rfl) (by kernel_rfl) (by kernel_rfl) (fun _ _ _ h => h) (by rfl) ?hy2 (by assumption) ?_
  case hy2 => ((intro w hSw; (try dsimp only at hSw); (try go_split_ands); go_simp); try with_reducible rfl)
  simp only [Act.put, List.setIfInBounds_toArray, List.set_cons_zero, List.set_cons_succ]
  refine takeH (i := 2) (d := (some 12)) (v := ?v3) rfl rfl (by kernel_rfl) (by kernel_rfl) (by kernel_rfl) (fun _ _ _ h => h) (by rfl) ?hy3 (by assumption) ?_
  case hy3 => ((intro w hSw; (try dsimp only at hSw); (try go_split_ands); go_simp); try with_reducible rfl)
  simp only [Act.put, List.setIfInBounds_toArray, List.set_cons_zero, List.set_cons_succ]
  refine wpAnyH_ready (rs := [3]) (by kernel_rfl) (by simp) ?_
  refine AllReadyH.cons rfl (fun K hK => ?_) AllReadyH.nil
  go_simp
  refine (HT'.out _).mono ?_
  rintro e w1 ⟨rfl, u1⟩
  go_wp2_with fail
  refine hK.out _ _ ⟨u1.blk hHeld.1, hHeld.2.trans u1⟩ (fun hHeld => ?_)
  clear hK K
  refine wpAnyH_ready (rs := [4]) (by kernel_rfl) (by simp) ?_
  refine AllReadyH.cons rfl (fun K hK => ?_) AllReadyH.nil
  go_simp
  refine (readings_any _ _ _ _).mono ?_
  rintro e w2 ⟨rfl, hw2⟩
  have hb3 : mblk w2 w1.heap.size = some (.cells cs 87) := by rw [← hw2]; exact blk_keep _ (blk_keep _ (blk_new _ _ _ rfl))
  have hb1 : mblk w2 (w1.heap.size + 1) = some (.cells #[.int .i64 f] 3) := by rw [← hw2]; exact blk_keep _ (blk_new _ _ _ (by simp))
  have hb2 : mblk w2 (w1.heap.size + 1 + 1) = some (.cells #[.int .i64 u] 3) := by rw [← hw2]; exact blk_new _ _ _ (by simp)
  have U2 : Up w1 w2 := by rw [← hw2]; exact ((Up.refl w1).alloc _).alloc _ |>.alloc _
  have UW : Up W0 w2 := hHeld.2.trans U2
  have hL := Lib.hid hw2
  clear hw2
  go_wp2_with fail
  refine hK.out _ _ ⟨U2.blk hHeld.1, UW⟩ (fun _ => ?_)
  clear hK K
  refine wpAnyH_done (by kernel_rfl) ?_ _
  refine NoPanic.normal ?_
  have z5 := UW.blk k5
  have z6 := UW.blk k6
  have z7 := UW.blk k7
  have V2 : Up w w2 := U0.trans UW
  have l1 := blk_lt hb2
  have m7 := blk_lt z7
  clear UW U2 U0 k3 k5 k6 k7 u1 hL hHeld
  gi_wp2_with fail
  refine wpIn_rangeFunc_ownH (F := Fence.wide) (n := 5) rfl (by omega) (gf := 105) (lb := #[.pointer (some ⟨w1.heap.size + 1, 0, none⟩), .pointer (some ⟨w1.heap.size + 1 + 1, 0, none⟩), .pointer (some ⟨w1.heap.size, 0, none⟩)]) rfl trivial (enters_of Try.func105 (by kernel_rfl) rfl)
    (readings_stops hs.out A B Z S f u f0 u1' fu HR'.out (5 - 1) (by omega) (w1.heap.size + 1) (w1.heap.size + 1 + 1) w1.heap.size w2 w2.heap.size (Nat.le_refl _) (by omega) (by omega) (by omega) hb1 hb2 hb3) belowK_t (belowK_b (by omega)) (Below.refl _ _) (fun _ => rfl)
    (fun pre W => Below w2.heap.size w2 W ∧ NoneIn S f each pre)
    (fun c pre W => ∃ x : Nat, (Boxed W (w.heap.size + 1 + 1) 3 (.int .i64 (f + x)) ∧ Boxed W (w.heap.size + 1 + 1 + 1) 4 (.bool true)) ∧ Below w.heap.size w W ∧ FirstIn S f each pre x c)
    (OwnFrom.and (ownFrom_below (Nat.le_refl _) (Nat.le_refl _)) (fun _ _ _ _ hs _ _ => hs))
    (fun c pre X Y row hs hg hr => by
      obtain ⟨x, ⟨h1, h2⟩, h3, h4⟩ := hs
      exact ⟨x, ⟨boxed_own _ 3 (fun (_ : Unit) => Value.int .i64 (f + x)) () X Y row h1 hg (fun r e => (hr r e).2), boxed_own _ 4 (fun (_ : Unit) => Value.bool true) () X Y row h2 hg (fun r e => (hr r e).2)⟩,
        h3.grown hg h3.size (fun k e => by have := (hr k e).1; have := V2.size; omega), h4⟩)
    ⟨Below.refl _ _, fun i hi => by cases hi⟩
    (fun x a' W => ∃ Bx, W.heap[Bx]? = some (.cells #[.int .i64 (A (f + (x : Nat))), .int .i64 (B (f + x)), .int .i64 (Z (f + x)), .int .i64 (S (f + x))] 27 (0, 0)) ∧ a' = { tmps := #[.agg cs, .int .i64 f, .int .i64 each, .pointer (some ⟨w.heap.size, 0, none⟩), undef, .pointer (some ⟨w.heap.size + 1, 0, none⟩), .pointer (some ⟨w.heap.size + 1 + 1, 0, none⟩), .pointer (some ⟨w.heap.size + 1 + 1 + 1, 0, none⟩), .int .i64 (f + x), .pointer (some ⟨Bx, 0, none⟩), .agg cs, .int .i64 f, .agg cs, .int .i64 u, .func (.func 105) #[] #[.pointer (some ⟨w1.heap.size + 1, 0, none⟩), .pointer (some ⟨w1.heap.size + 1 + 1, 0, none⟩), .pointer (some ⟨w1.heap.size, 0, none⟩)], .int .i64 (f + x), rd (A (f + x)) (B (f + x)) (Z (f + x)) (S (f + x)), undef, undef, undef, undef, undef, undef], defers := [] })
    (fun x a' _ X Y row hs hg hr => by
      obtain ⟨Bx, h1, h2⟩ := hs
      exact ⟨Bx, (hg.block Bx (Array.getElem?_eq_some_iff.1 h1).1 (fun e => by obtain ⟨_, o, ho, hc⟩ := hr Bx e.symm; rw [h1] at ho; cases ho; simp [Obj.isCells] at hc)).trans h1, h2⟩)
    ?assign ?body ?done ?stop
  case assign =>
    rintro l pre x W K ⟨hB, hN⟩ hK
    have hsz := hB.size
    gi_wp2
    exact hK _ _ ((KeepsOthers.alloc _ _).from _) ((Below.refl _ W).alloc hsz _) ⟨hB.alloc hsz _, hN⟩ ⟨W.heap.size, World.alloc_heap_new W _, rfl⟩
  case body =>
    rintro l pre x a' W hl ⟨r, hr⟩ ⟨hB, hN⟩ ⟨Bx, hX, rfl⟩ hlt
    have y5 : Boxed W (w.heap.size + 1) 3 (.int .i64 each) := (hB.block _ (blk_lt z5)).trans z5
    have y6 : Boxed W (w.heap.size + 1 + 1) 3 (.int .i64 0) := (hB.block _ (blk_lt z6)).trans z6
    have y7 : Boxed W (w.heap.size + 1 + 1 + 1) 4 (.bool false) := (hB.block _ (blk_lt z7)).trans z7
    have c5 := y5.cell
    have c6 := y6.cell
    have c7 := y7.cell
    have f6 := y6.frozen
    have f7 := y7.frozen
    have cX := cellB (w := W) (b := Bx) hX
    have hBw : Below w.heap.size w W := Below.trans V2 (hB.mono V2.size)
    by_cases hz : (S (f + (x : Nat))).tmod each = 0
    · have hz' : ((S (f + (x : Nat))).tmod each != 0) = false := by simp [hz]
      have HZ := Lib.hid hz
      clear hz
      gi_wp2
      exact ⟨((KeepsOthers.setCell _ _ _).trans (KeepsOthers.setCell _ _ _)).from _, x, ⟨(y6.set _).other (by omega) _, (y7.other (by omega) _).set _⟩, (hBw.setCell (p := ⟨w.heap.size + 1 + 1, 0, none⟩) (by simp; omega) _).setCell (p := ⟨w.heap.size + 1 + 1 + 1, 0, none⟩) (by simp; omega) _, ⟨rfl, pre, rfl, hN, HZ.out⟩⟩
    · have hz' : ((S (f + (x : Nat))).tmod each != 0) = true := by simp [hz]
      have HZ := Lib.hid hz
      clear hz
      gi_wp2
      exact ⟨KeepsFrom.refl _ _, Below.refl _ _, hB, hN.snoc HZ.out⟩
  case done =>
    rintro D ys W hD rfl ⟨hB, hN⟩ hK
    obtain ⟨rfl, rfl⟩ := HV.out.done hN
    have y6 : Boxed W (w.heap.size + 1 + 1) 3 (.int .i64 0) := (hB.block _ (blk_lt z6)).trans z6
    have y7 : Boxed W (w.heap.size + 1 + 1 + 1) 4 (.bool false) := (hB.block _ (blk_lt z7)).trans z7
    have c6 := y6.cell
    have c7 := y7.cell
    have f6 := y6.frozen
    have f7 := y7.frozen
    have hBw : Below w.heap.size w W := Below.trans V2 (hB.mono V2.size)
    gi_wp2
    rw [Exit.noGoto_ret]
    have b6 : Boxed ((W.setCell ⟨w.heap.size + 1 + 1, 0, none⟩ (.int .i64 0)).setCell ⟨w.heap.size + 1 + 1 + 1, 0, none⟩ (.bool false)) (w.heap.size + 1 + 1) 3 (.int .i64 0) := (y6.set (.int .i64 0)).other (by omega) _
    have b7 : Boxed ((W.setCell ⟨w.heap.size + 1 + 1, 0, none⟩ (.int .i64 0)).setCell ⟨w.heap.size + 1 + 1 + 1, 0, none⟩ (.bool false)) (w.heap.size + 1 + 1 + 1) 4 (.bool false) := (y7.other (by omega) _).set _
    refine ⟨by simp, .inl ⟨_, _, rfl, run_takeDeferred (((KeepsOthers.setCell _ _ _).trans (KeepsOthers.setCell _ _ _)).same D _ hK rfl), ?_⟩⟩
    have g6 := b6.kept (grownBy_putObj' _ D (.deferred none)) (fun e => by cases e; omega)
    have g7 := b7.kept (grownBy_putObj' _ D (.deferred none)) (fun e => by cases e; omega)
    have h6 := g6.cell
    have h7 := g7.cell
    have hK2 := ((KeepsOthers.setCell W ⟨w.heap.size + 1 + 1, 0, none⟩ (.int .i64 0)).trans (KeepsOthers.setCell _ ⟨w.heap.size + 1 + 1 + 1, 0, none⟩ (.bool false))).same D _ hK rfl
    have hB2 := (hBw.setCell (p := ⟨w.heap.size + 1 + 1, 0, none⟩) (by simp; omega) (.int .i64 0)).setCell (p := ⟨w.heap.size + 1 + 1 + 1, 0, none⟩) (by simp; omega) (.bool false)
    exact ⟨.tuple #[.int .i64 0, .bool false], by simp [results, Try.results67, go_sem, h6, h7], rfl, hB2.trans (belowK_b (w := w) (Nat.le_refl _) _ D _ _ (by have := V2.size; omega) hK2 rfl rfl)⟩
  case stop =>
    rintro D c pre W hD hp ⟨x, ⟨b6, b7⟩, hB, hF⟩ hK
    obtain ⟨rfl, rfl⟩ := HV.out.stop hp hF
    obtain ⟨rfl, _⟩ := hF
    gi_wp2
    rw [Exit.noGoto_ret]
    refine ⟨by simp, .inl ⟨_, _, rfl, run_takeDeferred hK, ?_⟩⟩
    have g6 := b6.kept (grownBy_putObj' _ D (.deferred none)) (fun e => by cases e; omega)
    have g7 := b7.kept (grownBy_putObj' _ D (.deferred none)) (fun e => by cases e; omega)
    have h6 := g6.cell
    have h7 := g7.cell
    exact ⟨.tuple #[.int .i64 (f + x), .bool true], by simp [results, Try.results67, go_sem, h6, h7], rfl, hB.trans (belowK_b (w := w) (Nat.le_refl _) _ D _ _ (by have := V2.size; omega) hK rfl rfl)⟩

end Go.Proofs.Ytnaibklajocejaa
