import Derived.Test.YtcmdaiklkdeanaaLib
import Derived.RangeFuncNested
import Derived.RangeFuncBound
import Derived.RangeFuncCalls
import Derived.RangeFuncLeaves
import Derived.Shelf.Abstract
import Derived.Shelf.RegionOpen
import Derived.OwnWalkIn
import Derived.TacticsInMore
import Derived.LoopNIn
import Derived.LoopIn
import Derived.RangeFuncBox
import Derived.DeepKeys
import Derived.Deep.WholeRow
/- The contracts of beat's smallest functions: numbers, spans, moments, ties, sides. -/
namespace Go.Proofs.Ytcmdaiklkdeanaa
open Go.RowKit

theorem cell_Span {w : World} {b : Nat} {cs : Array Value} (h : mblk w b = some (.cells cs 34 (0, 0))) (j : Nat) : w.cell? ⟨b, j, none⟩ = cs[j]? := cellB h j
theorem cell_mom {w : World} {b : Nat} {cs : Array Value} (h : mblk w b = some (.cells cs 100 (0, 0))) (j : Nat) : w.cell? ⟨b, j, none⟩ = cs[j]? := cellB h j
theorem cell_tie {w : World} {b : Nat} {cs : Array Value} (h : mblk w b = some (.cells cs 125 (0, 0))) (j : Nat) : w.cell? ⟨b, j, none⟩ = cs[j]? := cellB h j
theorem cell_cellar {w : World} {b : Nat} {cs : Array Value} (h : mblk w b = some (.cells cs 79 (0, 0))) (j : Nat) : w.cell? ⟨b, j, none⟩ = cs[j]? := cellB h j
theorem cell_Cellar {w : World} {b : Nat} {cs : Array Value} (h : mblk w b = some (.cells cs 26 (0, 0))) (j : Nat) : w.cell? ⟨b, j, none⟩ = cs[j]? := cellB h j
theorem cell_web {w : World} {b : Nat} {cs : Array Value} (h : mblk w b = some (.cells cs 82 (0, 0))) (j : Nat) : w.cell? ⟨b, j, none⟩ = cs[j]? := cellB h j
theorem cell_side {w : World} {b : Nat} {cs : Array Value} (h : mblk w b = some (.cells cs 104 (0, 0))) (j : Nat) : w.cell? ⟨b, j, none⟩ = cs[j]? := cellB h j
theorem cell_open {w : World} {b : Nat} {cs : Array Value} (h : mblk w b = some (.cells cs 63 (0, 0))) (j : Nat) : w.cell? ⟨b, j, none⟩ = cs[j]? := cellB h j
theorem cell_pair {w : World} {b : Nat} {cs : Array Value} (h : mblk w b = some (.cells cs 61 (0, 0))) (j : Nat) : w.cell? ⟨b, j, none⟩ = cs[j]? := cellB h j
theorem cell_clocks {w : World} {b : Nat} {cs : Array Value} (h : mblk w b = some (.cells cs 77 (0, 0))) (j : Nat) : w.cell? ⟨b, j, none⟩ = cs[j]? := cellB h j
theorem cell_int {w : World} {b : Nat} {cs : Array Value} (h : mblk w b = some (.cells cs 3 (0, 0))) (j : Nat) : w.cell? ⟨b, j, none⟩ = cs[j]? := cellB h j
attribute [go_sem] cell_Span cell_mom cell_tie cell_cellar cell_Cellar cell_web cell_side cell_open cell_pair cell_clocks cell_int
/-- values: a span, a moment, a tie -/
abbrev SpV (l h : Int) : Value := .agg #[.int .i64 l, .int .i64 h]
abbrev MoV (c h : Int) : Value := .agg #[.int .i64 c, .int .i64 h]
abbrev TiC (c h c' h' l u : Int) : Array Value := #[.int .i64 c, .int .i64 h, .int .i64 c', .int .i64 h', .int .i64 l, .int .i64 u]
abbrev TiV (c h c' h' l u : Int) : Value := .agg (TiC c h c' h' l u)
/-- a cellar in the calculation -/
abbrev CeC (H : Int) (R O P : Value) (b0 b1 b2 b3 b4 : Bool) : Array Value := #[.int .i64 H, R, O, P, .bool b0, .bool b1, .bool b2, .bool b3, .bool b4]
abbrev CeV (H : Int) (R O P : Value) (b0 b1 b2 b3 b4 : Bool) : Value := .agg (CeC H R O P b0 b1 b2 b3 b4)

theorem within_any (n l h : Int) (w : World) : Calls Try.prog 73 #[.int .i64 n, .int .i64 l, .int .i64 h] w fun e w' => e = .returned (.bool (inB n l h)) ∧ w = w' := by
  by_cases h1 : l ≤ n
  · by_cases h2 : n ≤ h
    · go_enter Try.func73, Try.ntmps73
      go_wp2
      go_ret
      exact ⟨by rw [inB_yes h1 h2]; rfl, rfl⟩
    · go_enter Try.func73, Try.ntmps73
      go_wp2
      go_ret
      exact ⟨by rw [inB_no (by omega)]; rfl, rfl⟩
  · go_enter Try.func73, Try.ntmps73
    go_wp2
    go_ret
    exact ⟨by rw [inB_no (by omega)]; rfl, rfl⟩
theorem within_yes (n l h : Int) (w : World) (h1 : l ≤ n) (h2 : n ≤ h) : Calls Try.prog 73 #[.int .i64 n, .int .i64 l, .int .i64 h] w fun e w' => e = .returned (.bool true) ∧ w = w' :=
  (within_any n l h w).mono fun e w' ⟨he, hw⟩ => ⟨by rw [he, inB_yes h1 h2], hw⟩
theorem within_no (n l h : Int) (w : World) (h1 : ¬ (l ≤ n ∧ n ≤ h)) : Calls Try.prog 73 #[.int .i64 n, .int .i64 l, .int .i64 h] w fun e w' => e = .returned (.bool false) ∧ w = w' :=
  (within_any n l h w).mono fun e w' ⟨he, hw⟩ => ⟨by rw [he, inB_no h1], hw⟩

theorem ret_bool {a b : Bool} (h : a = b) : Ending.returned (.bool a) = .returned (.bool b) := by rw [h]
theorem wrap_add (a b : Int) : wrap64 (wrap64 a + b) = wrap64 (a + b) := by
  unfold wrap64; omega
theorem S.tot_take (zs : List Int) (k : Nat) (hk : k < zs.length) : (zs.take (k + 1)).sum = (zs.take k).sum + zs.getD k 0 := by
  rw [List.take_succ_eq_append_getElem hk, List.sum_append, List.getD_eq_getElem?_getD, List.getElem?_eq_getElem hk]
  simp
set_option maxRecDepth 100000 in
theorem sum_any {v : Value} {zs : List Int} {w : World} (I : Ints w v zs) :
    Calls Try.prog 118 #[v] w fun e w' => e = .returned (.int .i64 (wrap64 zs.sum)) ∧ w = w' := by
  obtain ⟨a, c, rfl, _, hl, hm⟩ := I.is
  have HM := Lib.hid hm
  clear hm I
  go_enter Try.func118, Try.ntmps118
  go_wp2
  go_loop [3, 8, 5] (fun t i _ => ∃ k : Nat, k ≤ zs.length ∧ i = .int .i64 k ∧ t = .int .i64 (wrap64 (zs.take k).sum)) (fun _ i _ => zs.length - (intOf i).toNat)
  case atStart => exact ⟨0, Nat.zero_le _, rfl, by simp [wrap64]⟩
  case round =>
    obtain ⟨k, hk, rfl, rfl⟩ := hrel
    by_cases hlt : k < zs.length
    · obtain ⟨g, off, rfl, _, hc⟩ := HM.out (by omega)
      have hcell := hc k hlt
      have hts := Lib.hid (S.tot_take zs k hlt)
      generalize zs.getD k 0 = z at *
      generalize hT : (zs.take k).sum = T at *
      have HT := Lib.hid hT
      clear hT hc
      go_wp2
      go_round
      case rel => exact ⟨k + 1, by omega, by go_num, by rw [hts.out, wrap_add]⟩
      case measure => simp [intOf]; omega
    · go_wp2
      go_ret
      exact ⟨ret_int (by rw [List.take_of_length_le (by omega)]), rfl⟩

/-- is a span one, no farther than a number to both sides? -/
def S.spanOk (l h m : Int) : Bool := inB l (-m) h && decide (h ≤ m)
theorem S.spanOk_iff {l h m : Int} : S.spanOk l h m = true ↔ -m ≤ l ∧ l ≤ h ∧ h ≤ m := by simp [S.spanOk, inB_iff, and_assoc]
theorem isSpan_any (l h m : Int) (w : World) (m0 : 0 ≤ m) (m1 : m ≤ 1000000) : Calls Try.prog 92 #[.agg #[.int .i64 l, .int .i64 h], .int .i64 m] w fun e w' => e = .returned (.bool (S.spanOk l h m)) ∧ Up w w' := by
  have U := (Up.refl w).alloc (.cells #[.int .i64 l, .int .i64 h] 34)
  by_cases h1 : -m ≤ l ∧ l ≤ h
  · by_cases h2 : h ≤ m
    · have e : S.spanOk l h m = true := S.spanOk_iff.2 ⟨h1.1, h1.2, h2⟩
      rw [e]
      clear e
      go_enter Try.func92, Try.ntmps92
      go_wp2_with (go_at_call 73; refine (within_yes _ _ _ _ (by omega) (by omega)).mono ?_; rintro e w1 ⟨rfl, rfl⟩)
      go_ret
      exact ⟨rfl, U⟩
    · have e : S.spanOk l h m = false := by simp [S.spanOk, h2]
      rw [e]
      clear e
      go_enter Try.func92, Try.ntmps92
      go_wp2_with (go_at_call 73; refine (within_yes _ _ _ _ (by omega) (by omega)).mono ?_; rintro e w1 ⟨rfl, rfl⟩)
      go_ret
      exact ⟨ret_bool (a := decide (h ≤ m)) (b := false) (decide_eq_false (by omega)), U⟩
  · have e : S.spanOk l h m = false := by simp [S.spanOk, inB_no h1]
    rw [e]
    clear e
    go_enter Try.func92, Try.ntmps92
    go_wp2_with (go_at_call 73; refine (within_no _ _ _ _ (by omega)).mono ?_; rintro e w1 ⟨rfl, rfl⟩)
    go_ret
    exact ⟨rfl, U⟩

set_option maxRecDepth 100000 in
theorem turned_any (l h : Int) (w : World) (l1 : -10000000 ≤ l) (l2 : l ≤ 10000000) (h1 : -10000000 ≤ h) (h2 : h ≤ 10000000) : Calls Try.prog 113 #[SpV l h] w fun e w' => e = .returned (SpV (-h) (-l)) ∧ Up w w' := by
  have U := (Up.refl w).alloc (.cells #[.int .i64 l, .int .i64 h] 34)
  go_enter Try.func113, Try.ntmps113
  go_wp2
  exact bodyPost_ret (v := SpV (-h) (-l)) (by simp [results, Try.results113, go_sem]) rfl ⟨rfl, U.alloc _⟩
set_option maxRecDepth 100000 in
theorem both_any (l h l' h' : Int) (w : World) : Calls Try.prog 108 #[SpV l h, SpV l' h'] w fun e w' => e = .returned (SpV (max l l') (min h h')) ∧ Up w w' := by
  have U := ((Up.refl w).alloc (.cells #[.int .i64 l, .int .i64 h] 34)).alloc (.cells #[.int .i64 l', .int .i64 h'] 34)
  have hMn : ∀ (ts : Array TypeId) (t' : TypeId) (w : World), (Builtin.min_ ts t' #[.int .i64 h, .int .i64 h']).run Try.prog w = .ok (.int .i64 (min h h')) w := fun ts t' w => by
    have e : (if h' < h then h' else h) = min h h' := by split <;> omega
    rw [run_min_int2, e]
  have hMx : ∀ (ts : Array TypeId) (t' : TypeId) (w : World), (Builtin.max_ ts t' #[.int .i64 l, .int .i64 l']).run Try.prog w = .ok (.int .i64 (max l l')) w := fun ts t' w => by
    have e : (if l' > l then l' else l) = max l l' := by split <;> omega
    rw [run_max_int2, e]
  generalize max l l' = a at *
  generalize min h h' = b at *
  go_enter Try.func108, Try.ntmps108
  go_wp2
  exact bodyPost_ret (v := SpV a b) (by simp [results, Try.results108, go_sem]) rfl ⟨rfl, U.alloc _⟩

theorem S.merge2 {P : Prop} (R : World → Nat → Nat → Prop) {G : World → Nat → Nat → Prop} (h1 : Hid (∀ w' b c, R w' b c → G w' b c) → P) (h2 : ∀ w' b c, R w' b c → G w' b c) : P := h1 (Lib.hid h2)
theorem sum2_any {x y z : Int} (hz : x + y = z) (z1 : -100000000 ≤ z) (z2 : z ≤ 100000000) (w : World) (b : Nat) (k : mblk w b = some (.cells #[.int .i64 x, .int .i64 y] 3 (0, 0))) : Calls Try.prog 118 #[.slice (some ⟨b, 0, none⟩) 2 2] w fun e w' => e = .returned (.int .i64 z) ∧ w = w' := by
  have K := sum_any (Ints.new (cap := 2) (xs := [x, y]) k (by simp) (by simp) (fun j hj => by
    match j, hj with
    | 0, _ => rfl
    | 1, _ => rfl))
  have es : wrap64 ([x, y] : List Int).sum = z := by
    rw [← hz, wrap_in (by unfold D.in64; simp; omega)]; simp
  rw [es] at K
  exact K

set_option maxRecDepth 100000 in
set_option maxHeartbeats 4000000 in
theorem added_any (l h l' h' : Int) (w : World) (l1 : -100000000 ≤ l + l') (l2 : l + l' ≤ 100000000) (h1 : -100000000 ≤ h + h') (h2 : h + h' ≤ 100000000) : Calls Try.prog 111 #[SpV l h, SpV l' h'] w fun e w' => e = .returned (SpV (l + l') (h + h')) ∧ Up w w' := by
  have HS4 := Lib.hid (fun w b k => sum2_any (x := l) (y := l') rfl l1 l2 w b k)
  have HS10 := Lib.hid (fun w b k => sum2_any (x := h) (y := h') rfl h1 h2 w b k)
  clear l1 l2 h1 h2
  go_enter Try.func111, Try.ntmps111
  go_wp2_with fail
  obtain ⟨W0, hW0⟩ : ∃ W0, ((w.alloc (.cells #[.int .i64 l, .int .i64 h] 34)).alloc (.cells #[.int .i64 l', .int .i64 h'] 34)).alloc (.cells #[.int .i64 0, .int .i64 0] 34) = W0 := ⟨_, rfl⟩
  have U0 : Up w W0 := by rw [← hW0]; exact (((Up.refl w).alloc _).alloc _).alloc _
  have ka : mblk W0 w.heap.size = some (.cells #[.int .i64 l, .int .i64 h] 34 (0, 0)) := by rw [← hW0]; exact blk_keep _ (blk_keep _ (blk_new _ _ _ rfl))
  have kb : mblk W0 (w.heap.size + 1) = some (.cells #[.int .i64 l', .int .i64 h'] 34 (0, 0)) := by rw [← hW0]; exact blk_keep _ (blk_new _ _ _ (by simp))
  have kc : mblk W0 (w.heap.size + 1 + 1) = some (.cells #[.int .i64 0, .int .i64 0] 34 (0, 0)) := by rw [← hW0]; exact blk_new _ _ _ (by simp)
  try rw [hW0]
  clear hW0
  apply S.merge2 (fun w' _ _ => Up w w' ∧ mblk w' (w.heap.size + 1 + 1) = some (.cells #[.int .i64 (l + l'), .int .i64 (h + h')] 34 (0, 0)))
  · intro HKey
    refine wp_region_held_drew (S := fun w' => Up w w' ∧ mblk w' w.heap.size = some (.cells #[.int .i64 l, .int .i64 h] 34 (0, 0)) ∧ mblk w' (w.heap.size + 1) = some (.cells #[.int .i64 l', .int .i64 h'] 34 (0, 0)) ∧ ∃ q : Value × Value, mblk w' (w.heap.size + 1 + 1) = some (.cells #[q.1, q.2] 34 (0, 0))) (by kernel_rfl) ⟨U0.drew, by rw [blk_drew]; exact ka, by rw [blk_drew]; exact kb, (.int .i64 0, .int .i64 0), by rw [blk_drew]; exact kc⟩ (fun hHeld => ?_)
    refine takeH (i := 0) (d := (some 5)) (v := ?v1) rfl rfl (by kernel_rfl) (by kernel_rfl) (by kernel_rfl) (fun _ _ _ h => h) (by rfl) ?hy1 (by assumption) ?_
    case hy1 => ((intro w hSw; (try dsimp only at hSw); (try go_split_ands); go_simp); try with_reducible rfl)
    simp only [Act.put, List.setIfInBounds_toArray, List.set_cons_zero, List.set_cons_succ]
    refine takeH (i := 1) (d := (some 6)) (v := ?v2) rfl rfl (by kernel_rfl) (by kernel_rfl) (by kernel_rfl) (fun _ _ _ h => h) (by rfl) ?hy2 (by assumption) ?_
    case hy2 => ((intro w hSw; (try dsimp only at hSw); (try go_split_ands); go_simp); try with_reducible rfl)
    simp only [Act.put, List.setIfInBounds_toArray, List.set_cons_zero, List.set_cons_succ]
    refine takeH (i := 2) (d := (some 7)) (v := ?v3) rfl rfl (by kernel_rfl) (by kernel_rfl) (by kernel_rfl) (fun _ _ _ h => h) (by rfl) ?hy3 (by assumption) ?_
    case hy3 => ((intro w hSw; (try dsimp only at hSw); (try go_split_ands); go_simp); try with_reducible rfl)
    simp only [Act.put, List.setIfInBounds_toArray, List.set_cons_zero, List.set_cons_succ]
    refine takeH (i := 3) (d := (some 8)) (v := ?v4) rfl rfl (by kernel_rfl) (by kernel_rfl) (by kernel_rfl) (fun _ _ _ h => h) (by rfl) ?hy4 (by assumption) ?_
    case hy4 => ((intro w hSw; (try dsimp only at hSw); (try go_split_ands); go_simp); try with_reducible rfl)
    simp only [Act.put, List.setIfInBounds_toArray, List.set_cons_zero, List.set_cons_succ]
    refine takeH (i := 6) (d := (some 11)) (v := ?v5) rfl rfl (by kernel_rfl) (by kernel_rfl) (by kernel_rfl) (fun _ _ _ h => h) (by rfl) ?hy5 (by assumption) ?_
    case hy5 => ((intro w hSw; (try dsimp only at hSw); (try go_split_ands); go_simp); try with_reducible rfl)
    simp only [Act.put, List.setIfInBounds_toArray, List.set_cons_zero, List.set_cons_succ]
    refine takeH (i := 7) (d := (some 12)) (v := ?v6) rfl rfl (by kernel_rfl) (by kernel_rfl) (by kernel_rfl) (fun _ _ _ h => h) (by rfl) ?hy6 (by assumption) ?_
    case hy6 => ((intro w hSw; (try dsimp only at hSw); (try go_split_ands); go_simp); try with_reducible rfl)
    simp only [Act.put, List.setIfInBounds_toArray, List.set_cons_zero, List.set_cons_succ]
    refine takeH (i := 8) (d := (some 13)) (v := ?v7) rfl rfl (by kernel_rfl) (by kernel_rfl) (by kernel_rfl) (fun _ _ _ h => h) (by rfl) ?hy7 (by assumption) ?_
    case hy7 => ((intro w hSw; (try dsimp only at hSw); (try go_split_ands); go_simp); try with_reducible rfl)
    simp only [Act.put, List.setIfInBounds_toArray, List.set_cons_zero, List.set_cons_succ]
    refine takeH (i := 9) (d := (some 14)) (v := ?v8) rfl rfl (by kernel_rfl) (by kernel_rfl) (by kernel_rfl) (fun _ _ _ h => h) (by rfl) ?hy8 (by assumption) ?_
    case hy8 => ((intro w hSw; (try dsimp only at hSw); (try go_split_ands); go_simp); try with_reducible rfl)
    simp only [Act.put, List.setIfInBounds_toArray, List.set_cons_zero, List.set_cons_succ]
    refine wpAnyH_ready (rs := [4, 10]) (by kernel_rfl) (by simp) ?_
    refine AllReadyH.cons rfl (fun K hK => ?_) (AllReadyH.cons rfl (fun K hK => ?_) AllReadyH.nil)
    · go_simp
      obtain ⟨y1, hY⟩ : ∃ Y, (W0.alloc (.cells #[.int .i64 l, .int .i64 l'] 3)).drew = Y := ⟨_, rfl⟩
      obtain ⟨b4, hb⟩ : ∃ b, W0.heap.size = b := ⟨_, rfl⟩
      have z4 : mblk y1 b4 = some (.cells #[.int .i64 l, .int .i64 l'] 3 (0, 0)) := by rw [← hY, blk_drew]; exact blk_new _ _ _ hb.symm
      have V : Up W0.drew y1 := by rw [← hY]; exact (Up.refl W0.drew).alloc (.cells #[.int .i64 l, .int .i64 l'] 3)
      rw [hb, hY]
      refine hK.out _ _ ⟨hHeld.1.trans V, V.blk hHeld.2.1, V.blk hHeld.2.2.1, hHeld.2.2.2.elim fun q k => ⟨q, V.blk k⟩⟩ (fun hHeld => ?_)
      clear hK K hY V hb
      refine wpAnyH_ready (rs := [5, 10]) (by kernel_rfl) (by simp) ?_
      refine AllReadyH.cons rfl (fun K hK => ?_) (AllReadyH.cons rfl (fun K hK => ?_) AllReadyH.nil)
      · go_simp
        refine (HS4.out _ _ z4).mono ?_
        rintro e y2 ⟨rfl, rfl⟩
        go_wp2_with fail
        refine hK.out _ _ hHeld (fun hHeld => ?_)
        clear hK K
        refine wpAnyH_ready (rs := [10]) (by kernel_rfl) (by simp) ?_
        refine AllReadyH.cons rfl (fun K hK => ?_) AllReadyH.nil
        go_simp
        obtain ⟨y3, hY⟩ : ∃ Y, (y1.alloc (.cells #[.int .i64 h, .int .i64 h'] 3)) = Y := ⟨_, rfl⟩
        obtain ⟨b10, hb⟩ : ∃ b, y1.heap.size = b := ⟨_, rfl⟩
        have z10 : mblk y3 b10 = some (.cells #[.int .i64 h, .int .i64 h'] 3 (0, 0)) := by rw [← hY]; exact blk_new _ _ _ hb.symm
        have V : Up y1 y3 := by rw [← hY]; exact (Up.refl y1).alloc (.cells #[.int .i64 h, .int .i64 h'] 3)
        rw [hb, hY]
        refine hK.out _ _ ⟨hHeld.1.trans V, V.blk hHeld.2.1, V.blk hHeld.2.2.1, hHeld.2.2.2.elim fun q k => ⟨q, V.blk k⟩⟩ (fun hHeld => ?_)
        replace z4 := V.blk z4
        clear hK K hY V hb
        refine wpAnyH_ready (rs := [11]) (by kernel_rfl) (by simp) ?_
        refine AllReadyH.cons rfl (fun K hK => ?_) AllReadyH.nil
        go_simp
        refine (HS10.out _ _ z10).mono ?_
        rintro e y4 ⟨rfl, rfl⟩
        go_wp2_with fail
        refine hK.out _ _ hHeld (fun hHeld => ?_)
        clear hK K
        refine takeH (i := 12) (d := (some 17)) (v := ?v11) rfl rfl (by kernel_rfl) (by kernel_rfl) (by kernel_rfl) (fun _ _ _ h => h) (by rfl) ?hy11 (by assumption) ?_
        case hy11 => ((intro w hSw; (try dsimp only at hSw); (try go_split_ands); go_simp); try with_reducible rfl)
        simp only [Act.put, List.setIfInBounds_toArray, List.set_cons_zero, List.set_cons_succ]
        obtain ⟨qc, kc⟩ := hHeld.2.2.2
        have fc := cellB kc
        have gc := frozB kc
        refine wpAnyH_ready (rs := [13]) (by kernel_rfl) (by simp) ?_
        refine AllReadyH.cons rfl (fun K hK => ?_) AllReadyH.nil
        go_simp
        obtain ⟨s5, hY⟩ : ∃ Y, (y3.setCell ⟨w.heap.size + 1 + 1, 0, none⟩ (.int .i64 (l + l'))).setCell ⟨w.heap.size + 1 + 1, 1, none⟩ (.int .i64 (h + h')) = Y := ⟨_, rfl⟩
        have kd : mblk s5 (w.heap.size + 1 + 1) = some (.cells #[.int .i64 (l + l'), .int .i64 (h + h')] 34 (0, 0)) := by rw [← hY]; exact blk_put (blk_put kc 0 _) 1 _
        have V : Up w s5 := by rw [← hY]; exact Up.set (Up.set hHeld.1 (by show w.heap.size ≤ w.heap.size + 1 + 1; omega) _) (by show w.heap.size ≤ w.heap.size + 1 + 1; omega) _
        have ka' : mblk s5 w.heap.size = some (.cells #[.int .i64 l, .int .i64 h] 34 (0, 0)) := by rw [← hY, blk_set _ _ _ _ (by show w.heap.size ≠ w.heap.size + 1 + 1; omega), blk_set _ _ _ _ (by show w.heap.size ≠ w.heap.size + 1 + 1; omega)]; exact hHeld.2.1
        have kb' : mblk s5 (w.heap.size + 1) = some (.cells #[.int .i64 l', .int .i64 h'] 34 (0, 0)) := by rw [← hY, blk_set _ _ _ _ (by show w.heap.size + 1 ≠ w.heap.size + 1 + 1; omega), blk_set _ _ _ _ (by show w.heap.size + 1 ≠ w.heap.size + 1 + 1; omega)]; exact hHeld.2.2.1
        rw [hY]
        refine hK.out _ _ ⟨V, ka', kb', (_, _), kd⟩ (fun hHeld => ?_)
        clear hK K hY
        refine wpAnyH_done (by kernel_rfl) ?_ _
        exact HKey.out _ b4 b10 ⟨V, kd⟩
      · go_simp
        obtain ⟨y6, hY⟩ : ∃ Y, (y1.alloc (.cells #[.int .i64 h, .int .i64 h'] 3)) = Y := ⟨_, rfl⟩
        obtain ⟨b10, hb⟩ : ∃ b, y1.heap.size = b := ⟨_, rfl⟩
        have z10 : mblk y6 b10 = some (.cells #[.int .i64 h, .int .i64 h'] 3 (0, 0)) := by rw [← hY]; exact blk_new _ _ _ hb.symm
        have V : Up y1 y6 := by rw [← hY]; exact (Up.refl y1).alloc (.cells #[.int .i64 h, .int .i64 h'] 3)
        rw [hb, hY]
        refine hK.out _ _ ⟨hHeld.1.trans V, V.blk hHeld.2.1, V.blk hHeld.2.2.1, hHeld.2.2.2.elim fun q k => ⟨q, V.blk k⟩⟩ (fun hHeld => ?_)
        replace z4 := V.blk z4
        clear hK K hY V hb
        refine wpAnyH_ready (rs := [5]) (by kernel_rfl) (by simp) ?_
        refine AllReadyH.cons rfl (fun K hK => ?_) AllReadyH.nil
        go_simp
        refine (HS4.out _ _ z4).mono ?_
        rintro e y7 ⟨rfl, rfl⟩
        go_wp2_with fail
        refine hK.out _ _ hHeld (fun hHeld => ?_)
        clear hK K
        refine wpAnyH_ready (rs := [11]) (by kernel_rfl) (by simp) ?_
        refine AllReadyH.cons rfl (fun K hK => ?_) AllReadyH.nil
        go_simp
        refine (HS10.out _ _ z10).mono ?_
        rintro e y8 ⟨rfl, rfl⟩
        go_wp2_with fail
        refine hK.out _ _ hHeld (fun hHeld => ?_)
        clear hK K
        refine takeH (i := 12) (d := (some 17)) (v := ?v15) rfl rfl (by kernel_rfl) (by kernel_rfl) (by kernel_rfl) (fun _ _ _ h => h) (by rfl) ?hy15 (by assumption) ?_
        case hy15 => ((intro w hSw; (try dsimp only at hSw); (try go_split_ands); go_simp); try with_reducible rfl)
        simp only [Act.put, List.setIfInBounds_toArray, List.set_cons_zero, List.set_cons_succ]
        obtain ⟨qc, kc⟩ := hHeld.2.2.2
        have fc := cellB kc
        have gc := frozB kc
        refine wpAnyH_ready (rs := [13]) (by kernel_rfl) (by simp) ?_
        refine AllReadyH.cons rfl (fun K hK => ?_) AllReadyH.nil
        go_simp
        obtain ⟨s9, hY⟩ : ∃ Y, (y6.setCell ⟨w.heap.size + 1 + 1, 0, none⟩ (.int .i64 (l + l'))).setCell ⟨w.heap.size + 1 + 1, 1, none⟩ (.int .i64 (h + h')) = Y := ⟨_, rfl⟩
        have kd : mblk s9 (w.heap.size + 1 + 1) = some (.cells #[.int .i64 (l + l'), .int .i64 (h + h')] 34 (0, 0)) := by rw [← hY]; exact blk_put (blk_put kc 0 _) 1 _
        have V : Up w s9 := by rw [← hY]; exact Up.set (Up.set hHeld.1 (by show w.heap.size ≤ w.heap.size + 1 + 1; omega) _) (by show w.heap.size ≤ w.heap.size + 1 + 1; omega) _
        have ka' : mblk s9 w.heap.size = some (.cells #[.int .i64 l, .int .i64 h] 34 (0, 0)) := by rw [← hY, blk_set _ _ _ _ (by show w.heap.size ≠ w.heap.size + 1 + 1; omega), blk_set _ _ _ _ (by show w.heap.size ≠ w.heap.size + 1 + 1; omega)]; exact hHeld.2.1
        have kb' : mblk s9 (w.heap.size + 1) = some (.cells #[.int .i64 l', .int .i64 h'] 34 (0, 0)) := by rw [← hY, blk_set _ _ _ _ (by show w.heap.size + 1 ≠ w.heap.size + 1 + 1; omega), blk_set _ _ _ _ (by show w.heap.size + 1 ≠ w.heap.size + 1 + 1; omega)]; exact hHeld.2.2.1
        rw [hY]
        refine hK.out _ _ ⟨V, ka', kb', (_, _), kd⟩ (fun hHeld => ?_)
        clear hK K hY
        refine wpAnyH_done (by kernel_rfl) ?_ _
        exact HKey.out _ b4 b10 ⟨V, kd⟩
    · go_simp
      obtain ⟨y10, hY⟩ : ∃ Y, (W0.alloc (.cells #[.int .i64 h, .int .i64 h'] 3)).drew = Y := ⟨_, rfl⟩
      obtain ⟨b10, hb⟩ : ∃ b, W0.heap.size = b := ⟨_, rfl⟩
      have z10 : mblk y10 b10 = some (.cells #[.int .i64 h, .int .i64 h'] 3 (0, 0)) := by rw [← hY, blk_drew]; exact blk_new _ _ _ hb.symm
      have V : Up W0.drew y10 := by rw [← hY]; exact (Up.refl W0.drew).alloc (.cells #[.int .i64 h, .int .i64 h'] 3)
      rw [hb, hY]
      refine hK.out _ _ ⟨hHeld.1.trans V, V.blk hHeld.2.1, V.blk hHeld.2.2.1, hHeld.2.2.2.elim fun q k => ⟨q, V.blk k⟩⟩ (fun hHeld => ?_)
      clear hK K hY V hb
      refine wpAnyH_ready (rs := [4]) (by kernel_rfl) (by simp) ?_
      refine AllReadyH.cons rfl (fun K hK => ?_) AllReadyH.nil
      go_simp
      obtain ⟨y11, hY⟩ : ∃ Y, (y10.alloc (.cells #[.int .i64 l, .int .i64 l'] 3)) = Y := ⟨_, rfl⟩
      obtain ⟨b4, hb⟩ : ∃ b, y10.heap.size = b := ⟨_, rfl⟩
      have z4 : mblk y11 b4 = some (.cells #[.int .i64 l, .int .i64 l'] 3 (0, 0)) := by rw [← hY]; exact blk_new _ _ _ hb.symm
      have V : Up y10 y11 := by rw [← hY]; exact (Up.refl y10).alloc (.cells #[.int .i64 l, .int .i64 l'] 3)
      rw [hb, hY]
      refine hK.out _ _ ⟨hHeld.1.trans V, V.blk hHeld.2.1, V.blk hHeld.2.2.1, hHeld.2.2.2.elim fun q k => ⟨q, V.blk k⟩⟩ (fun hHeld => ?_)
      replace z10 := V.blk z10
      clear hK K hY V hb
      refine wpAnyH_ready (rs := [5]) (by kernel_rfl) (by simp) ?_
      refine AllReadyH.cons rfl (fun K hK => ?_) AllReadyH.nil
      go_simp
      refine (HS4.out _ _ z4).mono ?_
      rintro e y12 ⟨rfl, rfl⟩
      go_wp2_with fail
      refine hK.out _ _ hHeld (fun hHeld => ?_)
      clear hK K
      refine wpAnyH_ready (rs := [11]) (by kernel_rfl) (by simp) ?_
      refine AllReadyH.cons rfl (fun K hK => ?_) AllReadyH.nil
      go_simp
      refine (HS10.out _ _ z10).mono ?_
      rintro e y13 ⟨rfl, rfl⟩
      go_wp2_with fail
      refine hK.out _ _ hHeld (fun hHeld => ?_)
      clear hK K
      refine takeH (i := 12) (d := (some 17)) (v := ?v20) rfl rfl (by kernel_rfl) (by kernel_rfl) (by kernel_rfl) (fun _ _ _ h => h) (by rfl) ?hy20 (by assumption) ?_
      case hy20 => ((intro w hSw; (try dsimp only at hSw); (try go_split_ands); go_simp); try with_reducible rfl)
      simp only [Act.put, List.setIfInBounds_toArray, List.set_cons_zero, List.set_cons_succ]
      obtain ⟨qc, kc⟩ := hHeld.2.2.2
      have fc := cellB kc
      have gc := frozB kc
      refine wpAnyH_ready (rs := [13]) (by kernel_rfl) (by simp) ?_
      refine AllReadyH.cons rfl (fun K hK => ?_) AllReadyH.nil
      go_simp
      obtain ⟨s14, hY⟩ : ∃ Y, (y11.setCell ⟨w.heap.size + 1 + 1, 0, none⟩ (.int .i64 (l + l'))).setCell ⟨w.heap.size + 1 + 1, 1, none⟩ (.int .i64 (h + h')) = Y := ⟨_, rfl⟩
      have kd : mblk s14 (w.heap.size + 1 + 1) = some (.cells #[.int .i64 (l + l'), .int .i64 (h + h')] 34 (0, 0)) := by rw [← hY]; exact blk_put (blk_put kc 0 _) 1 _
      have V : Up w s14 := by rw [← hY]; exact Up.set (Up.set hHeld.1 (by show w.heap.size ≤ w.heap.size + 1 + 1; omega) _) (by show w.heap.size ≤ w.heap.size + 1 + 1; omega) _
      have ka' : mblk s14 w.heap.size = some (.cells #[.int .i64 l, .int .i64 h] 34 (0, 0)) := by rw [← hY, blk_set _ _ _ _ (by show w.heap.size ≠ w.heap.size + 1 + 1; omega), blk_set _ _ _ _ (by show w.heap.size ≠ w.heap.size + 1 + 1; omega)]; exact hHeld.2.1
      have kb' : mblk s14 (w.heap.size + 1) = some (.cells #[.int .i64 l', .int .i64 h'] 34 (0, 0)) := by rw [← hY, blk_set _ _ _ _ (by show w.heap.size + 1 ≠ w.heap.size + 1 + 1; omega), blk_set _ _ _ _ (by show w.heap.size + 1 ≠ w.heap.size + 1 + 1; omega)]; exact hHeld.2.2.1
      rw [hY]
      refine hK.out _ _ ⟨V, ka', kb', (_, _), kd⟩ (fun hHeld => ?_)
      clear hK K hY
      refine wpAnyH_done (by kernel_rfl) ?_ _
      exact HKey.out _ b4 b10 ⟨V, kd⟩
  intro w7 b4 b10 ⟨U7, kd⟩
  have c7 := cellB kd
  clear HS4 HS10 ka kb kc U0
  go_wp2_with fail
  exact bodyPost_ret (v := SpV (l + l') (h + h')) (by simp [results, Try.results111, go_sem, c7]) rfl ⟨rfl, U7⟩


set_option maxRecDepth 100000 in
theorem ahead1_any (l h : Int) (w : World) : Calls Try.prog 96 #[SpV l h] w fun e w' => e = .returned (.int .i64 h) ∧ Up w w' := by
  have U := (Up.refl w).alloc (.cells #[.int .i64 l, .int .i64 h] 34)
  go_enter Try.func96, Try.ntmps96
  go_wp2
  go_ret
  exact ⟨rfl, U⟩
set_option maxRecDepth 100000 in
theorem behind1_any (l h : Int) (w : World) (l1 : -1000000000 ≤ l) (l2 : l ≤ 1000000000) : Calls Try.prog 97 #[SpV l h] w fun e w' => e = .returned (.int .i64 (-l)) ∧ Up w w' := by
  have U := (Up.refl w).alloc (.cells #[.int .i64 l, .int .i64 h] 34)
  go_enter Try.func97, Try.ntmps97
  go_wp2
  go_ret
  exact ⟨rfl, U⟩
/-- a side -/
abbrev SdV (ah : Bool) : Value := .agg #[.func (.func (if ah then 96 else 97)) #[] #[], .int .i64 (if ah then 1 else -1)]
abbrev AhV : Value := .agg #[.func (.func 96) #[] #[], .int .i64 1]
abbrev BeV : Value := .agg #[.func (.func 97) #[] #[], .int .i64 (-1)]
set_option maxRecDepth 100000 in
theorem ahead_any (w : World) : Calls Try.prog 80 #[] w fun e w' => e = .returned AhV ∧ Up w w' := by
  go_enter Try.func80, Try.ntmps80
  go_wp2
  exact bodyPost_ret (v := AhV) (by simp [results, Try.results80, go_sem]) rfl ⟨rfl, (Up.refl w).alloc _⟩
set_option maxRecDepth 100000 in
theorem behind_any (w : World) : Calls Try.prog 81 #[] w fun e w' => e = .returned BeV ∧ Up w w' := by
  go_enter Try.func81, Try.ntmps81
  go_wp2
  exact bodyPost_ret (v := BeV) (by simp [results, Try.results81, go_sem]) rfl ⟨rfl, (Up.refl w).alloc _⟩
/-- the moment of a clock at an hour -/
theorem at_clock (c h : Int) (w : World) (hc : ¬ c = -1) : Calls Try.prog 54 #[.int .i64 c, .int .i64 h] w fun e w' => e = .returned (MoV c h) ∧ Up w w' := by
  have hb : (c == -1) = false := beq_eq_false_iff_ne.2 hc
  go_enter Try.func54, Try.ntmps54
  go_wp2
  exact bodyPost_ret (v := MoV c h) (by simp [results, Try.results54, go_sem]) rfl ⟨rfl, (Up.refl w).alloc _⟩
theorem at_true (h : Int) (w : World) : Calls Try.prog 54 #[.int .i64 (-1), .int .i64 h] w fun e w' => e = .returned (MoV (-1) 0) ∧ Up w w' := by
  go_enter Try.func54, Try.ntmps54
  go_wp2
  exact bodyPost_ret (v := MoV (-1) 0) (by simp [results, Try.results54, go_sem]) rfl ⟨rfl, (Up.refl w).alloc _⟩
/-- the hour of the moment of a clock at an hour -/
def T.hr (c h : Int) : Int := if c = -1 then 0 else h
theorem at_any (c h : Int) (w : World) : Calls Try.prog 54 #[.int .i64 c, .int .i64 h] w fun e w' => e = .returned (MoV c (T.hr c h)) ∧ Up w w' := by
  by_cases hc : c = -1
  · subst hc; exact at_true h w
  · unfold T.hr; rw [if_neg hc]; exact at_clock c h w hc

end Go.Proofs.Ytcmdaiklkdeanaa
