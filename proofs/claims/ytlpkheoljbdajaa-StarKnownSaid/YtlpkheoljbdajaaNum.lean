import Derived.Test.YtlpkheoljbdajaaLib
import Derived.RangeFuncNested
import Derived.RangeFuncBound
import Derived.RangeFuncCalls
import Derived.RangeFuncLeaves
import Derived.Shelf.Abstract
import Derived.Shelf.RegionOpen
import Derived.OwnWalkIn
import Derived.TacticsInMore
import Derived.LoopNIn
import Derived.LoopIn
import Derived.RangeFuncBox
import Derived.DeepKeys
import Derived.Deep.WholeRow
/- The contracts of star's smallest functions: numbers, spans, ties, sides, kinds. -/
namespace Go.Proofs.Ytlpkheoljbdajaa
open Go.RowKit

theorem cell_Span {w : World} {b : Nat} {cs : Array Value} (h : mblk w b = some (.cells cs 23 (0, 0))) (j : Nat) : w.cell? ⟨b, j, none⟩ = cs[j]? := cellB h j
theorem cell_Book {w : World} {b : Nat} {cs : Array Value} (h : mblk w b = some (.cells cs 27 (0, 0))) (j : Nat) : w.cell? ⟨b, j, none⟩ = cs[j]? := cellB h j
theorem cell_book {w : World} {b : Nat} {cs : Array Value} (h : mblk w b = some (.cells cs 81 (0, 0))) (j : Nat) : w.cell? ⟨b, j, none⟩ = cs[j]? := cellB h j
theorem cell_web {w : World} {b : Nat} {cs : Array Value} (h : mblk w b = some (.cells cs 90 (0, 0))) (j : Nat) : w.cell? ⟨b, j, none⟩ = cs[j]? := cellB h j
theorem cell_side {w : World} {b : Nat} {cs : Array Value} (h : mblk w b = some (.cells cs 108 (0, 0))) (j : Nat) : w.cell? ⟨b, j, none⟩ = cs[j]? := cellB h j
theorem cell_look {w : World} {b : Nat} {cs : Array Value} (h : mblk w b = some (.cells cs 63 (0, 0))) (j : Nat) : w.cell? ⟨b, j, none⟩ = cs[j]? := cellB h j
theorem cell_looks {w : World} {b : Nat} {cs : Array Value} (h : mblk w b = some (.cells cs 79 (0, 0))) (j : Nat) : w.cell? ⟨b, j, none⟩ = cs[j]? := cellB h j
theorem cell_tie {w : World} {b : Nat} {cs : Array Value} (h : mblk w b = some (.cells cs 145 (0, 0))) (j : Nat) : w.cell? ⟨b, j, none⟩ = cs[j]? := cellB h j
theorem cell_two {w : World} {b : Nat} {cs : Array Value} (h : mblk w b = some (.cells cs 143 (0, 0))) (j : Nat) : w.cell? ⟨b, j, none⟩ = cs[j]? := cellB h j
theorem cell_numbers {w : World} {b : Nat} {cs : Array Value} (h : mblk w b = some (.cells cs 85 (0, 0))) (j : Nat) : w.cell? ⟨b, j, none⟩ = cs[j]? := cellB h j
theorem cell_spans {w : World} {b : Nat} {cs : Array Value} (h : mblk w b = some (.cells cs 147 (0, 0))) (j : Nat) : w.cell? ⟨b, j, none⟩ = cs[j]? := cellB h j
theorem cell_Truth {w : World} {b : Nat} {cs : Array Value} (h : mblk w b = some (.cells cs 30 (0, 0))) (j : Nat) : w.cell? ⟨b, j, none⟩ = cs[j]? := cellB h j
theorem cell_truth {w : World} {b : Nat} {cs : Array Value} (h : mblk w b = some (.cells cs 128 (0, 0))) (j : Nat) : w.cell? ⟨b, j, none⟩ = cs[j]? := cellB h j
theorem cell_int {w : World} {b : Nat} {cs : Array Value} (h : mblk w b = some (.cells cs 3 (0, 0))) (j : Nat) : w.cell? ⟨b, j, none⟩ = cs[j]? := cellB h j
theorem cell_kinds {w : World} {b : Nat} {cs : Array Value} (h : mblk w b = some (.cells cs 134 (0, 0))) (j : Nat) : w.cell? ⟨b, j, none⟩ = cs[j]? := cellB h j
theorem cell_numA {w : World} {b : Nat} {cs : Array Value} (h : mblk w b = some (.cells cs 84 (0, 0))) (j : Nat) : w.cell? ⟨b, j, none⟩ = cs[j]? := cellB h j
attribute [go_sem] cell_Span cell_Book cell_book cell_web cell_side cell_look cell_looks cell_tie cell_two cell_numbers cell_spans cell_Truth cell_truth cell_int cell_kinds cell_numA
/-- values: a span, two things, a tie, a look -/
abbrev SpV (l h : Int) : Value := .agg #[.int .i64 l, .int .i64 h]
abbrev TwV (a b : Int) : Value := .agg #[.int .i64 a, .int .i64 b]
abbrev TiC (a b l u : Int) : Array Value := #[.int .i64 a, .int .i64 b, .int .i64 l, .int .i64 u]
abbrev TiV (a b l u : Int) : Value := .agg (TiC a b l u)
abbrev LkC (n k w r e : Int) : Array Value := #[.int .i64 n, .int .i64 k, .int .i64 w, .int .i64 r, .int .i64 e]
abbrev LkV (n k w r e : Int) : Value := .agg (LkC n k w r e)
/-- a book, and one in the calculation: with the looks that are left out -/
abbrev BoC (N bl bh rl rh : Int) (P Q L : Value) : Array Value := #[.int .i64 N, .int .i64 bl, .int .i64 bh, .int .i64 rl, .int .i64 rh, P, Q, L]
abbrev BoV (N bl bh rl rh : Int) (P Q L : Value) : Value := .agg (BoC N bl bh rl rh P Q L)
abbrev BkC (N bl bh rl rh : Int) (P Q L : Value) (o : Nat → Bool) : Array Value := #[.int .i64 N, .int .i64 bl, .int .i64 bh, .int .i64 rl, .int .i64 rh, P, Q, L, .bool (o 0), .bool (o 1), .bool (o 2), .bool (o 3), .bool (o 4), .bool (o 5), .bool (o 6), .bool (o 7), .bool (o 8), .bool (o 9)]
abbrev BkV (N bl bh rl rh : Int) (P Q L : Value) (o : Nat → Bool) : Value := .agg (BkC N bl bh rl rh P Q L o)
/-- looks as a set -/
abbrev OuC (o : Nat → Bool) : Array Value := #[.bool (o 0), .bool (o 1), .bool (o 2), .bool (o 3), .bool (o 4), .bool (o 5), .bool (o 6), .bool (o 7), .bool (o 8), .bool (o 9)]
abbrev OuV (o : Nat → Bool) : Value := .agg (OuC o)

theorem within_any (n l h : Int) (w : World) : Calls Try.prog 91 #[.int .i64 n, .int .i64 l, .int .i64 h] w fun e w' => e = .returned (.bool (inB n l h)) ∧ w = w' := by
  by_cases h1 : l ≤ n
  · by_cases h2 : n ≤ h
    · go_enter Try.func91, Try.ntmps91
      go_wp2
      go_ret
      exact ⟨by rw [inB_yes h1 h2]; rfl, rfl⟩
    · go_enter Try.func91, Try.ntmps91
      go_wp2
      go_ret
      exact ⟨by rw [inB_no (by omega)]; rfl, rfl⟩
  · go_enter Try.func91, Try.ntmps91
    go_wp2
    go_ret
    exact ⟨by rw [inB_no (by omega)]; rfl, rfl⟩
theorem within_yes (n l h : Int) (w : World) (h1 : l ≤ n) (h2 : n ≤ h) : Calls Try.prog 91 #[.int .i64 n, .int .i64 l, .int .i64 h] w fun e w' => e = .returned (.bool true) ∧ w = w' :=
  (within_any n l h w).mono fun e w' ⟨he, hw⟩ => ⟨by rw [he, inB_yes h1 h2], hw⟩
theorem within_no (n l h : Int) (w : World) (h1 : ¬ (l ≤ n ∧ n ≤ h)) : Calls Try.prog 91 #[.int .i64 n, .int .i64 l, .int .i64 h] w fun e w' => e = .returned (.bool false) ∧ w = w' :=
  (within_any n l h w).mono fun e w' ⟨he, hw⟩ => ⟨by rw [he, inB_no h1], hw⟩

theorem ret_bool {a b : Bool} (h : a = b) : Ending.returned (.bool a) = .returned (.bool b) := by rw [h]
set_option maxRecDepth 100000 in
theorem least_any {v : Value} {x y : Int} {w : World} (I : Ints w v [y]) :
    Calls Try.prog 119 #[.int .i64 x, v] w fun e w' => e = .returned (.int .i64 (min x y)) ∧ w = w' := by
  obtain ⟨a, c, rfl, _, hl, hm⟩ := I.is
  have HM := Lib.hid hm
  clear hm I
  have HMn := Lib.hid (show (if y < x then y else x) = min x y by split <;> omega)
  go_enter Try.func119, Try.ntmps119
  go_wp2_with fail
  go_loop [0, 9] (fun t i => ∃ k : Nat, k ≤ 1 ∧ i = .int .i64 k ∧ t = .int .i64 (if k = 0 then x else min x y)) (fun _ i => 1 - (intOf i).toNat)
  case atStart => exact ⟨0, Nat.zero_le _, rfl, rfl⟩
  case round =>
    obtain ⟨k, hk, rfl, rfl⟩ := hrel
    by_cases hlt : k < 1
    · obtain rfl : k = 0 := by omega
      obtain ⟨g, off, rfl, _, hc⟩ := HM.out (by simp)
      have hcell : w.cell? ⟨g, off, none⟩ = some (.int .i64 y) := hc 0 (by simp)
      have hts := Lib.hid HMn.out
      rw [if_pos rfl]
      clear hc HM
      by_cases hxy : y < x
      · rw [if_pos hxy] at hts
        go_wp2
        go_round
        case rel => exact ⟨1, by omega, by go_num, by rw [if_neg (by decide), ← hts.out]⟩
        case measure => simp [intOf]
      · rw [if_neg hxy] at hts
        go_wp2
        go_round
        case rel => exact ⟨1, by omega, by go_num, by rw [if_neg (by decide), ← hts.out]⟩
        case measure => simp [intOf]
    · obtain rfl : k = 1 := by omega
      rw [if_neg (by decide)]
      go_wp2
      go_ret
      exact ⟨rfl, rfl⟩

/-- is a span one, between two numbers? -/
def S.spanOk (l h lo hi : Int) : Bool := inB l lo h && decide (h ≤ hi)
theorem S.spanOk_iff {l h lo hi : Int} : S.spanOk l h lo hi = true ↔ lo ≤ l ∧ l ≤ h ∧ h ≤ hi := by simp [S.spanOk, inB_iff, and_assoc]
theorem isSpan_any (l h lo hi : Int) (w : World) : Calls Try.prog 99 #[.agg #[.int .i64 l, .int .i64 h], .int .i64 lo, .int .i64 hi] w fun e w' => e = .returned (.bool (S.spanOk l h lo hi)) ∧ Up w w' := by
  have U := (Up.refl w).alloc (.cells #[.int .i64 l, .int .i64 h] 23)
  by_cases h1 : lo ≤ l ∧ l ≤ h
  · by_cases h2 : h ≤ hi
    · have e : S.spanOk l h lo hi = true := S.spanOk_iff.2 ⟨h1.1, h1.2, h2⟩
      rw [e]
      clear e
      go_enter Try.func99, Try.ntmps99
      go_wp2_with (go_at_call 91; refine (within_yes _ _ _ _ (by omega) (by omega)).mono ?_; rintro e w1 ⟨rfl, rfl⟩)
      go_ret
      exact ⟨rfl, U⟩
    · have e : S.spanOk l h lo hi = false := by simp [S.spanOk, h2]
      rw [e]
      clear e
      go_enter Try.func99, Try.ntmps99
      go_wp2_with (go_at_call 91; refine (within_yes _ _ _ _ (by omega) (by omega)).mono ?_; rintro e w1 ⟨rfl, rfl⟩)
      go_ret
      exact ⟨ret_bool (a := decide (h ≤ hi)) (b := false) (decide_eq_false (by omega)), U⟩
  · have e : S.spanOk l h lo hi = false := by simp [S.spanOk, inB_no h1]
    rw [e]
    clear e
    go_enter Try.func99, Try.ntmps99
    go_wp2_with (go_at_call 91; refine (within_no _ _ _ _ (by omega)).mono ?_; rintro e w1 ⟨rfl, rfl⟩)
    go_ret
    exact ⟨rfl, U⟩
set_option maxRecDepth 100000 in
theorem turned_any (l h : Int) (w : World) (l1 : -10000000 ≤ l) (l2 : l ≤ 10000000) (h1 : -10000000 ≤ h) (h2 : h ≤ 10000000) : Calls Try.prog 124 #[SpV l h] w fun e w' => e = .returned (SpV (-h) (-l)) ∧ Up w w' := by
  have U := (Up.refl w).alloc (.cells #[.int .i64 l, .int .i64 h] 23)
  go_enter Try.func124, Try.ntmps124
  go_wp2
  exact bodyPost_ret (v := SpV (-h) (-l)) (by simp [results, Try.results124, go_sem]) rfl ⟨rfl, U.alloc _⟩
theorem S.merge2 {P : Prop} (R : World → Nat → Nat → Prop) {G : World → Nat → Nat → Prop} (h1 : Hid (∀ w' b c, R w' b c → G w' b c) → P) (h2 : ∀ w' b c, R w' b c → G w' b c) : P := h1 (Lib.hid h2)
theorem least1_any {x y : Int} (w : World) (b : Nat) (k : mblk w b = some (.cells #[.int .i64 y] 3 (0, 0))) : Calls Try.prog 119 #[.int .i64 x, .slice (some ⟨b, 0, none⟩) 1 1] w fun e w' => e = .returned (.int .i64 (min x y)) ∧ w = w' :=
  least_any (Ints.new (cap := 1) (xs := [y]) k (by simp) (by simp) (fun j hj => by
    match j, hj with
    | 0, _ => rfl))

set_option maxRecDepth 100000 in
set_option maxHeartbeats 4000000 in
theorem both_any (l h l' h' : Int) (w : World) (l1 : -10000000 ≤ l) (l2 : l ≤ 10000000) (k1 : -10000000 ≤ l') (k2 : l' ≤ 10000000) : Calls Try.prog 131 #[SpV l h, SpV l' h'] w fun e w' => e = .returned (SpV (max l l') (min h h')) ∧ Up w w' := by
  have HS4 := Lib.hid (fun w b k => least1_any (x := -l) (y := -l') w b k)
  have HS10 := Lib.hid (fun w b k => least1_any (x := h) (y := h') w b k)
  have eM : -min (-l) (-l') = max l l' := by omega
  have b1 : -10000000 ≤ min (-l) (-l') ∧ min (-l) (-l') ≤ 10000000 := by omega
  generalize min h h' = mh at *
  generalize min (-l) (-l') = ml at *
  generalize max l l' = MX at *
  subst eM
  have wl : IntKind.i64.wrap (-l) = -l := IntWalk.i64_in _ (by omega)
  have wk : IntKind.i64.wrap (-l') = -l' := IntWalk.i64_in _ (by omega)
  have wm : IntKind.i64.wrap (-ml) = -ml := IntWalk.i64_in _ (by omega)
  clear l1 l2 k1 k2 b1
  go_enter Try.func131, Try.ntmps131
  go_wp2_with fail
  obtain ⟨W0, hW0⟩ : ∃ W0, ((w.alloc (.cells #[.int .i64 l, .int .i64 h] 23)).alloc (.cells #[.int .i64 l', .int .i64 h'] 23)).alloc (.cells #[.int .i64 0, .int .i64 0] 23) = W0 := ⟨_, rfl⟩
  have U0 : Up w W0 := by rw [← hW0]; exact (((Up.refl w).alloc _).alloc _).alloc _
  have ka : mblk W0 w.heap.size = some (.cells #[.int .i64 l, .int .i64 h] 23 (0, 0)) := by rw [← hW0]; exact blk_keep _ (blk_keep _ (blk_new _ _ _ rfl))
  have kb : mblk W0 (w.heap.size + 1) = some (.cells #[.int .i64 l', .int .i64 h'] 23 (0, 0)) := by rw [← hW0]; exact blk_keep _ (blk_new _ _ _ (by simp))
  have kc : mblk W0 (w.heap.size + 1 + 1) = some (.cells #[.int .i64 0, .int .i64 0] 23 (0, 0)) := by rw [← hW0]; exact blk_new _ _ _ (by simp)
  try rw [hW0]
  clear hW0
  apply S.merge2 (fun w' _ _ => Up w w' ∧ mblk w' (w.heap.size + 1 + 1) = some (.cells #[.int .i64 (-ml), .int .i64 mh] 23 (0, 0)))
  · intro HKey
    refine wp_region_held_drew (S := fun w' => Up w w' ∧ mblk w' w.heap.size = some (.cells #[.int .i64 l, .int .i64 h] 23 (0, 0)) ∧ mblk w' (w.heap.size + 1) = some (.cells #[.int .i64 l', .int .i64 h'] 23 (0, 0)) ∧ ∃ q : Value × Value, mblk w' (w.heap.size + 1 + 1) = some (.cells #[q.1, q.2] 23 (0, 0))) (by kernel_rfl) ⟨U0.drew, by rw [blk_drew]; exact ka, by rw [blk_drew]; exact kb, (.int .i64 0, .int .i64 0), by rw [blk_drew]; exact kc⟩ (fun hHeld => ?_)
    refine takeH (i := 0) (d := (some 5)) (v := ?v1) rfl rfl (by kernel_rfl) (by kernel_rfl) (by kernel_rfl) (fun _ _ _ h => h) (by rfl) ?hy1 (by assumption) ?_
    case hy1 => ((intro w hSw; (try dsimp only at hSw); (try go_split_ands); go_simp); try with_reducible rfl)
    simp only [Act.put, List.setIfInBounds_toArray, List.set_cons_zero, List.set_cons_succ]
    refine takeH (i := 1) (d := (some 6)) (v := ?v2) rfl rfl (by kernel_rfl) (by kernel_rfl) (by kernel_rfl) (fun _ _ _ h => h) (by rfl) ?hy2 (by assumption) ?_
    case hy2 => ((intro w hSw; (try dsimp only at hSw); (try go_split_ands); go_simp); try with_reducible rfl)
    simp only [Act.put, List.setIfInBounds_toArray, List.set_cons_zero, List.set_cons_succ]
    refine takeH (i := 2) (d := (some 7)) (v := ?v3) rfl rfl (by kernel_rfl) (by kernel_rfl) (by kernel_rfl) (fun _ _ _ h => h) (by rfl) ?hy3 (by assumption) ?_
    case hy3 => ((intro w hSw; (try dsimp only at hSw); (try go_split_ands); go_simp); try with_reducible rfl)
    simp only [Act.put, List.setIfInBounds_toArray, List.set_cons_zero, List.set_cons_succ]
    refine takeH (i := 3) (d := (some 8)) (v := ?v4) rfl rfl (by kernel_rfl) (by kernel_rfl) (by kernel_rfl) (fun _ _ _ h => h) (by rfl) ?hy4 (by assumption) ?_
    case hy4 => ((intro w hSw; (try dsimp only at hSw); (try go_split_ands); go_simp); try with_reducible rfl)
    simp only [Act.put, List.setIfInBounds_toArray, List.set_cons_zero, List.set_cons_succ]
    refine takeH (i := 4) (d := (some 9)) (v := ?v5) rfl rfl (by kernel_rfl) (by kernel_rfl) (by kernel_rfl) (fun _ _ _ h => h) (by rfl) ?hy5 (by assumption) ?_
    case hy5 => ((intro w hSw; (try dsimp only at hSw); (try go_split_ands); go_simp); try with_reducible rfl)
    simp only [Act.put, List.setIfInBounds_toArray, List.set_cons_zero, List.set_cons_succ]
    refine takeH (i := 5) (d := (some 10)) (v := ?v6) rfl rfl (by kernel_rfl) (by kernel_rfl) (by kernel_rfl) (fun _ _ _ h => h) (by rfl) ?hy6 (by assumption) ?_
    case hy6 => ((intro w hSw; (try dsimp only at hSw); (try go_split_ands); go_simp); try with_reducible rfl)
    simp only [Act.put, List.setIfInBounds_toArray, List.set_cons_zero, List.set_cons_succ]
    refine takeH (i := 9) (d := (some 14)) (v := ?v7) rfl rfl (by kernel_rfl) (by kernel_rfl) (by kernel_rfl) (fun _ _ _ h => h) (by rfl) ?hy7 (by assumption) ?_
    case hy7 => ((intro w hSw; (try dsimp only at hSw); (try go_split_ands); go_simp); try with_reducible rfl)
    simp only [Act.put, List.setIfInBounds_toArray, List.set_cons_zero, List.set_cons_succ]
    refine takeH (i := 10) (d := (some 15)) (v := ?v8) rfl rfl (by kernel_rfl) (by kernel_rfl) (by kernel_rfl) (fun _ _ _ h => h) (by rfl) ?hy8 (by assumption) ?_
    case hy8 => ((intro w hSw; (try dsimp only at hSw); (try go_split_ands); go_simp); try with_reducible rfl)
    simp only [Act.put, List.setIfInBounds_toArray, List.set_cons_zero, List.set_cons_succ]
    refine takeH (i := 11) (d := (some 16)) (v := ?v9) rfl rfl (by kernel_rfl) (by kernel_rfl) (by kernel_rfl) (fun _ _ _ h => h) (by rfl) ?hy9 (by assumption) ?_
    case hy9 => ((intro w hSw; (try dsimp only at hSw); (try go_split_ands); go_simp); try with_reducible rfl)
    simp only [Act.put, List.setIfInBounds_toArray, List.set_cons_zero, List.set_cons_succ]
    refine takeH (i := 12) (d := (some 17)) (v := ?v10) rfl rfl (by kernel_rfl) (by kernel_rfl) (by kernel_rfl) (fun _ _ _ h => h) (by rfl) ?hy10 (by assumption) ?_
    case hy10 => ((intro w hSw; (try dsimp only at hSw); (try go_split_ands); go_simp); try with_reducible rfl)
    simp only [Act.put, List.setIfInBounds_toArray, List.set_cons_zero, List.set_cons_succ]
    refine wpAnyH_ready (rs := [6, 13]) (by kernel_rfl) (by simp) ?_
    refine AllReadyH.cons rfl (fun K hK => ?_) (AllReadyH.cons rfl (fun K hK => ?_) AllReadyH.nil)
    · go_simp
      obtain ⟨y1, hY⟩ : ∃ Y, (W0.alloc (.cells #[.int .i64 (-l')] 3)).drew = Y := ⟨_, rfl⟩
      obtain ⟨b4, hb⟩ : ∃ b, W0.heap.size = b := ⟨_, rfl⟩
      have z4 : mblk y1 b4 = some (.cells #[.int .i64 (-l')] 3 (0, 0)) := by rw [← hY, blk_drew]; exact blk_new _ _ _ hb.symm
      have V : Up W0.drew y1 := by rw [← hY]; exact (Up.refl W0.drew).alloc (.cells #[.int .i64 (-l')] 3)
      rw [hb, hY]
      refine hK.out _ _ ⟨hHeld.1.trans V, V.blk hHeld.2.1, V.blk hHeld.2.2.1, hHeld.2.2.2.elim fun q k => ⟨q, V.blk k⟩⟩ (fun hHeld => ?_)
      clear hK K hY V hb
      refine wpAnyH_ready (rs := [7, 13]) (by kernel_rfl) (by simp) ?_
      refine AllReadyH.cons rfl (fun K hK => ?_) (AllReadyH.cons rfl (fun K hK => ?_) AllReadyH.nil)
      · go_simp
        refine (HS4.out _ _ z4).mono ?_
        rintro e y2 ⟨rfl, rfl⟩
        go_wp2_with fail
        refine hK.out _ _ hHeld (fun hHeld => ?_)
        clear hK K
        refine takeH (i := 8) (d := (some 13)) (v := ?v11) rfl rfl (by kernel_rfl) (by kernel_rfl) (by kernel_rfl) (fun _ _ _ h => h) (by rfl) ?hy11 (by assumption) ?_
        case hy11 => ((intro w hSw; (try dsimp only at hSw); (try go_split_ands); go_simp); try with_reducible rfl)
        simp only [Act.put, List.setIfInBounds_toArray, List.set_cons_zero, List.set_cons_succ]
        refine wpAnyH_ready (rs := [13]) (by kernel_rfl) (by simp) ?_
        refine AllReadyH.cons rfl (fun K hK => ?_) AllReadyH.nil
        go_simp
        obtain ⟨y3, hY⟩ : ∃ Y, (y1.alloc (.cells #[.int .i64 h'] 3)) = Y := ⟨_, rfl⟩
        obtain ⟨b10, hb⟩ : ∃ b, y1.heap.size = b := ⟨_, rfl⟩
        have z10 : mblk y3 b10 = some (.cells #[.int .i64 h'] 3 (0, 0)) := by rw [← hY]; exact blk_new _ _ _ hb.symm
        have V : Up y1 y3 := by rw [← hY]; exact (Up.refl y1).alloc (.cells #[.int .i64 h'] 3)
        rw [hb, hY]
        refine hK.out _ _ ⟨hHeld.1.trans V, V.blk hHeld.2.1, V.blk hHeld.2.2.1, hHeld.2.2.2.elim fun q k => ⟨q, V.blk k⟩⟩ (fun hHeld => ?_)
        replace z4 := V.blk z4
        clear hK K hY V hb
        refine wpAnyH_ready (rs := [14]) (by kernel_rfl) (by simp) ?_
        refine AllReadyH.cons rfl (fun K hK => ?_) AllReadyH.nil
        go_simp
        refine (HS10.out _ _ z10).mono ?_
        rintro e y4 ⟨rfl, rfl⟩
        go_wp2_with fail
        refine hK.out _ _ hHeld (fun hHeld => ?_)
        clear hK K
        refine takeH (i := 15) (d := (some 20)) (v := ?v14) rfl rfl (by kernel_rfl) (by kernel_rfl) (by kernel_rfl) (fun _ _ _ h => h) (by rfl) ?hy14 (by assumption) ?_
        case hy14 => ((intro w hSw; (try dsimp only at hSw); (try go_split_ands); go_simp); try with_reducible rfl)
        simp only [Act.put, List.setIfInBounds_toArray, List.set_cons_zero, List.set_cons_succ]
        obtain ⟨qc, kc⟩ := hHeld.2.2.2
        have fc := cellB kc
        have gc := frozB kc
        refine wpAnyH_ready (rs := [16]) (by kernel_rfl) (by simp) ?_
        refine AllReadyH.cons rfl (fun K hK => ?_) AllReadyH.nil
        go_simp
        obtain ⟨s5, hY⟩ : ∃ Y, (y3.setCell ⟨w.heap.size + 1 + 1, 0, none⟩ (.int .i64 (-ml))).setCell ⟨w.heap.size + 1 + 1, 1, none⟩ (.int .i64 mh) = Y := ⟨_, rfl⟩
        have kd : mblk s5 (w.heap.size + 1 + 1) = some (.cells #[.int .i64 (-ml), .int .i64 mh] 23 (0, 0)) := by rw [← hY]; exact blk_put (blk_put kc 0 _) 1 _
        have V : Up w s5 := by rw [← hY]; exact Up.set (Up.set hHeld.1 (by show w.heap.size ≤ w.heap.size + 1 + 1; omega) _) (by show w.heap.size ≤ w.heap.size + 1 + 1; omega) _
        have ka' : mblk s5 w.heap.size = some (.cells #[.int .i64 l, .int .i64 h] 23 (0, 0)) := by rw [← hY, blk_set _ _ _ _ (by show w.heap.size ≠ w.heap.size + 1 + 1; omega), blk_set _ _ _ _ (by show w.heap.size ≠ w.heap.size + 1 + 1; omega)]; exact hHeld.2.1
        have kb' : mblk s5 (w.heap.size + 1) = some (.cells #[.int .i64 l', .int .i64 h'] 23 (0, 0)) := by rw [← hY, blk_set _ _ _ _ (by show w.heap.size + 1 ≠ w.heap.size + 1 + 1; omega), blk_set _ _ _ _ (by show w.heap.size + 1 ≠ w.heap.size + 1 + 1; omega)]; exact hHeld.2.2.1
        rw [hY]
        refine hK.out _ _ ⟨V, ka', kb', (_, _), kd⟩ (fun hHeld => ?_)
        clear hK K hY
        refine wpAnyH_done (by kernel_rfl) ?_ _
        exact HKey.out _ b4 b10 ⟨V, kd⟩
      · go_simp
        obtain ⟨y6, hY⟩ : ∃ Y, (y1.alloc (.cells #[.int .i64 h'] 3)) = Y := ⟨_, rfl⟩
        obtain ⟨b10, hb⟩ : ∃ b, y1.heap.size = b := ⟨_, rfl⟩
        have z10 : mblk y6 b10 = some (.cells #[.int .i64 h'] 3 (0, 0)) := by rw [← hY]; exact blk_new _ _ _ hb.symm
        have V : Up y1 y6 := by rw [← hY]; exact (Up.refl y1).alloc (.cells #[.int .i64 h'] 3)
        rw [hb, hY]
        refine hK.out _ _ ⟨hHeld.1.trans V, V.blk hHeld.2.1, V.blk hHeld.2.2.1, hHeld.2.2.2.elim fun q k => ⟨q, V.blk k⟩⟩ (fun hHeld => ?_)
        replace z4 := V.blk z4
        clear hK K hY V hb
        refine wpAnyH_ready (rs := [7]) (by kernel_rfl) (by simp) ?_
        refine AllReadyH.cons rfl (fun K hK => ?_) AllReadyH.nil
        go_simp
        refine (HS4.out _ _ z4).mono ?_
        rintro e y7 ⟨rfl, rfl⟩
        go_wp2_with fail
        refine hK.out _ _ hHeld (fun hHeld => ?_)
        clear hK K
        refine takeH (i := 8) (d := (some 13)) (v := ?v17) rfl rfl (by kernel_rfl) (by kernel_rfl) (by kernel_rfl) (fun _ _ _ h => h) (by rfl) ?hy17 (by assumption) ?_
        case hy17 => ((intro w hSw; (try dsimp only at hSw); (try go_split_ands); go_simp); try with_reducible rfl)
        simp only [Act.put, List.setIfInBounds_toArray, List.set_cons_zero, List.set_cons_succ]
        refine wpAnyH_ready (rs := [14]) (by kernel_rfl) (by simp) ?_
        refine AllReadyH.cons rfl (fun K hK => ?_) AllReadyH.nil
        go_simp
        refine (HS10.out _ _ z10).mono ?_
        rintro e y8 ⟨rfl, rfl⟩
        go_wp2_with fail
        refine hK.out _ _ hHeld (fun hHeld => ?_)
        clear hK K
        refine takeH (i := 15) (d := (some 20)) (v := ?v19) rfl rfl (by kernel_rfl) (by kernel_rfl) (by kernel_rfl) (fun _ _ _ h => h) (by rfl) ?hy19 (by assumption) ?_
        case hy19 => ((intro w hSw; (try dsimp only at hSw); (try go_split_ands); go_simp); try with_reducible rfl)
        simp only [Act.put, List.setIfInBounds_toArray, List.set_cons_zero, List.set_cons_succ]
        obtain ⟨qc, kc⟩ := hHeld.2.2.2
        have fc := cellB kc
        have gc := frozB kc
        refine wpAnyH_ready (rs := [16]) (by kernel_rfl) (by simp) ?_
        refine AllReadyH.cons rfl (fun K hK => ?_) AllReadyH.nil
        go_simp
        obtain ⟨s9, hY⟩ : ∃ Y, (y6.setCell ⟨w.heap.size + 1 + 1, 0, none⟩ (.int .i64 (-ml))).setCell ⟨w.heap.size + 1 + 1, 1, none⟩ (.int .i64 mh) = Y := ⟨_, rfl⟩
        have kd : mblk s9 (w.heap.size + 1 + 1) = some (.cells #[.int .i64 (-ml), .int .i64 mh] 23 (0, 0)) := by rw [← hY]; exact blk_put (blk_put kc 0 _) 1 _
        have V : Up w s9 := by rw [← hY]; exact Up.set (Up.set hHeld.1 (by show w.heap.size ≤ w.heap.size + 1 + 1; omega) _) (by show w.heap.size ≤ w.heap.size + 1 + 1; omega) _
        have ka' : mblk s9 w.heap.size = some (.cells #[.int .i64 l, .int .i64 h] 23 (0, 0)) := by rw [← hY, blk_set _ _ _ _ (by show w.heap.size ≠ w.heap.size + 1 + 1; omega), blk_set _ _ _ _ (by show w.heap.size ≠ w.heap.size + 1 + 1; omega)]; exact hHeld.2.1
        have kb' : mblk s9 (w.heap.size + 1) = some (.cells #[.int .i64 l', .int .i64 h'] 23 (0, 0)) := by rw [← hY, blk_set _ _ _ _ (by show w.heap.size + 1 ≠ w.heap.size + 1 + 1; omega), blk_set _ _ _ _ (by show w.heap.size + 1 ≠ w.heap.size + 1 + 1; omega)]; exact hHeld.2.2.1
        rw [hY]
        refine hK.out _ _ ⟨V, ka', kb', (_, _), kd⟩ (fun hHeld => ?_)
        clear hK K hY
        refine wpAnyH_done (by kernel_rfl) ?_ _
        exact HKey.out _ b4 b10 ⟨V, kd⟩
    · go_simp
      obtain ⟨y10, hY⟩ : ∃ Y, (W0.alloc (.cells #[.int .i64 h'] 3)).drew = Y := ⟨_, rfl⟩
      obtain ⟨b10, hb⟩ : ∃ b, W0.heap.size = b := ⟨_, rfl⟩
      have z10 : mblk y10 b10 = some (.cells #[.int .i64 h'] 3 (0, 0)) := by rw [← hY, blk_drew]; exact blk_new _ _ _ hb.symm
      have V : Up W0.drew y10 := by rw [← hY]; exact (Up.refl W0.drew).alloc (.cells #[.int .i64 h'] 3)
      rw [hb, hY]
      refine hK.out _ _ ⟨hHeld.1.trans V, V.blk hHeld.2.1, V.blk hHeld.2.2.1, hHeld.2.2.2.elim fun q k => ⟨q, V.blk k⟩⟩ (fun hHeld => ?_)
      clear hK K hY V hb
      refine wpAnyH_ready (rs := [6]) (by kernel_rfl) (by simp) ?_
      refine AllReadyH.cons rfl (fun K hK => ?_) AllReadyH.nil
      go_simp
      obtain ⟨y11, hY⟩ : ∃ Y, (y10.alloc (.cells #[.int .i64 (-l')] 3)) = Y := ⟨_, rfl⟩
      obtain ⟨b4, hb⟩ : ∃ b, y10.heap.size = b := ⟨_, rfl⟩
      have z4 : mblk y11 b4 = some (.cells #[.int .i64 (-l')] 3 (0, 0)) := by rw [← hY]; exact blk_new _ _ _ hb.symm
      have V : Up y10 y11 := by rw [← hY]; exact (Up.refl y10).alloc (.cells #[.int .i64 (-l')] 3)
      rw [hb, hY]
      refine hK.out _ _ ⟨hHeld.1.trans V, V.blk hHeld.2.1, V.blk hHeld.2.2.1, hHeld.2.2.2.elim fun q k => ⟨q, V.blk k⟩⟩ (fun hHeld => ?_)
      replace z10 := V.blk z10
      clear hK K hY V hb
      refine wpAnyH_ready (rs := [7]) (by kernel_rfl) (by simp) ?_
      refine AllReadyH.cons rfl (fun K hK => ?_) AllReadyH.nil
      go_simp
      refine (HS4.out _ _ z4).mono ?_
      rintro e y12 ⟨rfl, rfl⟩
      go_wp2_with fail
      refine hK.out _ _ hHeld (fun hHeld => ?_)
      clear hK K
      refine takeH (i := 8) (d := (some 13)) (v := ?v23) rfl rfl (by kernel_rfl) (by kernel_rfl) (by kernel_rfl) (fun _ _ _ h => h) (by rfl) ?hy23 (by assumption) ?_
      case hy23 => ((intro w hSw; (try dsimp only at hSw); (try go_split_ands); go_simp); try with_reducible rfl)
      simp only [Act.put, List.setIfInBounds_toArray, List.set_cons_zero, List.set_cons_succ]
      refine wpAnyH_ready (rs := [14]) (by kernel_rfl) (by simp) ?_
      refine AllReadyH.cons rfl (fun K hK => ?_) AllReadyH.nil
      go_simp
      refine (HS10.out _ _ z10).mono ?_
      rintro e y13 ⟨rfl, rfl⟩
      go_wp2_with fail
      refine hK.out _ _ hHeld (fun hHeld => ?_)
      clear hK K
      refine takeH (i := 15) (d := (some 20)) (v := ?v25) rfl rfl (by kernel_rfl) (by kernel_rfl) (by kernel_rfl) (fun _ _ _ h => h) (by rfl) ?hy25 (by assumption) ?_
      case hy25 => ((intro w hSw; (try dsimp only at hSw); (try go_split_ands); go_simp); try with_reducible rfl)
      simp only [Act.put, List.setIfInBounds_toArray, List.set_cons_zero, List.set_cons_succ]
      obtain ⟨qc, kc⟩ := hHeld.2.2.2
      have fc := cellB kc
      have gc := frozB kc
      refine wpAnyH_ready (rs := [16]) (by kernel_rfl) (by simp) ?_
      refine AllReadyH.cons rfl (fun K hK => ?_) AllReadyH.nil
      go_simp
      obtain ⟨s14, hY⟩ : ∃ Y, (y11.setCell ⟨w.heap.size + 1 + 1, 0, none⟩ (.int .i64 (-ml))).setCell ⟨w.heap.size + 1 + 1, 1, none⟩ (.int .i64 mh) = Y := ⟨_, rfl⟩
      have kd : mblk s14 (w.heap.size + 1 + 1) = some (.cells #[.int .i64 (-ml), .int .i64 mh] 23 (0, 0)) := by rw [← hY]; exact blk_put (blk_put kc 0 _) 1 _
      have V : Up w s14 := by rw [← hY]; exact Up.set (Up.set hHeld.1 (by show w.heap.size ≤ w.heap.size + 1 + 1; omega) _) (by show w.heap.size ≤ w.heap.size + 1 + 1; omega) _
      have ka' : mblk s14 w.heap.size = some (.cells #[.int .i64 l, .int .i64 h] 23 (0, 0)) := by rw [← hY, blk_set _ _ _ _ (by show w.heap.size ≠ w.heap.size + 1 + 1; omega), blk_set _ _ _ _ (by show w.heap.size ≠ w.heap.size + 1 + 1; omega)]; exact hHeld.2.1
      have kb' : mblk s14 (w.heap.size + 1) = some (.cells #[.int .i64 l', .int .i64 h'] 23 (0, 0)) := by rw [← hY, blk_set _ _ _ _ (by show w.heap.size + 1 ≠ w.heap.size + 1 + 1; omega), blk_set _ _ _ _ (by show w.heap.size + 1 ≠ w.heap.size + 1 + 1; omega)]; exact hHeld.2.2.1
      rw [hY]
      refine hK.out _ _ ⟨V, ka', kb', (_, _), kd⟩ (fun hHeld => ?_)
      clear hK K hY
      refine wpAnyH_done (by kernel_rfl) ?_ _
      exact HKey.out _ b4 b10 ⟨V, kd⟩
  intro w7 b4 b10 ⟨U7, kd⟩
  have c7 := cellB kd
  clear HS4 HS10 ka kb kc U0
  go_wp2_with fail
  exact bodyPost_ret (v := SpV (-ml) mh) (by simp [results, Try.results131, go_sem, c7]) rfl ⟨rfl, U7⟩


set_option maxRecDepth 100000 in
theorem upwards1_any (l h : Int) (w : World) : Calls Try.prog 117 #[SpV l h] w fun e w' => e = .returned (.int .i64 h) ∧ Up w w' := by
  have U := (Up.refl w).alloc (.cells #[.int .i64 l, .int .i64 h] 23)
  go_enter Try.func117, Try.ntmps117
  go_wp2
  go_ret
  exact ⟨rfl, U⟩
set_option maxRecDepth 100000 in
theorem downwards1_any (l h : Int) (w : World) (l1 : -1000000000 ≤ l) (l2 : l ≤ 1000000000) : Calls Try.prog 118 #[SpV l h] w fun e w' => e = .returned (.int .i64 (-l)) ∧ Up w w' := by
  have U := (Up.refl w).alloc (.cells #[.int .i64 l, .int .i64 h] 23)
  go_enter Try.func118, Try.ntmps118
  go_wp2
  go_ret
  exact ⟨rfl, U⟩
/-- a side -/
abbrev SdV (ah : Bool) : Value := .agg #[.func (.func (if ah then 117 else 118)) #[] #[], .int .i64 (if ah then 1 else -1)]
abbrev AhV : Value := .agg #[.func (.func 117) #[] #[], .int .i64 1]
abbrev BeV : Value := .agg #[.func (.func 118) #[] #[], .int .i64 (-1)]
set_option maxRecDepth 100000 in
theorem upwards_any (w : World) : Calls Try.prog 94 #[] w fun e w' => e = .returned AhV ∧ Up w w' := by
  go_enter Try.func94, Try.ntmps94
  go_wp2
  exact bodyPost_ret (v := AhV) (by simp [results, Try.results94, go_sem]) rfl ⟨rfl, (Up.refl w).alloc _⟩
set_option maxRecDepth 100000 in
theorem downwards_any (w : World) : Calls Try.prog 95 #[] w fun e w' => e = .returned BeV ∧ Up w w' := by
  go_enter Try.func95, Try.ntmps95
  go_wp2
  exact bodyPost_ret (v := BeV) (by simp [results, Try.results95, go_sem]) rfl ⟨rfl, (Up.refl w).alloc _⟩
set_option maxRecDepth 100000 in
set_option maxHeartbeats 1000000 in
theorem tturned_any (a b l u : Int) (w : World) (l1 : -10000000 ≤ l) (l2 : l ≤ 10000000) (u1 : -10000000 ≤ u) (u2 : u ≤ 10000000) : Calls Try.prog 128 #[TiV a b l u] w fun e w' => e = .returned (TiV b a (-u) (-l)) ∧ Up w w' := by
  have HT := Lib.hid (fun w => turned_any l u w l1 l2 u1 u2)
  clear l1 l2 u1 u2
  obtain ⟨r1, hr1⟩ : ∃ z, -u = z := ⟨_, rfl⟩
  obtain ⟨r2, hr2⟩ : ∃ z, -l = z := ⟨_, rfl⟩
  rw [hr1, hr2] at HT ⊢
  clear hr1 hr2
  have U0 := ((Up.refl w).alloc (.cells (TiC a b l u) 145)).alloc (.cells (TiC 0 0 0 0) 145)
  have k0 := blk_keep (.cells (TiC 0 0 0 0) 145) (blk_new w (.cells (TiC a b l u) 145) _ rfl)
  have k1 := blk_new (w.alloc (.cells (TiC a b l u) 145)) (.cells (TiC 0 0 0 0) 145) (w.heap.size + 1) (by simp)
  go_enter Try.func128, Try.ntmps128
  go_wp2_with fail
  refine wp_region_held_drew (S := fun w' => Up w w' ∧ mblk w' w.heap.size = some (.cells (TiC a b l u) 145 (0, 0)) ∧ ∃ q : Value × Value × Value × Value, mblk w' (w.heap.size + 1) = some (.cells #[q.1, q.2.1, q.2.2.1, q.2.2.2] 145 (0, 0))) (by kernel_rfl) ⟨U0.drew, by rw [blk_drew]; exact k0, (.int .i64 0, .int .i64 0, .int .i64 0, .int .i64 0), by rw [blk_drew]; exact k1⟩ (fun hHeld => ?_)
  clear U0 k0 k1
  refine takeH (i := 0) (d := (some 3)) (v := ?v27) rfl rfl (by kernel_rfl) (by kernel_rfl) (by kernel_rfl) (fun _ _ _ h => h) (by rfl) ?hy27 (by assumption) ?_
  case hy27 => ((intro w hSw; (try dsimp only at hSw); (try go_split_ands); go_simp); try with_reducible rfl)
  simp only [Act.put, List.setIfInBounds_toArray, List.set_cons_zero, List.set_cons_succ]
  refine takeH (i := 1) (d := (some 4)) (v := ?v28) rfl rfl (by kernel_rfl) (by kernel_rfl) (by kernel_rfl) (fun _ _ _ h => h) (by rfl) ?hy28 (by assumption) ?_
  case hy28 => ((intro w hSw; (try dsimp only at hSw); (try go_split_ands); go_simp); try with_reducible rfl)
  simp only [Act.put, List.setIfInBounds_toArray, List.set_cons_zero, List.set_cons_succ]
  refine takeH (i := 2) (d := (some 5)) (v := ?v29) rfl rfl (by kernel_rfl) (by kernel_rfl) (by kernel_rfl) (fun _ _ _ h => h) (by rfl) ?hy29 (by assumption) ?_
  case hy29 => ((intro w hSw; (try dsimp only at hSw); (try go_split_ands); go_simp); try with_reducible rfl)
  simp only [Act.put, List.setIfInBounds_toArray, List.set_cons_zero, List.set_cons_succ]
  refine takeH (i := 3) (d := (some 6)) (v := ?v30) rfl rfl (by kernel_rfl) (by kernel_rfl) (by kernel_rfl) (fun _ _ _ h => h) (by rfl) ?hy30 (by assumption) ?_
  case hy30 => ((intro w hSw; (try dsimp only at hSw); (try go_split_ands); go_simp); try with_reducible rfl)
  simp only [Act.put, List.setIfInBounds_toArray, List.set_cons_zero, List.set_cons_succ]
  refine takeH (i := 4) (d := (some 7)) (v := ?v31) rfl rfl (by kernel_rfl) (by kernel_rfl) (by kernel_rfl) (fun _ _ _ h => h) (by rfl) ?hy31 (by assumption) ?_
  case hy31 => ((intro w hSw; (try dsimp only at hSw); (try go_split_ands); go_simp); try with_reducible rfl)
  simp only [Act.put, List.setIfInBounds_toArray, List.set_cons_zero, List.set_cons_succ]
  refine takeH (i := 5) (d := (some 8)) (v := ?v32) rfl rfl (by kernel_rfl) (by kernel_rfl) (by kernel_rfl) (fun _ _ _ h => h) (by rfl) ?hy32 (by assumption) ?_
  case hy32 => ((intro w hSw; (try dsimp only at hSw); (try go_split_ands); go_simp); try with_reducible rfl)
  simp only [Act.put, List.setIfInBounds_toArray, List.set_cons_zero, List.set_cons_succ]
  refine takeH (i := 6) (d := (some 9)) (v := ?v33) rfl rfl (by kernel_rfl) (by kernel_rfl) (by kernel_rfl) (fun _ _ _ h => h) (by rfl) ?hy33 (by assumption) ?_
  case hy33 => ((intro w hSw; (try dsimp only at hSw); (try go_split_ands); go_simp); try with_reducible rfl)
  simp only [Act.put, List.setIfInBounds_toArray, List.set_cons_zero, List.set_cons_succ]
  refine takeH (i := 7) (d := (some 10)) (v := ?v34) rfl rfl (by kernel_rfl) (by kernel_rfl) (by kernel_rfl) (fun _ _ _ h => h) (by rfl) ?hy34 (by assumption) ?_
  case hy34 => ((intro w hSw; (try dsimp only at hSw); (try go_split_ands); go_simp); try with_reducible rfl)
  simp only [Act.put, List.setIfInBounds_toArray, List.set_cons_zero, List.set_cons_succ]
  refine takeH (i := 8) (d := (some 11)) (v := ?v35) rfl rfl (by kernel_rfl) (by kernel_rfl) (by kernel_rfl) (fun _ _ _ h => h) (by rfl) ?hy35 (by assumption) ?_
  case hy35 => ((intro w hSw; (try dsimp only at hSw); (try go_split_ands); go_simp); try with_reducible rfl)
  simp only [Act.put, List.setIfInBounds_toArray, List.set_cons_zero, List.set_cons_succ]
  refine wpAnyH_ready (rs := [9]) (by kernel_rfl) (by simp) ?_
  refine AllReadyH.cons rfl (fun K hK => ?_) AllReadyH.nil
  go_simp
  refine (HT.out _).mono ?_
  rintro e w1 ⟨rfl, u1⟩
  go_wp2_with fail
  refine hK.out _ _ ⟨hHeld.1.trans u1, u1.blk hHeld.2.1, hHeld.2.2.elim fun q k => ⟨q, u1.blk k⟩⟩ (fun hHeld => ?_)
  clear hK K u1
  refine takeH (i := 10) (d := (some 13)) (v := ?v37) rfl rfl (by kernel_rfl) (by kernel_rfl) (by kernel_rfl) (fun _ _ _ h => h) (by rfl) ?hy37 (by assumption) ?_
  case hy37 => ((intro w hSw; (try dsimp only at hSw); (try go_split_ands); go_simp); try with_reducible rfl)
  simp only [Act.put, List.setIfInBounds_toArray, List.set_cons_zero, List.set_cons_succ]
  obtain ⟨q, kq⟩ := hHeld.2.2
  have fc := cellB kq
  have gc := frozB kq
  have C := Lib.hid (set4_same kq (.int .i64 b) (.int .i64 a) (.int .i64 r1) (.int .i64 r2))
  have V := hHeld.1.set4 (b := w.heap.size + 1) (by omega) (.int .i64 b) (.int .i64 a) (.int .i64 r1) (.int .i64 r2)
  have kk := (set4_other w1 (b := w.heap.size + 1) (n := w.heap.size) (by omega) (.int .i64 b) (.int .i64 a) (.int .i64 r1) (.int .i64 r2)).trans hHeld.2.1
  refine wpAnyH_ready (rs := [11]) (by kernel_rfl) (by simp) ?_
  refine AllReadyH.cons rfl (fun K hK => ?_) AllReadyH.nil
  go_simp
  obtain ⟨W2, hW2⟩ : ∃ x, ((((w1.setCell ⟨w.heap.size + 1, 0, none⟩ (.int .i64 b)).setCell ⟨w.heap.size + 1, 1, none⟩ (.int .i64 a)).setCell ⟨w.heap.size + 1, 2, none⟩ (.int .i64 r1)).setCell ⟨w.heap.size + 1, 3, none⟩ (.int .i64 r2)) = x := ⟨_, rfl⟩
  have C2 := C.out
  rw [hW2] at C2 V kk ⊢
  refine hK.out _ _ ⟨V, kk, (_, _, _, _), C2⟩ (fun hHeld2 => ?_)
  clear hK K hW2 kq fc gc hHeld
  refine wpAnyH_done (by kernel_rfl) ?_ _
  clear hHeld2
  have c7 := cellB C2
  go_wp2_with fail
  exact bodyPost_ret (v := TiV b a r1 r2) (by simp [results, Try.results128, go_sem, c7]) rfl ⟨rfl, V⟩

/-- the kinds: those of the observers, of the stations, of the nights -/
abbrev KiV : Value := .agg #[.int .i64 9, .int .i64 (-1), .func (.func 105) #[] #[], .func (.func 106) #[] #[], .func (.func 107) #[] #[], .int .i64 13, .int .i64 1, .func (.func 108) #[] #[], .func (.func 109) #[] #[], .func (.func 110) #[] #[], .int .i64 1, .int .i64 1, .func (.func 111) #[] #[], .func (.func 112) #[] #[], .func (.func 113) #[] #[]]
set_option maxRecDepth 100000 in
theorem kinds_any (w : World) : Calls Try.prog 89 #[] w fun e w' => e = .returned KiV ∧ Up w w' := by
  go_enter Try.func89, Try.ntmps89
  go_wp2
  exact bodyPost_ret (v := KiV) (by simp [results, Try.results89, go_sem]) rfl ⟨rfl, (Up.refl w).alloc _⟩
theorem T.kidx0 (w : World) : (Instr.index 134 KiV (.int .i64 0)).run Try.prog w = .ok (.agg #[.int .i64 9, .int .i64 (-1), .func (.func 105) #[] #[], .func (.func 106) #[] #[], .func (.func 107) #[] #[]]) w := by kernel_rfl
theorem T.kidx1 (w : World) : (Instr.index 134 KiV (.int .i64 1)).run Try.prog w = .ok (.agg #[.int .i64 13, .int .i64 1, .func (.func 108) #[] #[], .func (.func 109) #[] #[], .func (.func 110) #[] #[]]) w := by kernel_rfl
theorem T.kidx2 (w : World) : (Instr.index 134 KiV (.int .i64 2)).run Try.prog w = .ok (.agg #[.int .i64 1, .int .i64 1, .func (.func 111) #[] #[], .func (.func 112) #[] #[], .func (.func 113) #[] #[]]) w := by kernel_rfl
theorem T.kfld0 (a b c d e : Value) (w : World) : (Instr.field 133 (.agg #[a, b, c, d, e]) 0).run Try.prog w = .ok a w := by kernel_rfl
theorem T.kfld1 (a b c d e : Value) (w : World) : (Instr.field 133 (.agg #[a, b, c, d, e]) 1).run Try.prog w = .ok b w := by kernel_rfl
theorem T.kfld2 (a b c d e : Value) (w : World) : (Instr.field 133 (.agg #[a, b, c, d, e]) 2).run Try.prog w = .ok c w := by kernel_rfl
theorem T.kfld3 (a b c d e : Value) (w : World) : (Instr.field 133 (.agg #[a, b, c, d, e]) 3).run Try.prog w = .ok d w := by kernel_rfl
theorem T.kfld4 (a b c d e : Value) (w : World) : (Instr.field 133 (.agg #[a, b, c, d, e]) 4).run Try.prog w = .ok e w := by kernel_rfl
attribute [go_sem] T.kidx0 T.kidx1 T.kidx2 T.kfld0 T.kfld1 T.kfld2 T.kfld3 T.kfld4
/-- the first thing of a kind -/
def T.fst : Int → Int
  | 0 => 9
  | 1 => 13
  | _ => 1
set_option maxRecDepth 100000 in
theorem thingOf_any {k : Int} (hk : k = 0 ∨ k = 1 ∨ k = 2) (n : Int) (h1 : -1000000 ≤ n) (h2 : n ≤ 1000000) (w : World) : Calls Try.prog 65 #[.int .i64 k, .int .i64 n] w fun e w' => e = .returned (.int .i64 (T.fst k + n)) ∧ Up w w' := by
  have HK := Lib.hid (fun w => kinds_any w)
  rcases hk with rfl | rfl | rfl
  · show Calls _ _ _ w fun e w' => e = .returned (.int .i64 (9 + n)) ∧ Up w w'
    go_enter Try.func65, Try.ntmps65
    go_wp2_with fail
    refine (HK.out _).mono ?_
    rintro e w1 ⟨rfl, u1⟩
    go_wp2
    go_ret
    exact ⟨rfl, u1⟩
  · show Calls _ _ _ w fun e w' => e = .returned (.int .i64 (13 + n)) ∧ Up w w'
    go_enter Try.func65, Try.ntmps65
    go_wp2_with fail
    refine (HK.out _).mono ?_
    rintro e w1 ⟨rfl, u1⟩
    go_wp2
    go_ret
    exact ⟨rfl, u1⟩
  · show Calls _ _ _ w fun e w' => e = .returned (.int .i64 (1 + n)) ∧ Up w w'
    go_enter Try.func65, Try.ntmps65
    go_wp2_with fail
    refine (HK.out _).mono ?_
    rintro e w1 ⟨rfl, u1⟩
    go_wp2
    go_ret
    exact ⟨rfl, u1⟩

end Go.Proofs.Ytlpkheoljbdajaa
