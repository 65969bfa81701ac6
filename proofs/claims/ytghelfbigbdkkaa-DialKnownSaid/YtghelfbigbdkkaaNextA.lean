import Derived.Test.YtghelfbigbdkkaaCalN
import Derived.RangeFuncNested
import Derived.RangeFuncBound
import Derived.RangeFuncCalls
import Derived.RangeFuncLeaves
import Derived.Shelf.Abstract
import Derived.Shelf.RegionOpen
import Derived.OwnWalkIn
import Derived.TacticsInMore
import Derived.LoopNIn
import Derived.LoopIn
/- The contracts of dial's readings: the iterator over ticks. -/
namespace Go.Proofs.Ytghelfbigbdkkaa
open Go.RowKit Go.Shelf
attribute [local go_sem] Oper.semAt_some

theorem range_prefix {a b : Nat} (h : a ≤ b) : List.range a <+: List.range b := by
  obtain ⟨c, rfl⟩ : ∃ c, b = a + c := ⟨b - a, by omega⟩
  rw [List.range_add]
  exact List.prefix_append _ _
theorem readings_any (cs : Array Value) (f u : Int) (w : World) :
    Calls Try.prog 45 #[.agg cs, .int .i64 f, .int .i64 u] w fun e w' => e = .returned (.func (.func 59) #[] #[.pointer (some ⟨w.heap.size + 1, 0, none⟩), .pointer (some ⟨w.heap.size + 1 + 1, 0, none⟩), .pointer (some ⟨w.heap.size, 0, none⟩)]) ∧
      ((w.alloc (.cells cs 62)).alloc (.cells #[.int .i64 f] 3)).alloc (.cells #[.int .i64 u] 3) = w' := by
  go_enter Try.func45, Try.ntmps45
  go_wp2
  go_ret
  exact ⟨rfl, rfl⟩

theorem readings1_in {cs : Array Value} (hsz : cs.size = 15) (A B Z S : Int → Int) (f u : Int) (f0 : 0 ≤ f) (u1 : u ≤ 1000000) (fu : f ≤ u)
    (HR : ∀ (t : Int) (w : World), f ≤ t → t < u → Calls Try.prog 25 #[.agg cs, .int .i64 t] w fun e w' => e = .returned (rd (A t) (B t) (Z t) (S t)) ∧ Up w w')
    (n : Nat) (hn : 1 ≤ n) (l n₀ b1 b2 b3 : Nat) (J Jx : List Nat → World → Prop) (W : World) (g2 : b2 < n₀) (g3 : b3 < n₀)
    (h1 : mblk W b1 = some (.cells #[.int .i64 f] 3)) (h2 : mblk W b2 = some (.cells #[.int .i64 u] 3)) (h3 : mblk W b3 = some (.cells cs 62))
    (hJ : ∀ s X Y, J s X → Up X Y → J s Y)
    (hY : ∀ pre x X, J pre X → pre.length < (u - f).toNat → YieldAt Fence.wide (n - 1) Try.prog l #[.int .i64 (f + (x : Nat)), rd (A (f + x)) (B (f + x)) (Z (f + x)) (S (f + x))] X fun e Y =>
      (e = .returned (.bool true) ∧ J (pre ++ [x]) Y ∧ Below n₀ X Y) ∨ (e = .returned (.bool false) ∧ Jx (pre ++ [x]) Y))
    (h0 : J [] W) :
    CallsIn Fence.wide n Try.prog 59 #[.func (.yield l) #[] #[], .pointer (some ⟨b1, 0, none⟩), .pointer (some ⟨b2, 0, none⟩), .pointer (some ⟨b3, 0, none⟩)] W fun e Y => (∃ v, e = .returned v) ∧
      ((∃ xs, xs = List.range (u - f).toNat ∧ J xs Y) ∨ (∃ pre, pre <+: List.range (u - f).toNat ∧ Jx pre Y)) := by
  have hs := Lib.hid hsz
  have HR' := Lib.hid HR
  have HY := Lib.hid hY
  have HJ := Lib.hid hJ
  clear HR hY hJ hsz
  have c1 := cellB h1
  refine callsIn_of_wp Try.func59 rfl trivial ?_ rfl
  simp only [Try.ntmps59, List.size_toArray, List.length_cons, List.length_nil, Nat.reduceAdd, Nat.reduceSub, Array.replicate_succ, Array.replicate_zero, List.push_toArray, List.append_toArray, List.nil_append, List.cons_append]
  gi_wp2
  gi_loopw [5] (fun t wr => ∃ k : Nat, (k : Int) ≤ u - f ∧ t = .int .i64 (f + k) ∧ J (List.range k) wr ∧ mblk wr b2 = some (.cells #[.int .i64 u] 3) ∧ mblk wr b3 = some (.cells cs 62)) (fun t _ => (u - intOf t).toNat)
  case atStart => exact ⟨0, by omega, by simp, h0, h2, h3⟩
  case round =>
    obtain ⟨k, hk, rfl, hJs, k2, k3⟩ := hrel
    have c2 := cellB k2
    by_cases hlt : f + (k : Int) < u
    · gi_wp2_with fail
      refine ⟨trivial, ?_⟩
      refine (callsIn_wide.2 (HR'.out (f + k) _ (by omega) hlt)).mono ?_
      rintro e w2 ⟨rfl, u2⟩
      have J2 := HJ.out _ _ _ hJs u2
      have y2 := u2.blk k2
      have y3 := u2.blk k3
      obtain ⟨fn, tmps, assign, body, hy, hR⟩ := HY.out (List.range k) k w2 J2 (by rw [List.length_range]; omega)
      clear u2 k2 k3 c2 hJs J2
      gi_wp2_with fail
      refine hR.mono ?_
      rintro e w3 (⟨rfl, hJ3, hk3⟩ | ⟨rfl, hJx3⟩)
      · have z2 : mblk w3 b2 = some (.cells #[.int .i64 u] 3) := (hk3.block b2 g2).trans y2
        have z3 : mblk w3 b3 = some (.cells cs 62) := (hk3.block b3 g3).trans y3
        clear hR hy
        gi_wp2
        go_roundw
        case rel => exact ⟨k + 1, by omega, by rw [show f + ((k + 1 : Nat) : Int) = f + (k : Int) + 1 by omega], by rw [List.range_succ]; exact hJ3, z2, z3⟩
        case measure => simp [intOf]; omega
      · clear hR hy
        gi_wp2
        refine bodyPost_ret (results_none rfl _ _ _) rfl ?_
        exact ⟨⟨_, rfl⟩, .inr ⟨List.range k ++ [k], by rw [← List.range_succ]; exact range_prefix (by omega), hJx3⟩⟩
    · gi_wp2
      go_end0
      have e : k = (u - f).toNat := by omega
      subst e
      exact ⟨⟨_, rfl⟩, .inl hJs⟩

/-- the iterator's contract -/
theorem readings_stops {cs : Array Value} (hsz : cs.size = 15) (A B Z S : Int → Int) (f u : Int) (f0 : 0 ≤ f) (u1 : u ≤ 1000000) (fu : f ≤ u)
    (HR : ∀ (t : Int) (w : World), f ≤ t → t < u → Calls Try.prog 25 #[.agg cs, .int .i64 t] w fun e w' => e = .returned (rd (A t) (B t) (Z t) (S t)) ∧ Up w w')
    (n : Nat) (hn : 1 ≤ n) (b1 b2 b3 : Nat) (w : World) (n₀ : Nat) (g0 : n₀ ≤ w.heap.size) (g1 : b1 < n₀) (g2 : b2 < n₀) (g3 : b3 < n₀)
    (h1 : mblk w b1 = some (.cells #[.int .i64 f] 3)) (h2 : mblk w b2 = some (.cells #[.int .i64 u] 3)) (h3 : mblk w b3 = some (.cells cs 62)) :
    SeqStopsK Fence.wide n Try.prog 59 #[.pointer (some ⟨b1, 0, none⟩), .pointer (some ⟨b2, 0, none⟩), .pointer (some ⟨b3, 0, none⟩)]
      (fun x : Nat => #[.int .i64 (f + (x : Nat)), rd (A (f + x)) (B (f + x)) (Z (f + x)) (S (f + x))]) (Below n₀) (fun xs => xs = List.range (u - f).toNat) (fun pre => pre <+: List.range (u - f).toNat) (u - f).toNat w := by
  intro l J Jx W hW hJ _ hY h0
  have q1 : mblk W b1 = some (.cells #[.int .i64 f] 3) := (Below.block hW b1 (by omega)).trans h1
  have q2 : mblk W b2 = some (.cells #[.int .i64 u] 3) := (Below.block hW b2 (by omega)).trans h2
  have q3 : mblk W b3 = some (.cells cs 62) := (Below.block hW b3 (by omega)).trans h3
  exact readings1_in hsz A B Z S f u f0 u1 fu HR n hn l n₀ b1 b2 b3 J Jx W g2 g3 q1 q2 q3
    (fun s X Y hX hU => hJ s X Y none hX ⟨hU.os, hU.tape, hU.output, hU.size, fun j hj _ => Below.block hU j hj⟩ (by simp)) hY h0

end Go.Proofs.Ytghelfbigbdkkaa

/- The contract of dial's next. -/
namespace Go.Proofs.Ytghelfbigbdkkaa
open Go.RowKit Go.Shelf
attribute [local go_sem] Oper.semAt_some

/-- none of the ticks that have come can be divided -/
def NoneIn (S : Int → Int) (f each : Int) (pre : List Nat) : Prop := ∀ i ∈ pre, ¬ (S (f + (i : Nat))).tmod each = 0
/-- x, the last of the ticks that have come, can be divided, and none before it -/
def FirstIn (S : Int → Int) (f each : Int) (pre : List Nat) (x : Nat) (c : Code) : Prop := c = .ret ∧ ∃ pre', pre = pre' ++ [x] ∧ NoneIn S f each pre' ∧ (S (f + (x : Nat))).tmod each = 0
/-- what next tells -/
def NextIs (S : Int → Int) (f u each v : Int) (ok : Bool) : Prop :=
  (∃ x : Nat, f + x < u ∧ NoneIn S f each (List.range x) ∧ (S (f + (x : Nat))).tmod each = 0 ∧ v = f + x ∧ ok = true) ∨ (NoneIn S f each (List.range (u - f).toNat) ∧ v = 0 ∧ ok = false)
theorem NextIs.done {S : Int → Int} {f u each v : Int} {ok : Bool} (h : NextIs S f u each v ok) (hN : NoneIn S f each (List.range (u - f).toNat)) : v = 0 ∧ ok = false := by
  rcases h with ⟨x, hx, _, hz, _⟩ | ⟨_, h1, h2⟩
  · exact absurd hz (hN x (by rw [List.mem_range]; omega))
  · exact ⟨h1, h2⟩
theorem NextIs.stop {S : Int → Int} {f u each v : Int} {ok : Bool} (h : NextIs S f u each v ok) {pre : List Nat} {x : Nat} {c : Code} (hp : pre <+: List.range (u - f).toNat) (hF : FirstIn S f each pre x c) : v = f + x ∧ ok = true := by
  obtain ⟨_, pre', rfl, hN, hz⟩ := hF
  have hl : (pre' ++ [x]).length ≤ (u - f).toNat := by have := hp.length_le; simpa using this
  have he : pre' ++ [x] = List.range (pre'.length + 1) := by
    have q := List.prefix_iff_eq_take.1 hp
    rw [List.take_range, Nat.min_eq_left hl, List.length_append] at q
    exact q
  rw [List.range_succ] at he
  obtain ⟨e1, e2⟩ := List.append_inj he (by simp)
  have e3 : x = pre'.length := by simpa using e2
  simp only [List.length_append, List.length_cons, List.length_nil] at hl
  rw [e1] at hN
  rcases h with ⟨y, hy, hM, hw, h1, h2⟩ | ⟨hM, _⟩
  · have : y = x := by
      by_cases a : y < x
      · exact absurd hw (hN y (by rw [List.mem_range]; omega))
      · by_cases b : x < y
        · exact absurd hz (hM x (by rw [List.mem_range]; omega))
        · omega
    subst this
    exact ⟨h1, h2⟩
  · exact absurd hz (hM x (by rw [List.mem_range]; omega))
theorem NoneIn.snoc {S : Int → Int} {f each : Int} {pre : List Nat} {x : Nat} (h : NoneIn S f each pre) (hx : ¬ (S (f + (x : Nat))).tmod each = 0) : NoneIn S f each (pre ++ [x]) := by
  intro i hi
  rcases List.mem_append.1 hi with h1 | h1
  · exact h i h1
  · simp at h1; subst h1; exact hx

set_option maxRecDepth 100000 in
set_option maxHeartbeats 1000000 in
theorem next_in {cs : Array Value} (hsz : cs.size = 15) (A B Z S : Int → Int) (f u each : Int) (f0 : 0 ≤ f) (u1' : u ≤ 1000000) (fu : f ≤ u) (e1 : 1 ≤ each)
    (HR : ∀ (t : Int) (w : World), f ≤ t → t < u → Calls Try.prog 25 #[.agg cs, .int .i64 t] w fun e w' => e = .returned (rd (A t) (B t) (Z t) (S t)) ∧ Up w w')
    (HT : ∀ w : World, Calls Try.prog 23 #[.agg cs] w fun e w' => e = .returned (.int .i64 u) ∧ Up w w')
    (v : Int) (ok : Bool) (hv : NextIs S f u each v ok) (w : World) :
    Calls Try.prog 28 #[.agg cs, .int .i64 f, .int .i64 each] w fun e w' => e = .returned (.tuple #[.int .i64 v, .bool ok]) ∧ Up w w' := by
  have hs := Lib.hid hsz
  have HR' := Lib.hid HR
  have HT' := Lib.hid HT
  have HV := Lib.hid hv
  clear HR HT hsz hv
  refine (callsIn_wide (n := 5)).1 ?_
  refine callsIn_of_wp_marks Try.func28 rfl trivial ?_ rfl
  simp only [Try.ntmps28, List.size_toArray, List.length_cons, List.length_nil, Nat.reduceAdd, Nat.reduceSub, Array.replicate_succ, Array.replicate_zero, List.push_toArray, List.append_toArray, List.nil_append, List.cons_append]
  gi_wp2_with fail
  refine wpIn_wide.2 (wp_scope_straight ((wpIn_wide (n := 5)).1 ?_))
  refine wpIn_seq_k (fun K2 hK2 => wpIn_label (hK2 _ _ ?_))
  clear hK2 K2
  obtain ⟨W0, hW0⟩ : ∃ W0, (((w.alloc (.cells cs 62)).alloc (.cells #[.int .i64 each] 3)).alloc (.cells #[.int .i64 0] 3)).alloc (.cells #[.bool false] 4) = W0 := ⟨_, rfl⟩
  have U0 : Up w W0 := by rw [← hW0]; exact (((Up.refl w).alloc _).alloc _ |>.alloc _).alloc _
  have k3 : mblk W0 w.heap.size = some (.cells cs 62) := by rw [← hW0]; exact blk_keep _ (blk_keep _ (blk_keep _ (blk_new _ _ _ rfl)))
  have k5 : mblk W0 (w.heap.size + 1) = some (.cells #[.int .i64 each] 3) := by rw [← hW0]; exact blk_keep _ (blk_keep _ (blk_new _ _ _ (by simp)))
  have k6 : mblk W0 (w.heap.size + 1 + 1) = some (.cells #[.int .i64 0] 3) := by rw [← hW0]; exact blk_keep _ (blk_new _ _ _ (by simp))
  have k7 : mblk W0 (w.heap.size + 1 + 1 + 1) = some (.cells #[.bool false] 4) := by rw [← hW0]; exact blk_new _ _ _ (by simp)
  rw [hW0]
  clear hW0
  gi_wp2_with fail
  refine wpIn_wide.2 ?_
  refine wp_region_noPanic ?_
  refine wp_region_held_drew (S := fun w' => mblk w' w.heap.size = some (.cells cs 62 (0, 0)) ∧ Up W0 w') (by kernel_rfl) ⟨by rw [blk_drew]; exact k3, (Up.refl W0).drew⟩ (fun hHeld => ?_)
  refine takeH (i := 0) (d := (some 10)) (v := ?v1) rfl rfl (by kernel_rfl) (by kernel_rfl) (by kernel_rfl) (fun _ _ _ h => h) (by rfl) ?hy1 (by assumption) ?_
  case hy1 => ((intro w hSw; (try dsimp only at hSw); (try go_split_ands); go_simp); try with_reducible rfl)
  simp only [Act.put, List.setIfInBounds_toArray, List.set_cons_zero, List.set_cons_succ]
  refine takeH (i := 1) (d := (some 11)) (v := ?v2) rfl rfl (by kernel_rfl) (by kernel_rfl) (by kernel_rfl) (fun _ _ _ h => h) (by rfl) ?hy2 (by assumption) ?_
  case hy2 => ((intro w hSw; (try dsimp only at hSw); (try go_split_ands); go_simp); try with_reducible rfl)
  simp only [Act.put, List.setIfInBounds_toArray, List.set_cons_zero, List.set_cons_succ]
  refine takeH (i := 2) (d := (some 12)) (v := ?v3) rfl rfl (by kernel_rfl) (by kernel_rfl) (by kernel_rfl) (fun _ _ _ h => h) (by rfl) ?hy3 (by assumption) ?_
  case hy3 => ((intro w hSw; (try dsimp only at hSw); (try go_split_ands); go_simp); try with_reducible rfl)
  simp only [Act.put, List.setIfInBounds_toArray, List.set_cons_zero, List.set_cons_succ]
  refine wpAnyH_ready (rs := [3]) (by kernel_rfl) (by simp) ?_
  refine AllReadyH.cons rfl (fun K hK => ?_) AllReadyH.nil
  go_simp
  refine (HT'.out _).mono ?_
  rintro e w1 ⟨rfl, u1⟩
  go_wp2_with fail
  refine hK.out _ _ ⟨u1.blk hHeld.1, hHeld.2.trans u1⟩ (fun hHeld => ?_)
  clear hK K
  refine wpAnyH_ready (rs := [4]) (by kernel_rfl) (by simp) ?_
  refine AllReadyH.cons rfl (fun K hK => ?_) AllReadyH.nil
  go_simp
  refine (readings_any _ _ _ _).mono ?_
  rintro e w2 ⟨rfl, hw2⟩
  have hb3 : mblk w2 w1.heap.size = some (.cells cs 62) := by rw [← hw2]; exact blk_keep _ (blk_keep _ (blk_new _ _ _ rfl))
  have hb1 : mblk w2 (w1.heap.size + 1) = some (.cells #[.int .i64 f] 3) := by rw [← hw2]; exact blk_keep _ (blk_new _ _ _ (by simp))
  have hb2 : mblk w2 (w1.heap.size + 1 + 1) = some (.cells #[.int .i64 u] 3) := by rw [← hw2]; exact blk_new _ _ _ (by simp)
  have U2 : Up w1 w2 := by rw [← hw2]; exact ((Up.refl w1).alloc _).alloc _ |>.alloc _
  have UW : Up W0 w2 := hHeld.2.trans U2
  have hL := Lib.hid hw2
  clear hw2
  go_wp2_with fail
  refine hK.out _ _ ⟨U2.blk hHeld.1, UW⟩ (fun _ => ?_)
  clear hK K
  refine wpAnyH_done (by kernel_rfl) ?_ _
  refine NoPanic.normal ?_
  have z5 := UW.blk k5
  have z6 := UW.blk k6
  have z7 := UW.blk k7
  have V2 : Up w w2 := U0.trans UW
  have l1 := blk_lt hb2
  have m7 := blk_lt z7
  clear UW U2 U0 k3 k5 k6 k7 u1 hL hHeld
  gi_wp2_with fail
  refine wpIn_rangeFunc_ownH (F := Fence.wide) (n := 5) rfl (by omega) (gf := 59) (lb := #[.pointer (some ⟨w1.heap.size + 1, 0, none⟩), .pointer (some ⟨w1.heap.size + 1 + 1, 0, none⟩), .pointer (some ⟨w1.heap.size, 0, none⟩)]) rfl trivial (enters_of Try.func59 (by kernel_rfl) rfl)
    (readings_stops hs.out A B Z S f u f0 u1' fu HR'.out (5 - 1) (by omega) (w1.heap.size + 1) (w1.heap.size + 1 + 1) w1.heap.size w2 w2.heap.size (Nat.le_refl _) (by omega) (by omega) (by omega) hb1 hb2 hb3) belowK_t (belowK_b (by omega)) (Below.refl _ _) (fun _ => rfl)
    (fun pre W => Below w2.heap.size w2 W ∧ NoneIn S f each pre)
    (fun c pre W => ∃ x : Nat, (Boxed W (w.heap.size + 1 + 1) 3 (.int .i64 (f + x)) ∧ Boxed W (w.heap.size + 1 + 1 + 1) 4 (.bool true)) ∧ Below w.heap.size w W ∧ FirstIn S f each pre x c)
    (OwnFrom.and (ownFrom_below (Nat.le_refl _) (Nat.le_refl _)) (fun _ _ _ _ hs _ _ => hs))
    (fun c pre X Y row hs hg hr => by
      obtain ⟨x, ⟨h1, h2⟩, h3, h4⟩ := hs
      exact ⟨x, ⟨boxed_own _ 3 (fun (_ : Unit) => Value.int .i64 (f + x)) () X Y row h1 hg (fun r e => (hr r e).2), boxed_own _ 4 (fun (_ : Unit) => Value.bool true) () X Y row h2 hg (fun r e => (hr r e).2)⟩,
        h3.grown hg h3.size (fun k e => by have := (hr k e).1; have := V2.size; omega), h4⟩)
    ⟨Below.refl _ _, fun i hi => by cases hi⟩
    (fun x a' W => ∃ Bx, W.heap[Bx]? = some (.cells #[.int .i64 (A (f + (x : Nat))), .int .i64 (B (f + x)), .int .i64 (Z (f + x)), .int .i64 (S (f + x))] 34 (0, 0)) ∧ a' = { tmps := #[.agg cs, .int .i64 f, .int .i64 each, .pointer (some ⟨w.heap.size, 0, none⟩), undef, .pointer (some ⟨w.heap.size + 1, 0, none⟩), .pointer (some ⟨w.heap.size + 1 + 1, 0, none⟩), .pointer (some ⟨w.heap.size + 1 + 1 + 1, 0, none⟩), .int .i64 (f + x), .pointer (some ⟨Bx, 0, none⟩), .agg cs, .int .i64 f, .agg cs, .int .i64 u, .func (.func 59) #[] #[.pointer (some ⟨w1.heap.size + 1, 0, none⟩), .pointer (some ⟨w1.heap.size + 1 + 1, 0, none⟩), .pointer (some ⟨w1.heap.size, 0, none⟩)], .int .i64 (f + x), rd (A (f + x)) (B (f + x)) (Z (f + x)) (S (f + x)), undef, undef, undef, undef, undef, undef], defers := [] })
    (fun x a' _ X Y row hs hg hr => by
      obtain ⟨Bx, h1, h2⟩ := hs
      exact ⟨Bx, (hg.block Bx (Array.getElem?_eq_some_iff.1 h1).1 (fun e => by obtain ⟨_, o, ho, hc⟩ := hr Bx e.symm; rw [h1] at ho; cases ho; simp [Obj.isCells] at hc)).trans h1, h2⟩)
    ?assign ?body ?done ?stop
  case assign =>
    rintro l pre x W K ⟨hB, hN⟩ hK
    have hsz := hB.size
    gi_wp2
    exact hK _ _ ((KeepsOthers.alloc _ _).from _) ((Below.refl _ W).alloc hsz _) ⟨hB.alloc hsz _, hN⟩ ⟨W.heap.size, World.alloc_heap_new W _, rfl⟩
  case body =>
    rintro l pre x a' W hl ⟨r, hr⟩ ⟨hB, hN⟩ ⟨Bx, hX, rfl⟩ hlt
    have y5 : Boxed W (w.heap.size + 1) 3 (.int .i64 each) := (hB.block _ (blk_lt z5)).trans z5
    have y6 : Boxed W (w.heap.size + 1 + 1) 3 (.int .i64 0) := (hB.block _ (blk_lt z6)).trans z6
    have y7 : Boxed W (w.heap.size + 1 + 1 + 1) 4 (.bool false) := (hB.block _ (blk_lt z7)).trans z7
    have c5 := y5.cell
    have c6 := y6.cell
    have c7 := y7.cell
    have f6 := y6.frozen
    have f7 := y7.frozen
    have cX := cellB (w := W) (b := Bx) hX
    have hBw : Below w.heap.size w W := Below.trans V2 (hB.mono V2.size)
    by_cases hz : (S (f + (x : Nat))).tmod each = 0
    · have hz' : ((S (f + (x : Nat))).tmod each != 0) = false := by simp [hz]
      have HZ := Lib.hid hz
      clear hz
      gi_wp2
      exact ⟨((KeepsOthers.setCell _ _ _).trans (KeepsOthers.setCell _ _ _)).from _, x, ⟨(y6.set _).other (by omega) _, (y7.other (by omega) _).set _⟩, (hBw.setCell (p := ⟨w.heap.size + 1 + 1, 0, none⟩) (by simp; omega) _).setCell (p := ⟨w.heap.size + 1 + 1 + 1, 0, none⟩) (by simp; omega) _, ⟨rfl, pre, rfl, hN, HZ.out⟩⟩
    · have hz' : ((S (f + (x : Nat))).tmod each != 0) = true := by simp [hz]
      have HZ := Lib.hid hz
      clear hz
      gi_wp2
      exact ⟨KeepsFrom.refl _ _, Below.refl _ _, hB, hN.snoc HZ.out⟩
  case done =>
    rintro D ys W hD rfl ⟨hB, hN⟩ hK
    obtain ⟨rfl, rfl⟩ := HV.out.done hN
    have y6 : Boxed W (w.heap.size + 1 + 1) 3 (.int .i64 0) := (hB.block _ (blk_lt z6)).trans z6
    have y7 : Boxed W (w.heap.size + 1 + 1 + 1) 4 (.bool false) := (hB.block _ (blk_lt z7)).trans z7
    have c6 := y6.cell
    have c7 := y7.cell
    have f6 := y6.frozen
    have f7 := y7.frozen
    have hBw : Below w.heap.size w W := Below.trans V2 (hB.mono V2.size)
    gi_wp2
    rw [Exit.noGoto_ret]
    have b6 : Boxed ((W.setCell ⟨w.heap.size + 1 + 1, 0, none⟩ (.int .i64 0)).setCell ⟨w.heap.size + 1 + 1 + 1, 0, none⟩ (.bool false)) (w.heap.size + 1 + 1) 3 (.int .i64 0) := (y6.set (.int .i64 0)).other (by omega) _
    have b7 : Boxed ((W.setCell ⟨w.heap.size + 1 + 1, 0, none⟩ (.int .i64 0)).setCell ⟨w.heap.size + 1 + 1 + 1, 0, none⟩ (.bool false)) (w.heap.size + 1 + 1 + 1) 4 (.bool false) := (y7.other (by omega) _).set _
    refine ⟨by simp, .inl ⟨_, _, rfl, run_takeDeferred (((KeepsOthers.setCell _ _ _).trans (KeepsOthers.setCell _ _ _)).same D _ hK rfl), ?_⟩⟩
    have g6 := b6.kept (grownBy_putObj' _ D (.deferred none)) (fun e => by cases e; omega)
    have g7 := b7.kept (grownBy_putObj' _ D (.deferred none)) (fun e => by cases e; omega)
    have h6 := g6.cell
    have h7 := g7.cell
    have hK2 := ((KeepsOthers.setCell W ⟨w.heap.size + 1 + 1, 0, none⟩ (.int .i64 0)).trans (KeepsOthers.setCell _ ⟨w.heap.size + 1 + 1 + 1, 0, none⟩ (.bool false))).same D _ hK rfl
    have hB2 := (hBw.setCell (p := ⟨w.heap.size + 1 + 1, 0, none⟩) (by simp; omega) (.int .i64 0)).setCell (p := ⟨w.heap.size + 1 + 1 + 1, 0, none⟩) (by simp; omega) (.bool false)
    exact ⟨.tuple #[.int .i64 0, .bool false], by simp [results, Try.results28, go_sem, h6, h7], rfl, hB2.trans (belowK_b (w := w) (Nat.le_refl _) _ D _ _ (by have := V2.size; omega) hK2 rfl rfl)⟩
  case stop =>
    rintro D c pre W hD hp ⟨x, ⟨b6, b7⟩, hB, hF⟩ hK
    obtain ⟨rfl, rfl⟩ := HV.out.stop hp hF
    obtain ⟨rfl, _⟩ := hF
    gi_wp2
    rw [Exit.noGoto_ret]
    refine ⟨by simp, .inl ⟨_, _, rfl, run_takeDeferred hK, ?_⟩⟩
    have g6 := b6.kept (grownBy_putObj' _ D (.deferred none)) (fun e => by cases e; omega)
    have g7 := b7.kept (grownBy_putObj' _ D (.deferred none)) (fun e => by cases e; omega)
    have h6 := g6.cell
    have h7 := g7.cell
    exact ⟨.tuple #[.int .i64 (f + x), .bool true], by simp [results, Try.results28, go_sem, h6, h7], rfl, hB.trans (belowK_b (w := w) (Nat.le_refl _) _ D _ _ (by have := V2.size; omega) hK rfl rfl)⟩

end Go.Proofs.Ytghelfbigbdkkaa

/- The contract of dial's Next. -/
namespace Go.Proofs.Ytghelfbigbdkkaa
open Go.RowKit

/-- the day of a tick -/
def D.dy (h m s : Int) (x : Nat → Int) (t : Int) : Nat → Nat
  | 0 => 0
  | n + 1 => if D.beg h m s x n ≤ t then n else D.dy h m s x t n
theorem D.dy_is (h m s : Int) (x : Nat → Int) (t : Int) (t0 : 0 ≤ t) (n : Nat) (t1 : t < D.beg h m s x n) : D.dy h m s x t n < n ∧ D.beg h m s x (D.dy h m s x t n) ≤ t ∧ t < D.beg h m s x (D.dy h m s x t n + 1) := by
  induction n with
  | zero => rw [D.beg_zero] at t1; omega
  | succ n ih =>
    unfold D.dy
    by_cases g : D.beg h m s x n ≤ t
    · rw [if_pos g]; exact ⟨by omega, g, t1⟩
    · rw [if_neg g]
      obtain ⟨a, b⟩ := ih (by omega)
      exact ⟨by omega, b⟩
/-- the parts of the reading of a tick -/
def D.rR (h m s : Int) (x : Nat → Int) (n : Nat) (t : Int) : Int := t - D.beg h m s x (D.dy h m s x t n)
def D.rA (h m s : Int) (x : Nat → Int) (n : Nat) (t : Int) : Int := D.dy h m s x t n
def D.rB (h m s : Int) (x : Nat → Int) (n : Nat) (t : Int) : Int := D.q h m s (D.rR h m s x n t) / m
def D.rC (h m s : Int) (x : Nat → Int) (n : Nat) (t : Int) : Int := D.q h m s (D.rR h m s x n t) % m
def D.rS (h m s : Int) (x : Nat → Int) (n : Nat) (t : Int) : Int := D.rR h m s x n t - D.q h m s (D.rR h m s x n t) * s

theorem reading_rd {cs : Array Value} {h m s : Int} {n : Nat} {x : Nat → Int} (V : CalV cs h m s n x) (t : Int) (w : World) (t0 : 0 ≤ t) (t1 : t < D.beg h m s x n) :
    Calls Try.prog 25 #[.agg cs, .int .i64 t] w fun e w' => e = .returned (rd (D.rA h m s x n t) (D.rB h m s x n t) (D.rC h m s x n t) (D.rS h m s x n t)) ∧ Up w w' := by
  obtain ⟨a, b, c⟩ := D.dy_is h m s x t t0 n t1
  exact reading_any V.cal V.hx t (D.dy h m s x t n) w V.h1 V.h2 V.m1 V.m2 V.s1 V.s2 V.d2 a t0 b c _ _ (Lib.hid rfl) (Lib.hid rfl)

theorem NextIs.ex (S : Int → Int) (f u each : Int) (fu : f ≤ u) : ∃ v ok, NextIs S f u each v ok := by
  have K : ∀ N : Nat, (∃ x, x < N ∧ NoneIn S f each (List.range x) ∧ (S (f + (x : Nat))).tmod each = 0) ∨ NoneIn S f each (List.range N) := by
    intro N
    induction N with
    | zero => exact .inr (fun i hi => by simp at hi)
    | succ N ih =>
      rcases ih with ⟨x, a, b⟩ | ih
      · exact .inl ⟨x, by omega, b⟩
      · by_cases g : (S (f + (N : Nat))).tmod each = 0
        · exact .inl ⟨N, by omega, ih, g⟩
        · exact .inr (by rw [List.range_succ]; exact ih.snoc g)
  rcases K (u - f).toNat with ⟨x, a, b, c⟩ | hN
  · exact ⟨_, _, .inl ⟨x, by omega, b, c, rfl, rfl⟩⟩
  · exact ⟨_, _, .inr ⟨hN, rfl, rfl⟩⟩

set_option maxRecDepth 100000 in
theorem Next_no {h m s d : Int} {a : Option Addr} {n c : Nat} {L : List (Int × Bool)} {w : World} (A : CalArg w a n c L) (t each : Int) (hv : D.valid h m s d L = false) :
    Calls Try.prog 11 #[.agg #[.int .i64 h, .int .i64 m, .int .i64 s, .int .i64 d, .slice a n c], .int .i64 t, .int .i64 each] w fun e w' => e = .returned (.tuple #[.int .i64 0, .int .i64 10]) ∧ Up w w' := by
  have K := Lib.hid (newCal_no (A.up ((Up.refl w).alloc (.cells #[.int .i64 h, .int .i64 m, .int .i64 s, .int .i64 d, .slice a n c] 24))) hv)
  obtain ⟨N, hN⟩ : ∃ N, N = D.calN := ⟨_, rfl⟩
  rw [← hN] at K
  have hs : Hid (N.size = 15) := by rw [hN]; exact calN_size
  have ho : Ok15 N := by rw [hN]; exact calN_ok
  clear hN hv
  go_enter Try.func11, Try.ntmps11
  go_wp2_with fail
  refine K.out.mono ?_
  rintro e w1 ⟨rfl, u1⟩
  go_wp2
  go_ret2
  exact ⟨rfl, (((Up.refl _).alloc _).trans u1).alloc _⟩

set_option maxRecDepth 100000 in
theorem Next_ask1 {h m s d : Int} {a : Option Addr} {n c : Nat} {L : List (Int × Bool)} {w : World} (A : CalArg w a n c L) (t each : Int) (hv : D.valid h m s d L = true) (hk : inB t 0 (D.beg h m s (D.deeds L L.length) d.toNat - 1) = false) :
    Calls Try.prog 11 #[.agg #[.int .i64 h, .int .i64 m, .int .i64 s, .int .i64 d, .slice a n c], .int .i64 t, .int .i64 each] w fun e w' => e = .returned (.tuple #[.int .i64 0, .int .i64 11]) ∧ Up w w' := by
  obtain ⟨cs, N, rfl, V, K⟩ := newCal_yes (A.up ((Up.refl w).alloc (.cells #[.int .i64 h, .int .i64 m, .int .i64 s, .int .i64 d, .slice a n c] 24))) hv
  have HK := Lib.hid K
  have hs := Lib.hid V.cal.size
  have ho : Ok15 cs := ⟨V.cal.size, V.one⟩
  clear hv K
  have KD := fun w => hasReading_any V.cal t w V.h1 V.h2 V.m1 V.m2 V.s1 V.s2 V.d2
  rw [Int.toNat_natCast] at hk
  rw [hk] at KD
  have HD := Lib.hid KD
  clear KD hk
  go_enter Try.func11, Try.ntmps11
  go_wp2_with fail
  refine HK.out.mono ?_
  rintro e w1 ⟨rfl, u1⟩
  go_wp2_with fail
  refine (HD.out _).mono ?_
  rintro e w2 ⟨rfl, u2⟩
  go_wp2
  go_ret2
  exact ⟨rfl, ((((Up.refl _).alloc _).trans u1).alloc _).trans u2⟩

set_option maxRecDepth 100000 in
theorem Next_ask2 {h m s d : Int} {a : Option Addr} {n c : Nat} {L : List (Int × Bool)} {w : World} (A : CalArg w a n c L) (t each : Int) (hv : D.valid h m s d L = true) (hk : inB t 0 (D.beg h m s (D.deeds L L.length) d.toNat - 1) = true) (he : ¬ (1 ≤ each ∧ each ≤ 60)) :
    Calls Try.prog 11 #[.agg #[.int .i64 h, .int .i64 m, .int .i64 s, .int .i64 d, .slice a n c], .int .i64 t, .int .i64 each] w fun e w' => e = .returned (.tuple #[.int .i64 0, .int .i64 11]) ∧ Up w w' := by
  obtain ⟨cs, N, rfl, V, K⟩ := newCal_yes (A.up ((Up.refl w).alloc (.cells #[.int .i64 h, .int .i64 m, .int .i64 s, .int .i64 d, .slice a n c] 24))) hv
  have HK := Lib.hid K
  have hs := Lib.hid V.cal.size
  have ho : Ok15 cs := ⟨V.cal.size, V.one⟩
  clear hv K
  have KD := fun w => hasReading_any V.cal t w V.h1 V.h2 V.m1 V.m2 V.s1 V.s2 V.d2
  rw [Int.toNat_natCast] at hk
  rw [hk] at KD
  have HD := Lib.hid KD
  clear KD hk
  go_enter Try.func11, Try.ntmps11
  go_wp2_with fail
  refine HK.out.mono ?_
  rintro e w1 ⟨rfl, u1⟩
  go_wp2_with fail
  refine (HD.out _).mono ?_
  rintro e w2 ⟨rfl, u2⟩
  go_wp2_with fail
  refine (within_no _ _ _ _ he).mono ?_
  rintro e w3 ⟨rfl, rfl⟩
  go_wp2
  go_ret2
  exact ⟨rfl, ((((Up.refl _).alloc _).trans u1).alloc _).trans u2⟩

set_option maxRecDepth 100000 in
theorem Next_yes {h m s d : Int} {a : Option Addr} {n c : Nat} {L : List (Int × Bool)} {w : World} (A : CalArg w a n c L) (t each : Int) (v : Int) (hv : D.valid h m s d L = true) (hk : inB t 0 (D.beg h m s (D.deeds L L.length) d.toNat - 1) = true) (h1 : 1 ≤ each) (h2 : each ≤ 60) (hN : NextIs (D.rS h m s (D.deeds L L.length) d.toNat) t (D.beg h m s (D.deeds L L.length) d.toNat) each v true) :
    Calls Try.prog 11 #[.agg #[.int .i64 h, .int .i64 m, .int .i64 s, .int .i64 d, .slice a n c], .int .i64 t, .int .i64 each] w fun e w' => e = .returned (.tuple #[.int .i64 v, .int .i64 0]) ∧ Up w w' := by
  obtain ⟨cs, N, rfl, V, K⟩ := newCal_yes (A.up ((Up.refl w).alloc (.cells #[.int .i64 h, .int .i64 m, .int .i64 s, .int .i64 d, .slice a n c] 24))) hv
  have HK := Lib.hid K
  have hs := Lib.hid V.cal.size
  have ho : Ok15 cs := ⟨V.cal.size, V.one⟩
  clear hv K
  have KD := fun w => hasReading_any V.cal t w V.h1 V.h2 V.m1 V.m2 V.s1 V.s2 V.d2
  rw [Int.toNat_natCast] at hk
  rw [Int.toNat_natCast] at hN
  have t0 := (inB_iff.1 hk).1
  have t1 := (inB_iff.1 hk).2
  rw [hk] at KD
  have bb := (D.beg_bd h m s (D.deeds L L.length) V.h1 V.h2 V.m1 V.m2 V.s1 V.s2 N).2
  have HN := Lib.hid (fun w => next_in V.cal.size (D.rA h m s (D.deeds L L.length) N) (D.rB h m s (D.deeds L L.length) N) (D.rC h m s (D.deeds L L.length) N) (D.rS h m s (D.deeds L L.length) N) t (D.beg h m s (D.deeds L L.length) N) each t0 (by have := V.d2; omega) (by omega) h1
    (fun t w a b => reading_rd V t w (by omega) b) (fun w => total_beg V.cal w V.h1 V.h2 V.m1 V.m2 V.s1 V.s2 V.d2) v true hN w)
  have HD := Lib.hid KD
  clear KD hk hN t0 t1 bb
  go_enter Try.func11, Try.ntmps11
  go_wp2_with fail
  refine HK.out.mono ?_
  rintro e w1 ⟨rfl, u1⟩
  go_wp2_with fail
  refine (HD.out _).mono ?_
  rintro e w2 ⟨rfl, u2⟩
  have k2 := u2.blk (blk_new _ _ _ rfl)
  go_wp2_with fail
  refine (within_yes _ _ _ _ h1 h2).mono ?_
  rintro e w3 ⟨rfl, rfl⟩
  go_wp2_with fail
  refine (HN.out _).mono ?_
  rintro e w4 ⟨rfl, u4⟩
  go_wp2
  go_ret2
  exact ⟨rfl, (((((Up.refl _).alloc _).trans u1).alloc _).trans u2).trans u4⟩

set_option maxRecDepth 100000 in
theorem Next_none {h m s d : Int} {a : Option Addr} {n c : Nat} {L : List (Int × Bool)} {w : World} (A : CalArg w a n c L) (t each : Int) (v : Int) (hv : D.valid h m s d L = true) (hk : inB t 0 (D.beg h m s (D.deeds L L.length) d.toNat - 1) = true) (h1 : 1 ≤ each) (h2 : each ≤ 60) (hN : NextIs (D.rS h m s (D.deeds L L.length) d.toNat) t (D.beg h m s (D.deeds L L.length) d.toNat) each v false) :
    Calls Try.prog 11 #[.agg #[.int .i64 h, .int .i64 m, .int .i64 s, .int .i64 d, .slice a n c], .int .i64 t, .int .i64 each] w fun e w' => e = .returned (.tuple #[.int .i64 0, .int .i64 4]) ∧ Up w w' := by
  obtain ⟨cs, N, rfl, V, K⟩ := newCal_yes (A.up ((Up.refl w).alloc (.cells #[.int .i64 h, .int .i64 m, .int .i64 s, .int .i64 d, .slice a n c] 24))) hv
  have HK := Lib.hid K
  have hs := Lib.hid V.cal.size
  have ho : Ok15 cs := ⟨V.cal.size, V.one⟩
  clear hv K
  have KD := fun w => hasReading_any V.cal t w V.h1 V.h2 V.m1 V.m2 V.s1 V.s2 V.d2
  rw [Int.toNat_natCast] at hk
  rw [Int.toNat_natCast] at hN
  have t0 := (inB_iff.1 hk).1
  have t1 := (inB_iff.1 hk).2
  rw [hk] at KD
  have bb := (D.beg_bd h m s (D.deeds L L.length) V.h1 V.h2 V.m1 V.m2 V.s1 V.s2 N).2
  have HN := Lib.hid (fun w => next_in V.cal.size (D.rA h m s (D.deeds L L.length) N) (D.rB h m s (D.deeds L L.length) N) (D.rC h m s (D.deeds L L.length) N) (D.rS h m s (D.deeds L L.length) N) t (D.beg h m s (D.deeds L L.length) N) each t0 (by have := V.d2; omega) (by omega) h1
    (fun t w a b => reading_rd V t w (by omega) b) (fun w => total_beg V.cal w V.h1 V.h2 V.m1 V.m2 V.s1 V.s2 V.d2) v false hN w)
  have HD := Lib.hid KD
  clear KD hk hN t0 t1 bb
  go_enter Try.func11, Try.ntmps11
  go_wp2_with fail
  refine HK.out.mono ?_
  rintro e w1 ⟨rfl, u1⟩
  go_wp2_with fail
  refine (HD.out _).mono ?_
  rintro e w2 ⟨rfl, u2⟩
  have k2 := u2.blk (blk_new _ _ _ rfl)
  go_wp2_with fail
  refine (within_yes _ _ _ _ h1 h2).mono ?_
  rintro e w3 ⟨rfl, rfl⟩
  go_wp2_with fail
  refine (HN.out _).mono ?_
  rintro e w4 ⟨rfl, u4⟩
  go_wp2
  go_ret2
  exact ⟨rfl, (((((Up.refl _).alloc _).trans u1).alloc _).trans u2).trans u4⟩

end Go.Proofs.Ytghelfbigbdkkaa

/- What a tick's reading and a reading's tick are, of a valid calendar. -/
namespace Go.Proofs.Ytghelfbigbdkkaa
open Go.RowKit

theorem D.tk_bd {h m s : Int} {x : Nat → Int} {n : Nat} {a b c q : Int} (h1 : 1 ≤ h) (h2 : h ≤ 24) (m1 : 1 ≤ m) (m2 : m ≤ 60) (s1 : 2 ≤ s) (s2 : s ≤ 60) (n2 : n ≤ 10) (hr : D.isRd h m s n x a b c q = true) : 0 ≤ D.tk h m s x a b c q ∧ D.tk h m s x a b c q ≤ 1000000 := by
  obtain ⟨a0, a1, b1, b2, c1, c2, q1, q2, _⟩ := D.isRd_bd h1 h2 m1 m2 s1 s2 hr
  have t := D.beg_bd h m s x h1 h2 m1 m2 s1 s2 a.toNat
  have p1 : 0 ≤ b * m ∧ b * m ≤ 1440 := by
    have := Int.mul_nonneg b1 (by omega : 0 ≤ m)
    have := Int.mul_le_mul (show b ≤ 24 by omega) m2 (by omega) (by omega)
    omega
  have p2 : 0 ≤ (b * m + c) * s ∧ (b * m + c) * s ≤ 90000 := by
    have := Int.mul_nonneg (show 0 ≤ b * m + c by omega) (by omega : 0 ≤ s)
    have := Int.mul_le_mul (show b * m + c ≤ 1500 by omega) s2 (by omega) (by omega)
    omega
  unfold D.tk
  omega
theorem D.valid_bd {h m s d : Int} {L : List (Int × Bool)} (hv : D.valid h m s d L = true) : 1 ≤ h ∧ h ≤ 24 ∧ 1 ≤ m ∧ m ≤ 60 ∧ 2 ≤ s ∧ s ≤ 60 ∧ 1 ≤ d ∧ d ≤ 10 := by
  simp only [D.valid, D.sizes, Bool.and_eq_true, inB_iff] at hv
  omega
theorem D.tickV_is (h m s d : Int) (L : List (Int × Bool)) : ∃ E : Int, 4 ≤ E ∧ E ≤ 10 ∧ ∀ a b c q, ((D.tickV h m s d L a b c q).2 = 0 ∧ 0 ≤ (D.tickV h m s d L a b c q).1 ∧ (D.tickV h m s d L a b c q).1 ≤ 1000000) ∨ ((D.tickV h m s d L a b c q).1 = 0 ∧ (D.tickV h m s d L a b c q).2 = E) := by
  by_cases hv : D.valid h m s d L = true
  · refine ⟨4, by omega, by omega, fun a b c q => ?_⟩
    obtain ⟨h1, h2, m1, m2, s1, s2, d1, d2⟩ := D.valid_bd hv
    unfold D.tickV
    rw [if_pos hv]
    by_cases hr : D.isRd h m s d (D.deeds L L.length) a b c q = true
    · rw [if_pos hr]
      obtain ⟨n, rfl⟩ : ∃ n : Nat, d = n := ⟨d.toNat, by omega⟩
      exact .inl ⟨rfl, D.tk_bd h1 h2 m1 m2 s1 s2 (by omega) hr⟩
    · rw [if_neg hr]
      exact .inr ⟨rfl, rfl⟩
  · refine ⟨10, by omega, by omega, fun a b c q => .inr ?_⟩
    unfold D.tickV
    rw [if_neg hv]
    exact ⟨rfl, rfl⟩
theorem Reading_rd {h m s d : Int} {a : Option Addr} {n c : Nat} {L : List (Int × Bool)} {w : World} (A : CalArg w a n c L) (t : Int) (hv : D.valid h m s d L = true) (t0 : 0 ≤ t) (t1 : t < D.beg h m s (D.deeds L L.length) d.toNat) :
    Calls Try.prog 7 #[.agg #[.int .i64 h, .int .i64 m, .int .i64 s, .int .i64 d, .slice a n c], .int .i64 t] w fun e w' => e = .returned (.tuple #[rd (D.rA h m s (D.deeds L L.length) d.toNat t) (D.rB h m s (D.deeds L L.length) d.toNat t) (D.rC h m s (D.deeds L L.length) d.toNat t) (D.rS h m s (D.deeds L L.length) d.toNat t), .int .i64 0]) ∧ Up w w' := by
  obtain ⟨h1, h2, m1, m2, s1, s2, d1, d2⟩ := D.valid_bd hv
  obtain ⟨p1, p2, p3⟩ := D.dy_is h m s (D.deeds L L.length) t t0 d.toNat t1
  exact Reading_yes A t _ hv (by omega) t0 p2 p3
theorem Reading_out {h m s d : Int} {a : Option Addr} {n c : Nat} {L : List (Int × Bool)} {w : World} (A : CalArg w a n c L) (t : Int) (hv : D.valid h m s d L = true) (t1 : ¬ (0 ≤ t ∧ t < D.beg h m s (D.deeds L L.length) d.toNat)) :
    Calls Try.prog 7 #[.agg #[.int .i64 h, .int .i64 m, .int .i64 s, .int .i64 d, .slice a n c], .int .i64 t] w fun e w' => e = .returned (.tuple #[rd 0 0 0 0, .int .i64 11]) ∧ Up w w' :=
  Reading_ask A t hv (by rw [inB_no]; omega)
theorem cell_BOX2 {w : World} {b : Nat} {cs : Array Value} (h : mblk w b = some (.cells cs 3 (0, 0))) (j : Nat) : w.cell? ⟨b, j, none⟩ = cs[j]? := cellB h j

end Go.Proofs.Ytghelfbigbdkkaa
