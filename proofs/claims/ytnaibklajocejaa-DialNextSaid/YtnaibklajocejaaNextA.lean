import Derived.Test.YtnaibklajocejaaCalN
import Derived.RangeFuncNested
import Derived.RangeFuncBound
import Derived.RangeFuncCalls
import Derived.RangeFuncLeaves
import Derived.Shelf.Abstract
import Derived.Shelf.RegionOpen
import Derived.OwnWalkIn
import Derived.TacticsInMore
import Derived.LoopNIn
import Derived.LoopIn
/- The contracts of dial's readings: the iterator over ticks. -/
namespace Go.Proofs.Ytnaibklajocejaa
open Go.RowKit Go.Shelf
attribute [local go_sem] Oper.semAt_some

theorem range_prefix {a b : Nat} (h : a ≤ b) : List.range a <+: List.range b := by
  obtain ⟨c, rfl⟩ : ∃ c, b = a + c := ⟨b - a, by omega⟩
  rw [List.range_add]
  exact List.prefix_append _ _
theorem readings_any (cs : Array Value) (f u : Int) (w : World) :
    Calls Try.prog 89 #[.agg cs, .int .i64 f, .int .i64 u] w fun e w' => e = .returned (.func (.func 105) #[] #[.pointer (some ⟨w.heap.size + 1, 0, none⟩), .pointer (some ⟨w.heap.size + 1 + 1, 0, none⟩), .pointer (some ⟨w.heap.size, 0, none⟩)]) ∧
      ((w.alloc (.cells cs 87)).alloc (.cells #[.int .i64 f] 3)).alloc (.cells #[.int .i64 u] 3) = w' := by
  go_enter Try.func89, Try.ntmps89
  go_wp2
  go_ret
  exact ⟨rfl, rfl⟩

theorem readings1_in {cs : Array Value} (hsz : cs.size = 15) (A B Z S : Int → Int) (f u : Int) (f0 : 0 ≤ f) (u1 : u ≤ 1000000) (fu : f ≤ u)
    (HR : ∀ (t : Int) (w : World), f ≤ t → t < u → Calls Try.prog 59 #[.agg cs, .int .i64 t] w fun e w' => e = .returned (rd (A t) (B t) (Z t) (S t)) ∧ Up w w')
    (n : Nat) (hn : 1 ≤ n) (l n₀ b1 b2 b3 : Nat) (J Jx : List Nat → World → Prop) (W : World) (g2 : b2 < n₀) (g3 : b3 < n₀)
    (h1 : mblk W b1 = some (.cells #[.int .i64 f] 3)) (h2 : mblk W b2 = some (.cells #[.int .i64 u] 3)) (h3 : mblk W b3 = some (.cells cs 87))
    (hJ : ∀ s X Y, J s X → Up X Y → J s Y)
    (hY : ∀ pre x X, J pre X → pre.length < (u - f).toNat → YieldAt Fence.wide (n - 1) Try.prog l #[.int .i64 (f + (x : Nat)), rd (A (f + x)) (B (f + x)) (Z (f + x)) (S (f + x))] X fun e Y =>
      (e = .returned (.bool true) ∧ J (pre ++ [x]) Y ∧ Below n₀ X Y) ∨ (e = .returned (.bool false) ∧ Jx (pre ++ [x]) Y))
    (h0 : J [] W) :
    CallsIn Fence.wide n Try.prog 105 #[.func (.yield l) #[] #[], .pointer (some ⟨b1, 0, none⟩), .pointer (some ⟨b2, 0, none⟩), .pointer (some ⟨b3, 0, none⟩)] W fun e Y => (∃ v, e = .returned v) ∧
      ((∃ xs, xs = List.range (u - f).toNat ∧ J xs Y) ∨ (∃ pre, pre <+: List.range (u - f).toNat ∧ Jx pre Y)) := by
  have hs := Lib.hid hsz
  have HR' := Lib.hid HR
  have HY := Lib.hid hY
  have HJ := Lib.hid hJ
  clear HR hY hJ hsz
  have c1 := cellB h1
  refine callsIn_of_wp Try.func105 rfl trivial ?_ rfl
  simp only [Try.ntmps105, List.size_toArray, List.length_cons, List.length_nil, Nat.reduceAdd, Nat.reduceSub, Array.replicate_succ, Array.replicate_zero, List.push_toArray, List.append_toArray, List.nil_append, List.cons_append]
  gi_wp2
  gi_loopw [5] (fun t wr => ∃ k : Nat, (k : Int) ≤ u - f ∧ t = .int .i64 (f + k) ∧ J (List.range k) wr ∧ mblk wr b2 = some (.cells #[.int .i64 u] 3) ∧ mblk wr b3 = some (.cells cs 87)) (fun t _ => (u - intOf t).toNat)
  case atStart => exact ⟨0, by omega, by simp, h0, h2, h3⟩
  case round =>
    obtain ⟨k, hk, rfl, hJs, k2, k3⟩ := hrel
    have c2 := cellB k2
    by_cases hlt : f + (k : Int) < u
    · gi_wp2_with fail
      refine ⟨trivial, ?_⟩
      refine (callsIn_wide.2 (HR'.out (f + k) _ (by omega) hlt)).mono ?_
      rintro e w2 ⟨rfl, u2⟩
      have J2 := HJ.out _ _ _ hJs u2
      have y2 := u2.blk k2
      have y3 := u2.blk k3
      obtain ⟨fn, tmps, assign, body, hy, hR⟩ := HY.out (List.range k) k w2 J2 (by rw [List.length_range]; omega)
      clear u2 k2 k3 c2 hJs J2
      gi_wp2_with fail
      refine hR.mono ?_
      rintro e w3 (⟨rfl, hJ3, hk3⟩ | ⟨rfl, hJx3⟩)
      · have z2 : mblk w3 b2 = some (.cells #[.int .i64 u] 3) := (hk3.block b2 g2).trans y2
        have z3 : mblk w3 b3 = some (.cells cs 87) := (hk3.block b3 g3).trans y3
        clear hR hy
        gi_wp2
        go_roundw
        case rel => exact ⟨k + 1, by omega, by rw [show f + ((k + 1 : Nat) : Int) = f + (k : Int) + 1 by omega], by rw [List.range_succ]; exact hJ3, z2, z3⟩
        case measure => simp [intOf]; omega
      · clear hR hy
        gi_wp2
        refine bodyPost_ret (results_none rfl _ _ _) rfl ?_
        exact ⟨⟨_, rfl⟩, .inr ⟨List.range k ++ [k], by rw [← List.range_succ]; exact range_prefix (by omega), hJx3⟩⟩
    · gi_wp2
      go_end0
      have e : k = (u - f).toNat := by omega
      subst e
      exact ⟨⟨_, rfl⟩, .inl hJs⟩

/-- the iterator's contract -/
theorem readings_stops {cs : Array Value} (hsz : cs.size = 15) (A B Z S : Int → Int) (f u : Int) (f0 : 0 ≤ f) (u1 : u ≤ 1000000) (fu : f ≤ u)
    (HR : ∀ (t : Int) (w : World), f ≤ t → t < u → Calls Try.prog 59 #[.agg cs, .int .i64 t] w fun e w' => e = .returned (rd (A t) (B t) (Z t) (S t)) ∧ Up w w')
    (n : Nat) (hn : 1 ≤ n) (b1 b2 b3 : Nat) (w : World) (n₀ : Nat) (g0 : n₀ ≤ w.heap.size) (g1 : b1 < n₀) (g2 : b2 < n₀) (g3 : b3 < n₀)
    (h1 : mblk w b1 = some (.cells #[.int .i64 f] 3)) (h2 : mblk w b2 = some (.cells #[.int .i64 u] 3)) (h3 : mblk w b3 = some (.cells cs 87)) :
    SeqStopsK Fence.wide n Try.prog 105 #[.pointer (some ⟨b1, 0, none⟩), .pointer (some ⟨b2, 0, none⟩), .pointer (some ⟨b3, 0, none⟩)]
      (fun x : Nat => #[.int .i64 (f + (x : Nat)), rd (A (f + x)) (B (f + x)) (Z (f + x)) (S (f + x))]) (Below n₀) (fun xs => xs = List.range (u - f).toNat) (fun pre => pre <+: List.range (u - f).toNat) (u - f).toNat w := by
  intro l J Jx W hW hJ _ hY h0
  have q1 : mblk W b1 = some (.cells #[.int .i64 f] 3) := (Below.block hW b1 (by omega)).trans h1
  have q2 : mblk W b2 = some (.cells #[.int .i64 u] 3) := (Below.block hW b2 (by omega)).trans h2
  have q3 : mblk W b3 = some (.cells cs 87) := (Below.block hW b3 (by omega)).trans h3
  exact readings1_in hsz A B Z S f u f0 u1 fu HR n hn l n₀ b1 b2 b3 J Jx W g2 g3 q1 q2 q3
    (fun s X Y hX hU => hJ s X Y none hX ⟨hU.os, hU.tape, hU.output, hU.size, fun j hj _ => Below.block hU j hj⟩ (by simp)) hY h0

end Go.Proofs.Ytnaibklajocejaa
