import Derived.Test.YtckjggkikpgidaaKno
import Derived.RangeFuncNested
import Derived.RangeFuncBound
import Derived.RangeFuncCalls
import Derived.RangeFuncLeaves
import Derived.Shelf.Abstract
import Derived.Shelf.RegionOpen
import Derived.OwnWalkIn
import Derived.TacticsInMore
import Derived.LoopNIn
import Derived.LoopIn
/- The contracts of scale's adds: the iterator over what ticks can add. -/
namespace Go.Proofs.Ytckjggkikpgidaa
open Go.RowKit Go.Shelf
attribute [local go_sem] Oper.semAt_some

theorem range_prefix {a b : Nat} (h : a ≤ b) : List.range a <+: List.range b := by
  obtain ⟨c, rfl⟩ : ∃ c, b = a + c := ⟨b - a, by omega⟩
  rw [List.range_add]
  exact List.prefix_append _ _
/-- all blocks below a number are kept, but one -/
def S.Kx (sb n₀ : Nat) (A B : World) : Prop := ∀ b, b < n₀ → b ≠ sb → B.heap[b]? = A.heap[b]?
theorem S.kx_t {sb n₀ : Nat} {A B C : World} (h : S.Kx sb n₀ A B) (k : S.Kx sb n₀ B C) : S.Kx sb n₀ A C := fun b h1 h2 => (k b h1 h2).trans (h b h1 h2)
theorem S.kx_b {sb n₀ : Nat} {w : World} (hn : n₀ ≤ w.heap.size) (W : World) (l : Nat) (o o' : Obj) (hl : w.heap.size ≤ l) (_ : W.heap[l]? = some o) (_ : o.isCells = false) (_ : o.isWalk = false) : S.Kx sb n₀ W (W.putObj l o') :=
  fun b h1 _ => World.putObj_heap_other (by omega)
theorem S.kx_of {sb n₀ : Nat} {A B : World} (h : Below n₀ A B) : S.Kx sb n₀ A B := fun b hb _ => Below.block h b hb
/-- what is known stays so while its block is kept -/
theorem S.Own.below {w w' : World} {m n : Nat} {M : DataW Nat} (h : S.Own w m n M) (hb : w'.heap[m]? = w.heap[m]?) : S.Own w' m n M := by
  obtain ⟨es, clock, hh, F, hs, hD⟩ := h
  exact ⟨es, clock, hb.trans hh, F, hs, hD⟩
theorem S.lit_inj {a b : Int} (h : (DataW.lit (.int .i64 a) : DataW Nat) = .lit (.int .i64 b)) : a = b := by
  injection h with h
  injection h
theorem adds_any (m : Nat) (p : Int) (T : Int) (w : World) :
    Calls Try.prog 105 #[.map (some m), .int .i64 p, .int .i64 T] w fun e w' => e = .returned (.func (.func 114) #[] #[.pointer (some ⟨w.heap.size + 1 + 1, 0, none⟩), .pointer (some ⟨w.heap.size, 0, none⟩), .pointer (some ⟨w.heap.size + 1, 0, none⟩)]) ∧
      ((w.alloc (.cells #[.map (some m)] 86)).alloc (.cells #[.int .i64 p] 87)).alloc (.cells #[.int .i64 T] 3) = w' := by
  go_enter Try.func105, Try.ntmps105
  go_wp2
  go_ret
  exact ⟨rfl, rfl⟩

set_option maxRecDepth 100000 in
set_option maxHeartbeats 1000000 in
theorem adds1_in {f s j p : Int} (hp : p = 0 ∨ p = 1 ∨ p = 2) {T : Nat} (hT : T ≤ 200) (n : Nat) (hn : 1 ≤ n) (l sb n₀ b5 b3 b4 m nn : Nat) (M : DataW Nat) (hM : S.MapIs M (S.knows f s j)) (J Jx : List Nat → World → Prop) (W : World) (g5 : b5 < n₀) (g3 : b3 < n₀) (g4 : b4 < n₀) (gm : m < n₀) (hne : b5 ≠ sb ∧ b3 ≠ sb ∧ b4 ≠ sb ∧ m ≠ sb)
    (h5 : mblk W b5 = some (.cells #[.int .i64 T] 3 (0, 0))) (h3 : mblk W b3 = some (.cells #[.map (some m)] 86 (0, 0))) (h4 : mblk W b4 = some (.cells #[.int .i64 p] 87 (0, 0))) (ho : S.Own W m nn M)
    (hJ : ∀ s X Y, J s X → Up X Y → J s Y)
    (hY : ∀ pre x X, J pre X → pre.length < T → YieldAt Fence.wide (n - 1) Try.prog l #[.int .i64 (S.add (S.part f s p) j T x)] X fun e Y =>
      (e = .returned (.bool true) ∧ J (pre ++ [x]) Y ∧ S.Kx sb n₀ X Y) ∨ (e = .returned (.bool false) ∧ Jx (pre ++ [x]) Y))
    (h0 : J [] W) :
    CallsIn Fence.wide n Try.prog 114 #[.func (.yield l) #[] #[], .pointer (some ⟨b5, 0, none⟩), .pointer (some ⟨b3, 0, none⟩), .pointer (some ⟨b4, 0, none⟩)] W fun e Y => (∃ v, e = .returned v) ∧
      ((∃ xs, xs = List.range T ∧ J xs Y) ∨ (∃ pre, pre <+: List.range T ∧ Jx pre Y)) := by
  have HY := Lib.hid hY
  have HJ := Lib.hid hJ
  have HM := Lib.hid hM
  have p64 : D.in64 p := by rcases hp with rfl | rfl | rfl <;> exact ⟨by omega, by omega⟩
  have HP := Lib.hid hp
  clear hY hJ hM hp
  refine callsIn_of_wp Try.func114 rfl trivial ?_ rfl
  simp only [Try.ntmps114, List.size_toArray, List.length_cons, List.length_nil, Nat.reduceAdd, Nat.reduceSub, Array.replicate_succ, Array.replicate_zero, List.push_toArray, List.append_toArray, List.nil_append, List.cons_append]
  gi_wp2
  gi_loopw [8] (fun t wr => ∃ k : Nat, k ≤ T ∧ t = .int .i64 k ∧ J (List.range k) wr ∧ mblk wr b5 = some (.cells #[.int .i64 T] 3 (0, 0)) ∧ mblk wr b3 = some (.cells #[.map (some m)] 86 (0, 0)) ∧ mblk wr b4 = some (.cells #[.int .i64 p] 87 (0, 0)) ∧ S.Own wr m nn M) (fun t _ => T - (intOf t).toNat)
  case atStart => exact ⟨0, Nat.zero_le _, rfl, h0, h5, h3, h4, ho⟩
  case round =>
    clear h5 h3 h4 ho h0
    obtain ⟨k, hk, rfl, hJs, k5, k3, k4, ko⟩ := hrel
    by_cases hlt : k < T
    · obtain ⟨q, hq⟩ : ∃ q, min (k + 1) (T - k) = q := ⟨_, rfl⟩
      have hMn : ∀ (ts : Array TypeId) (t' : TypeId) (w : World), (Builtin.min_ ts t' #[.int .i64 ((k : Int) + 1), .int .i64 ((T : Int) - k)]).run Try.prog w = .ok (.int .i64 (q : Int)) w := fun ts t' w => by
        have e : (if (T : Int) - k < (k : Int) + 1 then (T : Int) - k else (k : Int) + 1) = (q : Int) := by split <;> omega
        rw [run_min_int2, e]
      have hkey := keyOf_key (a := (q : Int)) (b := p) ⟨by omega, by omega⟩ p64
      have hv : Hid (M.atKey (S.key q p) (.lit (.int .i64 0)) = .lit (.int .i64 (S.add (S.part f s p) j T k))) := by
        have h1 := HM.out.2 q p ⟨by omega, by omega⟩ p64
        have h2 : S.knows f s j q p = S.add (S.part f s p) j T k := by
          unfold S.knows S.add
          rw [if_pos ⟨HP.out, by omega, by omega⟩, Int.toNat_natCast, hq]
        rw [h2] at h1
        exact h1
      have hYk := HY.out (List.range k) k wr hJs (by rw [List.length_range]; omega)
      obtain ⟨val, hval⟩ : ∃ val, S.add (S.part f s p) j T k = val := ⟨_, rfl⟩
      rw [hval] at hYk hv
      obtain ⟨fn, tmps, assign, body, hy, hR⟩ := hYk
      clear hq hval hJs
      gi_wp2_with (gi_at_lookup; refine wpListIn_lookup_own_int _ rfl _ _ 86 rfl 130 3 .i64 lawKey Try.underlying86 Try.underlying3 (zeroI _) m nn _ rfl ko _ _ rfl hkey ?_; intro c hat hwc; obtain rfl : c = val := S.lit_inj (hat.symm.trans hv.out))
      refine hR.mono ?_
      rintro e w3 (⟨rfl, hJ3, hk3⟩ | ⟨rfl, hJx3⟩)
      · have z5 := (hk3 b5 g5 hne.1).trans k5
        have z3 := (hk3 b3 g3 hne.2.1).trans k3
        have z4 := (hk3 b4 g4 hne.2.2.1).trans k4
        have zo := ko.below (hk3 m gm hne.2.2.2)
        clear hR hy k5 k3 k4 ko hk3
        gi_wp2
        go_roundw
        case rel => exact ⟨k + 1, by omega, by go_num, by rw [List.range_succ]; exact hJ3, z5, z3, z4, zo⟩
        case measure => simp [intOf]; omega
      · clear hR hy
        gi_wp2
        refine bodyPost_ret (results_none rfl _ _ _) rfl ?_
        exact ⟨⟨_, rfl⟩, .inr ⟨List.range k ++ [k], by rw [← List.range_succ]; exact range_prefix (by omega), hJx3⟩⟩
    · obtain rfl : k = T := by omega
      gi_wp2
      go_end0
      exact ⟨⟨_, rfl⟩, .inl ⟨_, rfl, hJs⟩⟩

/-- the iterator's contract -/
theorem adds_stops {f s j p : Int} (hp : p = 0 ∨ p = 1 ∨ p = 2) {T : Nat} (hT : T ≤ 200) (n : Nat) (hn : 1 ≤ n) (b5 b3 b4 m nn : Nat) (M : DataW Nat) (hM : S.MapIs M (S.knows f s j)) (w : World) (sb n₀ : Nat) (g0 : n₀ ≤ w.heap.size) (g5 : b5 < n₀) (g3 : b3 < n₀) (g4 : b4 < n₀) (gm : m < n₀) (hne : b5 ≠ sb ∧ b3 ≠ sb ∧ b4 ≠ sb ∧ m ≠ sb)
    (h5 : mblk w b5 = some (.cells #[.int .i64 T] 3 (0, 0))) (h3 : mblk w b3 = some (.cells #[.map (some m)] 86 (0, 0))) (h4 : mblk w b4 = some (.cells #[.int .i64 p] 87 (0, 0))) (ho : S.Own w m nn M) :
    SeqStopsK Fence.wide n Try.prog 114 #[.pointer (some ⟨b5, 0, none⟩), .pointer (some ⟨b3, 0, none⟩), .pointer (some ⟨b4, 0, none⟩)]
      (fun x : Nat => #[.int .i64 (S.add (S.part f s p) j T x)]) (S.Kx sb n₀) (fun xs => xs = List.range T) (fun pre => pre <+: List.range T) T w := by
  intro l J Jx W hW hJ _ hY h0
  have q5 := (Below.block hW b5 (by omega)).trans h5
  have q3 := (Below.block hW b3 (by omega)).trans h3
  have q4 := (Below.block hW b4 (by omega)).trans h4
  have qo := ho.below (Below.block hW m (by omega))
  exact adds1_in hp hT n hn l sb n₀ b5 b3 b4 m nn M hM J Jx W g5 g3 g4 gm hne q5 q3 q4 qo
    (fun s X Y hX hU => hJ s X Y none hX ⟨hU.os, hU.tape, hU.output, hU.size, fun j hj _ => Below.block hU j hj⟩ (by simp)) hY h0

end Go.Proofs.Ytckjggkikpgidaa
