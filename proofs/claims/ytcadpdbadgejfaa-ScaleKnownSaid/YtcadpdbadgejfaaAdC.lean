import Derived.Test.YtcadpdbadgejfaaKnB
import Derived.RangeFuncNested
import Derived.RangeFuncBound
import Derived.RangeFuncCalls
import Derived.RangeFuncLeaves
import Derived.Shelf.Abstract
import Derived.Shelf.RegionOpen
import Derived.OwnWalkIn
import Derived.TacticsInMore
import Derived.LoopNIn
import Derived.LoopIn
import Derived.RangeFuncBox
/- The contracts of scale's adds: the iterator over what ticks can add. -/
namespace Go.Proofs.Ytcadpdbadgejfaa
open Go.RowKit Go.Shelf
attribute [local go_sem] Oper.semAt_some

theorem range_prefix {a b : Nat} (h : a ≤ b) : List.range a <+: List.range b := by
  obtain ⟨c, rfl⟩ : ∃ c, b = a + c := ⟨b - a, by omega⟩
  rw [List.range_add]
  exact List.prefix_append _ _
/-- all blocks below a number are kept, but one -/
def S.Kx (sb n₀ : Nat) (A B : World) : Prop := ∀ b, b < n₀ → b ≠ sb → B.heap[b]? = A.heap[b]?
theorem S.kx_t {sb n₀ : Nat} {A B C : World} (h : S.Kx sb n₀ A B) (k : S.Kx sb n₀ B C) : S.Kx sb n₀ A C := fun b h1 h2 => (k b h1 h2).trans (h b h1 h2)
theorem S.kx_b {sb n₀ : Nat} {w : World} (hn : n₀ ≤ w.heap.size) (W : World) (l : Nat) (o o' : Obj) (hl : w.heap.size ≤ l) (_ : W.heap[l]? = some o) (_ : o.isCells = false) (_ : o.isWalk = false) : S.Kx sb n₀ W (W.putObj l o') :=
  fun b h1 _ => World.putObj_heap_other (by omega)
theorem S.kx_of {sb n₀ : Nat} {A B : World} (h : Below n₀ A B) : S.Kx sb n₀ A B := fun b hb _ => Below.block h b hb
/-- what is known stays so while its block is kept -/
theorem S.Own.below {w w' : World} {m n : Nat} {M : DataW Nat} (h : S.Own w m n M) (hb : w'.heap[m]? = w.heap[m]?) : S.Own w' m n M := by
  obtain ⟨es, clock, hh, F, hs, hD⟩ := h
  exact ⟨es, clock, hb.trans hh, F, hs, hD⟩
theorem S.lit_inj {a b : Int} (h : (DataW.lit (.int .i64 a) : DataW Nat) = .lit (.int .i64 b)) : a = b := by
  injection h with h
  injection h
theorem adds_any (m : Nat) (p : Int) (T : Int) (w : World) :
    Calls Try.prog 105 #[.map (some m), .int .i64 p, .int .i64 T] w fun e w' => e = .returned (.func (.func 114) #[] #[.pointer (some ⟨w.heap.size + 1 + 1, 0, none⟩), .pointer (some ⟨w.heap.size, 0, none⟩), .pointer (some ⟨w.heap.size + 1, 0, none⟩)]) ∧
      ((w.alloc (.cells #[.map (some m)] 86)).alloc (.cells #[.int .i64 p] 87)).alloc (.cells #[.int .i64 T] 3) = w' := by
  go_enter Try.func105, Try.ntmps105
  go_wp2
  go_ret
  exact ⟨rfl, rfl⟩

set_option maxRecDepth 100000 in
set_option maxHeartbeats 1000000 in
theorem adds1_in {f s j p : Int} (hp : p = 0 ∨ p = 1 ∨ p = 2) {T : Nat} (hT : T ≤ 200) (n : Nat) (hn : 1 ≤ n) (l sb n₀ b5 b3 b4 m nn : Nat) (M : DataW Nat) (hM : S.MapIs M (S.knows f s j)) (J Jx : List Nat → World → Prop) (W : World) (g5 : b5 < n₀) (g3 : b3 < n₀) (g4 : b4 < n₀) (gm : m < n₀) (hne : b5 ≠ sb ∧ b3 ≠ sb ∧ b4 ≠ sb ∧ m ≠ sb)
    (h5 : mblk W b5 = some (.cells #[.int .i64 T] 3 (0, 0))) (h3 : mblk W b3 = some (.cells #[.map (some m)] 86 (0, 0))) (h4 : mblk W b4 = some (.cells #[.int .i64 p] 87 (0, 0))) (ho : S.Own W m nn M)
    (hJ : ∀ s X Y, J s X → Up X Y → J s Y)
    (hY : ∀ pre x X, J pre X → pre.length < T → YieldAt Fence.wide (n - 1) Try.prog l #[.int .i64 (S.add (S.part f s p) j T x)] X fun e Y =>
      (e = .returned (.bool true) ∧ J (pre ++ [x]) Y ∧ S.Kx sb n₀ X Y) ∨ (e = .returned (.bool false) ∧ Jx (pre ++ [x]) Y))
    (h0 : J [] W) :
    CallsIn Fence.wide n Try.prog 114 #[.func (.yield l) #[] #[], .pointer (some ⟨b5, 0, none⟩), .pointer (some ⟨b3, 0, none⟩), .pointer (some ⟨b4, 0, none⟩)] W fun e Y => (∃ v, e = .returned v) ∧
      ((∃ xs, xs = List.range T ∧ J xs Y) ∨ (∃ pre, pre <+: List.range T ∧ Jx pre Y)) := by
  have HY := Lib.hid hY
  have HJ := Lib.hid hJ
  have HM := Lib.hid hM
  have p64 : D.in64 p := by rcases hp with rfl | rfl | rfl <;> exact ⟨by omega, by omega⟩
  have HP := Lib.hid hp
  clear hY hJ hM hp
  refine callsIn_of_wp Try.func114 rfl trivial ?_ rfl
  simp only [Try.ntmps114, List.size_toArray, List.length_cons, List.length_nil, Nat.reduceAdd, Nat.reduceSub, Array.replicate_succ, Array.replicate_zero, List.push_toArray, List.append_toArray, List.nil_append, List.cons_append]
  gi_wp2
  gi_loopw [8] (fun t wr => ∃ k : Nat, k ≤ T ∧ t = .int .i64 k ∧ J (List.range k) wr ∧ mblk wr b5 = some (.cells #[.int .i64 T] 3 (0, 0)) ∧ mblk wr b3 = some (.cells #[.map (some m)] 86 (0, 0)) ∧ mblk wr b4 = some (.cells #[.int .i64 p] 87 (0, 0)) ∧ S.Own wr m nn M) (fun t _ => T - (intOf t).toNat)
  case atStart => exact ⟨0, Nat.zero_le _, rfl, h0, h5, h3, h4, ho⟩
  case round =>
    clear h5 h3 h4 ho h0
    obtain ⟨k, hk, rfl, hJs, k5, k3, k4, ko⟩ := hrel
    by_cases hlt : k < T
    · obtain ⟨q, hq⟩ : ∃ q, min (k + 1) (T - k) = q := ⟨_, rfl⟩
      have hMn : ∀ (ts : Array TypeId) (t' : TypeId) (w : World), (Builtin.min_ ts t' #[.int .i64 ((k : Int) + 1), .int .i64 ((T : Int) - k)]).run Try.prog w = .ok (.int .i64 (q : Int)) w := fun ts t' w => by
        have e : (if (T : Int) - k < (k : Int) + 1 then (T : Int) - k else (k : Int) + 1) = (q : Int) := by split <;> omega
        rw [run_min_int2, e]
      have hkey := keyOf_key (a := (q : Int)) (b := p) ⟨by omega, by omega⟩ p64
      have hv : Hid (M.atKey (S.key q p) (.lit (.int .i64 0)) = .lit (.int .i64 (S.add (S.part f s p) j T k))) := by
        have h1 := HM.out.2 q p ⟨by omega, by omega⟩ p64
        have h2 : S.knows f s j q p = S.add (S.part f s p) j T k := by
          unfold S.knows S.add
          rw [if_pos ⟨HP.out, by omega, by omega⟩, Int.toNat_natCast, hq]
        rw [h2] at h1
        exact h1
      have hYk := HY.out (List.range k) k wr hJs (by rw [List.length_range]; omega)
      obtain ⟨val, hval⟩ : ∃ val, S.add (S.part f s p) j T k = val := ⟨_, rfl⟩
      rw [hval] at hYk hv
      obtain ⟨fn, tmps, assign, body, hy, hR⟩ := hYk
      clear hq hval hJs
      gi_wp2_with (gi_at_lookup; refine wpListIn_lookup_own_int _ rfl _ _ 86 rfl 130 3 .i64 lawKey Try.underlying86 Try.underlying3 (zeroI _) m nn _ rfl ko _ _ rfl hkey ?_; intro c hat hwc; obtain rfl : c = val := S.lit_inj (hat.symm.trans hv.out))
      refine hR.mono ?_
      rintro e w3 (⟨rfl, hJ3, hk3⟩ | ⟨rfl, hJx3⟩)
      · have z5 := (hk3 b5 g5 hne.1).trans k5
        have z3 := (hk3 b3 g3 hne.2.1).trans k3
        have z4 := (hk3 b4 g4 hne.2.2.1).trans k4
        have zo := ko.below (hk3 m gm hne.2.2.2)
        clear hR hy k5 k3 k4 ko hk3
        gi_wp2
        go_roundw
        case rel => exact ⟨k + 1, by omega, by go_num, by rw [List.range_succ]; exact hJ3, z5, z3, z4, zo⟩
        case measure => simp [intOf]; omega
      · clear hR hy
        gi_wp2
        refine bodyPost_ret (results_none rfl _ _ _) rfl ?_
        exact ⟨⟨_, rfl⟩, .inr ⟨List.range k ++ [k], by rw [← List.range_succ]; exact range_prefix (by omega), hJx3⟩⟩
    · obtain rfl : k = T := by omega
      gi_wp2
      go_end0
      exact ⟨⟨_, rfl⟩, .inl ⟨_, rfl, hJs⟩⟩

/-- the iterator's contract -/
theorem adds_stops {f s j p : Int} (hp : p = 0 ∨ p = 1 ∨ p = 2) {T : Nat} (hT : T ≤ 200) (n : Nat) (hn : 1 ≤ n) (b5 b3 b4 m nn : Nat) (M : DataW Nat) (hM : S.MapIs M (S.knows f s j)) (w : World) (sb n₀ : Nat) (g0 : n₀ ≤ w.heap.size) (g5 : b5 < n₀) (g3 : b3 < n₀) (g4 : b4 < n₀) (gm : m < n₀) (hne : b5 ≠ sb ∧ b3 ≠ sb ∧ b4 ≠ sb ∧ m ≠ sb)
    (h5 : mblk w b5 = some (.cells #[.int .i64 T] 3 (0, 0))) (h3 : mblk w b3 = some (.cells #[.map (some m)] 86 (0, 0))) (h4 : mblk w b4 = some (.cells #[.int .i64 p] 87 (0, 0))) (ho : S.Own w m nn M) :
    SeqStopsK Fence.wide n Try.prog 114 #[.pointer (some ⟨b5, 0, none⟩), .pointer (some ⟨b3, 0, none⟩), .pointer (some ⟨b4, 0, none⟩)]
      (fun x : Nat => #[.int .i64 (S.add (S.part f s p) j T x)]) (S.Kx sb n₀) (fun xs => xs = List.range T) (fun pre => pre <+: List.range T) T w := by
  intro l J Jx W hW hJ _ hY h0
  have q5 := (Below.block hW b5 (by omega)).trans h5
  have q3 := (Below.block hW b3 (by omega)).trans h3
  have q4 := (Below.block hW b4 (by omega)).trans h4
  have qo := ho.below (Below.block hW m (by omega))
  exact adds1_in hp hT n hn l sb n₀ b5 b3 b4 m nn M hM J Jx W g5 g3 g4 gm hne q5 q3 q4 qo
    (fun s X Y hX hU => hJ s X Y none hX ⟨hU.os, hU.tape, hU.output, hU.size, fun j hj _ => Below.block hU j hj⟩ (by simp)) hY h0

end Go.Proofs.Ytcadpdbadgejfaa

/- The contracts of Collect, of what all ticks can add, and of reach. -/
namespace Go.Proofs.Ytcadpdbadgejfaa
open Go.RowKit Go.Shelf
attribute [local go_sem] Oper.semAt_some

theorem cell_ints {w : World} {b : Nat} {cs : Array Value} (h : mblk w b = some (.cells cs 26 (0, 0))) (j : Nat) : w.cell? ⟨b, j, none⟩ = cs[j]? := cellB h j
attribute [go_sem] cell_ints
theorem keeps_grown {base size n : Nat} {e : TypeId} {W W' : World} {v : Value} {xs : List Value} (ho : W.ownsRow base e size v n xs) (hg : W.grownBy W' v.ownBlock) : KeepsOthers W W' where
  size := hg.size
  same := fun k o hk hc => by
    refine (hg.block k (Array.getElem?_eq_some_iff.1 hk).1 (fun e' => ?_)).trans hk
    obtain ⟨_, ⟨rfl, _⟩ | ⟨g, cap, cur, rfl, _, hb, _⟩⟩ := ho
    · cases e'
    · injection e' with e'
      subst e'
      rw [hb] at hk
      cases hk
      simp [Obj.isCells] at hc
theorem ints_of_row {W : World} {base n : Nat} {v : Value} {xs : List Int} (ho : W.ownsRow base 3 1 v n (xs.map (Value.int .i64))) (hn : n ≤ 1000000) : Ints W v xs := by
  obtain ⟨hl, ⟨rfl, rfl⟩ | ⟨g, cap, cur, rfl, _, hb, h1, h2, h3, h4⟩⟩ := ho
  · rw [List.length_map] at hl
    rw [List.length_eq_zero_iff.1 (show xs.length = 0 by omega)]
    exact Ints.nil _
  · rw [List.length_map] at hl
    obtain rfl : n = xs.length := by omega
    refine Ints.new (show mblk W g = _ from hb) h1 (by omega) fun j hj => ?_
    have q : (cur.toList.take (xs.length * 1))[j]? = (xs.map (Value.int .i64))[j]? := by rw [h4]
    rw [List.getElem?_take_of_lt (by omega), Array.getElem?_toList, List.getElem?_map, List.getElem?_eq_getElem hj] at q
    rw [q, List.getD_eq_getElem?_getD, List.getElem?_eq_getElem hj]
    rfl
theorem row_block {W : World} {base size n : Nat} {e : TypeId} {v : Value} {xs : List Value} (ho : W.ownsRow base e size v n xs) {b : Nat} (hb : b < base) : some b ≠ v.ownBlock := by
  obtain ⟨_, ⟨rfl, _⟩ | ⟨g, cap, cur, rfl, hg, _⟩⟩ := ho
  · simp [Value.ownBlock]
  · simp [Value.ownBlock]; omega
theorem row_base {W : World} {base size n : Nat} {e : TypeId} {v : Value} {xs : List Value} (ho : W.ownsRow base e size v n xs) (k : Nat) (hk : v.ownBlock = some k) : base ≤ k := by
  obtain ⟨_, ⟨rfl, _⟩ | ⟨g, cap, cur, rfl, hg, _⟩⟩ := ho
  · simp [Value.ownBlock] at hk
  · simp [Value.ownBlock] at hk; omega

theorem cell_of_mark {W : World} {D : Nat} (hK : W.heap[D]? = some (.deferred (some []))) (j : Nat) : W.cell? ⟨D, j, none⟩ = none := by simp [World.cell?, hK]
theorem cell_blk {X Y : World} {b : Nat} (h : Y.heap[b]? = X.heap[b]?) (j : Nat) : Y.cell? ⟨b, j, none⟩ = X.cell? ⟨b, j, none⟩ := by simp only [World.cell?, h]
theorem Ints.mark {W : World} {v : Value} {xs : List Int} (h : Ints W v xs) {D : Nat} (hK : W.heap[D]? = some (.deferred (some []))) (o : Obj) : Ints (W.putObj D o) v xs := by
  obtain ⟨a, c, rfl, hc, hl, hm⟩ := h.is
  refine ⟨a, c, rfl, hc, hl, fun h0 => ?_⟩
  obtain ⟨g, off, rfl, gl, hx⟩ := hm h0
  have hne : g ≠ D := fun e => by
    have := hx 0 h0
    rw [e, cell_of_mark hK] at this
    cases this
  exact ⟨g, off, rfl, by simpa using gl, fun j hj => (cell_blk (World.putObj_heap_other hne) _).trans (hx j hj)⟩
theorem row_slice {W : World} {base size n : Nat} {e : TypeId} {v : Value} {xs : List Value} (ho : W.ownsRow base e size v (n + 1) xs) : ∃ g cap, v = .slice (some ⟨g, 0, none⟩) (n + 1) cap ∧ base ≤ g := by
  obtain ⟨_, ⟨_, h⟩ | ⟨g, cap, cur, rfl, hg, _⟩⟩ := ho
  · omega
  · exact ⟨g, cap, rfl, hg⟩
theorem row_val {W : World} {base size n : Nat} {e : TypeId} {v : Value} {xs : List Value} (ho : W.ownsRow base e size v n xs) : ∃ a cap, v = .slice a n cap ∧ n ≤ cap ∧ cap ≤ maxLen := by
  obtain ⟨_, ⟨rfl, rfl⟩ | ⟨g, cap, cur, rfl, hg, _, h1, h2, _⟩⟩ := ho
  · exact ⟨none, 0, rfl, Nat.le_refl _, Nat.zero_le _⟩
  · exact ⟨_, cap, rfl, h1, h2⟩
theorem row_cells {W : World} {base size n : Nat} {e : TypeId} {v : Value} {xs : List Value} (ho : W.ownsRow base e size v n xs) {row : Option Nat} (hr : ∀ r, row = some r → ∃ o : Obj, W.heap[r]? = some o ∧ o.isCells = false) : v.ownBlock = none ∨ v.ownBlock ≠ row := by
  obtain ⟨_, ⟨rfl, _⟩ | ⟨g, cap, cur, rfl, hg, hb, _⟩⟩ := ho
  · exact .inl rfl
  · refine .inr fun e => ?_
    obtain ⟨o, h1, h2⟩ := hr g e.symm
    rw [hb] at h1
    cases h1
    simp [Obj.isCells] at h2

set_option maxRecDepth 100000 in
set_option maxHeartbeats 1000000 in
theorem appendSeq_adds {f s j p : Int} (hp : p = 0 ∨ p = 1 ∨ p = 2) {T : Nat} (hT : T ≤ 200) (b5 b3 b4 m nn : Nat) (M : DataW Nat) (hM : S.MapIs M (S.knows f s j)) (w : World) (gm : m < w.heap.size)
    (h5 : mblk w b5 = some (.cells #[.int .i64 T] 3 (0, 0))) (h3 : mblk w b3 = some (.cells #[.map (some m)] 86 (0, 0))) (h4 : mblk w b4 = some (.cells #[.int .i64 p] 87 (0, 0))) (ho : S.Own w m nn M) :
    Calls Try.prog 113 #[.slice none 0 0, .func (.func 114) #[] #[.pointer (some ⟨b5, 0, none⟩), .pointer (some ⟨b3, 0, none⟩), .pointer (some ⟨b4, 0, none⟩)]] w fun e w' => ∃ v, e = .returned v ∧ Up w w' ∧ Ints w' v (S.list (S.add (S.part f s p) j T) T 0) := by
  have hst := adds_stops (f := f) (s := s) hp hT (5 - 1) (by omega) b5 b3 b4 m nn M hM w w.heap.size w.heap.size (Nat.le_refl _) (blk_lt h5) (blk_lt h3) (blk_lt h4) gm ⟨by have := blk_lt h5; omega, by have := blk_lt h3; omega, by have := blk_lt h4; omega, by omega⟩ h5 h3 h4 ho
  obtain ⟨val, hval⟩ : ∃ val, S.add (S.part f s p) j T = val := ⟨_, rfl⟩
  rw [hval] at hst ⊢
  obtain ⟨i0, hi, hz0, hz1, hz2⟩ := info_parts Try.infoInt
  have hU := Try.underlying26
  clear hM h5 h3 h4 ho hval hp
  refine (callsIn_wide (n := 5)).1 ?_
  refine callsIn_of_wp_marks Try.func113 rfl trivial ?_ rfl
  simp only [Try.ntmps113, List.size_toArray, List.length_cons, List.length_nil, Nat.reduceAdd, Nat.reduceSub, Array.replicate_succ, Array.replicate_zero, List.push_toArray, List.append_toArray, List.nil_append, List.cons_append]
  gi_wp2_with fail
  obtain ⟨W0, hW0⟩ : ∃ W0, w.alloc (.cells #[.slice none 0 0] 26) = W0 := ⟨_, rfl⟩
  have U0 : Up w W0 := by rw [← hW0]; exact (Up.refl w).alloc _
  have k0 : mblk W0 w.heap.size = some (.cells #[.slice none 0 0] 26 (0, 0)) := by rw [← hW0]; exact blk_new _ _ _ rfl
  have zs : W0.heap.size = w.heap.size + 1 := by rw [← hW0]; simp
  rw [hW0]
  clear hW0
  refine wpIn_rangeFunc_ownH (F := Fence.wide) (n := 5) rfl (by omega) (gf := 114) (lb := #[.pointer (some ⟨b5, 0, none⟩), .pointer (some ⟨b3, 0, none⟩), .pointer (some ⟨b4, 0, none⟩)]) rfl trivial (enters_of Try.func114 (by kernel_rfl) rfl)
    hst S.kx_t (S.kx_b (by omega)) U0 (fun _ => rfl)
    (fun pre W => (∃ v, mblk W w.heap.size = some (.cells #[v] 26 (0, 0)) ∧ W.ownsRow (w.heap.size + 1) 3 1 v pre.length ((pre.map val).map (Value.int .i64))) ∧ Up w W)
    (fun _ _ _ => False)
    (fun pre X Y row hs hg hr => by
      obtain ⟨⟨v, h1, h2⟩, h3⟩ := hs
      have hX := h3.size
      refine ⟨⟨v, (hg.block _ (blk_lt h1) (fun e => ?_)).trans h1, h2.kept hg (row_cells h2 (fun r e => (hr r e).2))⟩, h3.grown hg (fun k e => by have := (hr k e).1; omega)⟩
      have := (hr _ e.symm).1; omega)
    (fun _ _ _ _ _ hs _ _ => hs)
    ⟨⟨_, k0, rfl, .inl ⟨rfl, rfl⟩⟩, U0⟩
    (fun x a' W => a' = { tmps := #[.slice none 0 0, .func (.func 114) #[] #[.pointer (some ⟨b5, 0, none⟩), .pointer (some ⟨b3, 0, none⟩), .pointer (some ⟨b4, 0, none⟩)], .pointer (some ⟨w.heap.size, 0, none⟩), undef, .slice none 0 0, .int .i64 (val x), .func (.func 114) #[] #[.pointer (some ⟨b5, 0, none⟩), .pointer (some ⟨b3, 0, none⟩), .pointer (some ⟨b4, 0, none⟩)], .int .i64 (val x), undef, undef, undef, undef, undef], defers := [] })
    (fun x a' _ X Y row hs hg hr => hs)
    ?assign ?body ?done ?stop
  case assign =>
    rintro l pre x W K hI hK
    gi_wp2
    exact hK _ _ (KeepsFrom.refl _ _) (S.kx_of (Below.refl _ _)) hI rfl
  case body =>
    rintro l pre x a' W hl ⟨r, hr⟩ ⟨⟨v, h1, h2⟩, h3⟩ rfl hlt
    have hsz := h3.size
    have lt1 := blk_lt h1
    have c1 := cellB h1
    have z1 := frozB h1
    have bnd : pre.length ≤ 200 := by omega
    have HE := Lib.hid (show ((pre ++ [x]).map val).map (Value.int .i64) = (pre.map val).map (Value.int .i64) ++ [.int .i64 (val x)] by simp)
    have HL := Lib.hid (show (pre ++ [x]).length = pre.length + 1 by simp)
    generalize val x = vx at *
    gi_wp2_with (gi_at_builtin; refine wpListIn_append_own _ rfl (.tmp 8) (.tmp 10) 26 rfl (w.heap.size + 1) 3 i0 (.int .i64 0) 1 8 hU hi hz0 hz1 hz2 rfl (by decide) _ pre.length _ rfl (h2.alloc _) ⟨W.heap.size, 0, none⟩ 1 1 [.int .i64 vx] rfl rfl (cell_one_new _ _ _) (by simp [Value.oneCell']) (by unfold maxLen; omega) (by omega) (by simp; omega) ?_; intro v' w3 hown3 hgrow3 hv3; obtain ⟨g, cap, rfl, hg⟩ := row_slice hown3; have x3 := grown_blk hgrow3 (blk_keep _ h1) (row_block h2 (by omega)); have z3 := frozB x3)
    have K1 : KeepsOthers W w3 := (KeepsOthers.alloc W _).trans (keeps_grown (h2.alloc _) hgrow3)
    have B1 : Below w.heap.size W w3 := ((Below.refl w.heap.size W).alloc hsz _).grown hgrow3 (by simp; omega) (fun k e => by have := row_base h2 k e; omega)
    have G3 := grownBy_setCell' w3 w.heap.size (.slice (some ⟨g, 0, none⟩) (pre.length + 1) cap)
    have H3 := hown3.kept G3 (.inr (by simp [Value.ownBlock]; omega))
    exact ⟨(K1.trans (KeepsOthers.setCell _ _ _)).from _, S.kx_of (B1.setCell (p := ⟨w.heap.size, 0, none⟩) (Nat.le_refl _) _), ⟨_, blk_put x3 0 _, by rw [HL.out, HE.out]; exact H3⟩, (Below.trans h3 B1).setCell (p := ⟨w.heap.size, 0, none⟩) (Nat.le_refl _) _⟩
  case done =>
    rintro D ys W hD rfl ⟨⟨v, h1, h2⟩, h3⟩ hK
    have c1 := cellB h1
    rw [List.length_range] at h2
    have hI := Lib.hid (ints_of_row h2 (by omega))
    have e1 : (List.range T).map val = S.list val T 0 := by rw [S.list_is]; simp
    rw [e1] at hI
    clear h2 e1
    gi_wp2
    refine ⟨by simp, .inl ⟨_, _, rfl, run_takeDeferred hK, ?_⟩⟩
    exact ⟨_, results_tmp rfl _ _ _, _, rfl, Below.trans h3 (belowK_b (w := w) (Nat.le_refl _) _ D _ _ (by omega) hK rfl rfl), hI.out.mark hK _⟩
  case stop =>
    rintro D c pre W hD hp hF hK
    exact hF.elim

end Go.Proofs.Ytcadpdbadgejfaa

/- The contracts of Collect, most, reach, course and areEnough. -/
namespace Go.Proofs.Ytcadpdbadgejfaa
open Go.RowKit

theorem cell_course {w : World} {b : Nat} {cs : Array Value} (h : mblk w b = some (.cells cs 89 (0, 0))) (j : Nat) : w.cell? ⟨b, j, none⟩ = cs[j]? := cellB h j
attribute [go_sem] cell_course

theorem S.sum_add {e j : Int} (he : 0 ≤ e) (he2 : e ≤ 500) (hj : 0 ≤ j) {T : Nat} (hT : T ≤ 200) : wrap64 (S.list (S.add e j T) T 0).sum = S.most e j T ∧ 0 ≤ S.most e j T ∧ S.most e j T ≤ 100000 := by
  have b := S.most_bd he hj T
  have c : (T : Int) * e ≤ 200 * 500 := Int.mul_le_mul (by omega) he2 he (by omega)
  rw [S.sum_list]
  show wrap64 (S.most e j T) = _ ∧ _
  exact ⟨wrap_in ⟨by omega, by omega⟩, by omega, by omega⟩

set_option maxRecDepth 100000 in
theorem collect_adds {f s j p : Int} (hp : p = 0 ∨ p = 1 ∨ p = 2) {T : Nat} (hT : T ≤ 200) (b5 b3 b4 m nn : Nat) (M : DataW Nat) (hM : S.MapIs M (S.knows f s j)) (w : World) (gm : m < w.heap.size)
    (h5 : mblk w b5 = some (.cells #[.int .i64 T] 3 (0, 0))) (h3 : mblk w b3 = some (.cells #[.map (some m)] 86 (0, 0))) (h4 : mblk w b4 = some (.cells #[.int .i64 p] 87 (0, 0))) (ho : S.Own w m nn M) :
    Calls Try.prog 104 #[.func (.func 114) #[] #[.pointer (some ⟨b5, 0, none⟩), .pointer (some ⟨b3, 0, none⟩), .pointer (some ⟨b4, 0, none⟩)]] w fun e w' => ∃ v, e = .returned v ∧ Up w w' ∧ Ints w' v (S.list (S.add (S.part f s p) j T) T 0) := by
  have K := Lib.hid (appendSeq_adds (f := f) (s := s) hp hT b5 b3 b4 m nn M hM w gm h5 h3 h4 ho)
  clear hM h5 h3 h4 ho hp
  go_enter Try.func104, Try.ntmps104
  go_wp2_with fail
  refine K.out.mono ?_
  rintro e w1 ⟨v, rfl, u1, i1⟩
  have I1 := Lib.hid i1
  clear i1
  go_wp2
  go_ret
  exact ⟨_, rfl, u1, I1.out⟩

theorem S.part_bd {f s j dl dh : Int} (hr : S.ok f s j dl dh = true) (p : Int) : 0 ≤ S.part f s p ∧ S.part f s p ≤ 500 := by
  obtain ⟨h1, h2, h3, h4⟩ := S.ok_iff.1 hr
  unfold S.part; split
  · omega
  · split <;> omega

set_option maxRecDepth 100000 in
theorem most_any {f s j dl dh p : Int} (hr : S.ok f s j dl dh = true) (hp : p = 0 ∨ p = 1 ∨ p = 2) {T : Nat} (hT : T ≤ 200) {v : Value} {w : World} (K : S.Know w v f s j) :
    Calls Try.prog 89 #[v, .int .i64 p, .int .i64 T] w fun e w' => e = .returned (.int .i64 (S.most (S.part f s p) j T)) ∧ Up w w' := by
  obtain ⟨m, n, M, rfl, ho, hM⟩ := K.is
  obtain ⟨p1, p2⟩ := S.part_bd hr p
  obtain ⟨h1, h2, h3, h4⟩ := S.ok_iff.1 hr
  obtain ⟨e1, e2, e3⟩ := S.sum_add (j := j) p1 p2 (by omega) hT
  have HC := Lib.hid (fun w' (u : Up w w') b5 b3 b4 q5 q3 q4 => collect_adds (f := f) (s := s) (j := j) hp hT b5 b3 b4 m n M hM w' (by have := ho.lt; have := u.size; omega) q5 q3 q4 (ho.kept (up_grown u none) (by simp)))
  have HE := Lib.hid e1
  have U := ((Up.refl w).alloc (.cells #[.map (some m)] 86)).alloc (.cells #[.int .i64 p] 87) |>.alloc (.cells #[.int .i64 T] 3)
  clear ho hM K hr e1 hp
  go_enter Try.func89, Try.ntmps89
  go_wp2_with fail
  refine (adds_any _ _ _ _).mono ?_
  rintro e w1 ⟨rfl, hw1⟩
  have q3 : mblk w1 w.heap.size = some (.cells #[.map (some m)] 86 (0, 0)) := by rw [← hw1]; exact blk_keep _ (blk_keep _ (blk_new _ _ _ rfl))
  have q4 : mblk w1 (w.heap.size + 1) = some (.cells #[.int .i64 p] 87 (0, 0)) := by rw [← hw1]; exact blk_keep _ (blk_new _ _ _ (by simp))
  have q5 : mblk w1 (w.heap.size + 1 + 1) = some (.cells #[.int .i64 T] 3 (0, 0)) := by rw [← hw1]; exact blk_new _ _ _ (by simp)
  rw [hw1] at U
  clear hw1
  go_wp2_with fail
  refine (HC.out _ U _ _ _ q5 q3 q4).mono ?_
  rintro e w2 ⟨v, rfl, u2, I2⟩
  have KS := Lib.hid (sum_any I2)
  rw [HE.out] at KS
  clear I2 HC q3 q4 q5
  go_wp2_with fail
  refine KS.out.mono ?_
  rintro e w3 ⟨rfl, rfl⟩
  go_wp2
  go_ret
  exact ⟨rfl, U.trans u2⟩

abbrev SpV (a b : Int) : Value := .agg #[.int .i64 a, .int .i64 b]
set_option maxRecDepth 100000 in
theorem reach_any {f s j dl dh : Int} (hr : S.ok f s j dl dh = true) {T : Nat} (hT : T ≤ 200) {v : Value} {w : World} (K : S.Know w v f s j) :
    Calls Try.prog 67 #[v, .int .i64 T] w fun e w' => e = .returned (SpV (-(S.most s j T)) (S.most f j T)) ∧ Up w w' := by
  obtain ⟨h1, h2, h3, h4⟩ := S.ok_iff.1 hr
  obtain ⟨_, a2, a3⟩ := S.sum_add (e := s) (j := j) h2.1 h2.2 (by omega) hT
  obtain ⟨_, b2, b3⟩ := S.sum_add (e := f) (j := j) h1.1 h1.2 (by omega) hT
  have U := (Up.refl w).alloc (.cells #[.int .i64 0, .int .i64 0] 23)
  have K0 := Lib.hid (fun w' (u : Up w w') => most_any hr (p := 0) (by simp) hT (K.up u))
  have K2 := Lib.hid (fun w' (u : Up w w') => most_any hr (p := 2) (by simp) hT (K.up u))
  have e0 : S.part f s 0 = s := by simp [S.part]
  have e2 : S.part f s 2 = f := by simp [S.part]
  rw [e0] at K0
  rw [e2] at K2
  obtain ⟨m, n, M, rfl, _, _⟩ := K.is
  generalize S.most s j T = a at *
  generalize S.most f j T = b at *
  have k0 := blk_new w (.cells #[.int .i64 0, .int .i64 0] 23) _ rfl
  clear hr K e0 e2
  go_enter Try.func67, Try.ntmps67
  go_wp2_with fail
  refine (K0.out _ U).mono ?_
  rintro e w1 ⟨rfl, u1⟩
  have U1 := U.trans u1
  have k1 := u1.blk k0
  clear u1 k0 U K0
  go_wp2_with fail
  refine (K2.out _ U1).mono ?_
  rintro e w2 ⟨rfl, u2⟩
  have U2 := U1.trans u2
  have k2 := u2.blk k1
  have z2 := frozB k2
  clear u2 k1 U1 K2
  have c := cellB (blk_put (blk_put k2 0 (.int .i64 (-a))) 1 (.int .i64 b))
  have n0 : w.heap.size ≤ w.heap.size := Nat.le_refl _
  have UE := (U2.set (p := ⟨w.heap.size, 0, none⟩) n0 (.int .i64 (-a))).set (p := ⟨w.heap.size, 1, none⟩) n0 (.int .i64 b)
  clear n0
  have C := Lib.hid c
  clear c
  go_wp2_with fail
  have c := C.out
  exact bodyPost_ret (v := SpV (-a) b) (by simp [results, Try.results67, go_sem, c]) rfl ⟨rfl, UE⟩

/-- the direction against an offset -/
def S.against (off : Int) : Int := if 0 < off then 0 else if off < 0 then 2 else 1
theorem S.against_is (off : Int) : S.against off = 0 ∨ S.against off = 1 ∨ S.against off = 2 := by
  unfold S.against
  split
  · exact .inl rfl
  · split
    · exact .inr (.inr rfl)
    · exact .inr (.inl rfl)
set_option maxRecDepth 100000 in
theorem course_any {m : Nat} (off : Int) (o1 : -20000 ≤ off) (o2 : off ≤ 20000) (w : World) :
    Calls Try.prog 83 #[.map (some m), .int .i64 off] w fun e w' => e = .returned (.agg #[.map (some m), .int .i64 (S.against off), .int .i64 (max off (-off))]) ∧ Up w w' := by
  have hMx : ∀ (ts : Array TypeId) (t' : TypeId) (w : World), (Builtin.max_ ts t' #[.int .i64 off, .int .i64 (-off)]).run Try.prog w = .ok (.int .i64 (max off (-off))) w := fun ts t' w => by
    have e : (if -off > off then -off else off) = max off (-off) := by split <;> omega
    rw [run_max_int2, e]
  have KA : ∀ w, Calls Try.prog 97 #[.int .i64 off] w fun e w' => e = .returned (.int .i64 (S.against off)) ∧ w = w' := fun w => against_any off w
  have HA := Lib.hid KA
  generalize S.against off = p at *
  generalize max off (-off) = far at *
  clear KA
  go_enter Try.func83, Try.ntmps83
  go_wp2_with fail
  refine (HA.out _).mono ?_
  rintro e w1 ⟨rfl, rfl⟩
  go_wp2_with fail
  exact bodyPost_ret (v := .agg #[.map (some m), .int .i64 p, .int .i64 far]) (by simp [results, Try.results83, go_sem]) rfl ⟨rfl, (Up.refl w).alloc _⟩

end Go.Proofs.Ytcadpdbadgejfaa
