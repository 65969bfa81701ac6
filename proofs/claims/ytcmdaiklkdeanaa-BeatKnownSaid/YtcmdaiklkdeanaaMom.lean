import Derived.Test.YtcmdaiklkdeanaaNew
import Derived.Test.YtcmdaiklkdeanaaHeQ
/- The contract of moments, and what its iterators keep. -/
namespace Go.Proofs.Ytcmdaiklkdeanaa
open Go.RowKit Go.Shelf
attribute [local go_sem] Oper.semAt_some

theorem range_prefix {a b : Nat} (h : a ≤ b) : List.range a <+: List.range b := by
  obtain ⟨c, rfl⟩ : ∃ c, b = a + c := ⟨b - a, by omega⟩
  rw [List.range_add]
  exact List.prefix_append _ _
/-- all rows of cells are kept, but some -/
def T.Kc (p : Nat → Prop) (A B : World) : Prop := (∀ (b : Nat) (o : Obj), A.heap[b]? = some o → o.isCells = true → ¬ p b → B.heap[b]? = some o) ∧ A.heap.size ≤ B.heap.size
section
variable {p : Nat → Prop} {A B C : World}
theorem T.kc_t (h : T.Kc p A B) (k : T.Kc p B C) : T.Kc p A C := ⟨fun b o h1 h2 h3 => k.1 b o (h.1 b o h1 h2 h3) h2 h3, Nat.le_trans h.2 k.2⟩
theorem T.kc_b (W : World) (l : Nat) (o o' : Obj) (h : W.heap[l]? = some o) (hc : o.isCells = false) : T.Kc p W (W.putObj l o') := by
  refine ⟨fun b x h1 h2 _ => ?_, by simp [World.putObj]⟩
  by_cases e : b = l
  · subst e
    rw [h] at h1
    rw [← Option.some.inj h1, hc] at h2
    cases h2
  · rw [World.putObj_heap_other e]; exact h1
theorem T.kc_up (h : Up A B) : T.Kc p A B := ⟨fun b _ h1 _ _ => (Below.block h b (Array.getElem?_eq_some_iff.1 h1).1).trans h1, h.size⟩
theorem T.kc_refl (A : World) : T.Kc p A A := ⟨fun _ _ h _ _ => h, Nat.le_refl _⟩
theorem T.kc_mono {q : Nat → Prop} (h : T.Kc p A B) (hq : ∀ b, p b → q b) : T.Kc q A B := ⟨fun b o h1 h2 h3 => h.1 b o h1 h2 fun e => h3 (hq b e), h.2⟩
theorem T.kc_set (a : Addr) (v : Value) (ha : p a.block) : T.Kc p A (A.setCell a v) :=
  ⟨fun b o h1 _ h3 => (blk_set A a v b (fun e => h3 (e ▸ ha))).trans h1, by simp [World.setCell]⟩
theorem T.Kc.blk (h : T.Kc p A B) {b : Nat} {cs : Array Value} {t : TypeId} {fr : Nat × Nat} (hb : mblk A b = some (.cells cs t fr)) (hp : ¬ p b) : mblk B b = some (.cells cs t fr) := h.1 b _ hb rfl hp
end
/-- the rows of cells of one world are those of another one, as far as it goes -/
def T.Sm (w w' : World) : Prop := (∀ (b : Nat) (o : Obj), w.heap[b]? = some o → o.isCells = true → w'.heap[b]? = some o) ∧ w.heap.size ≤ w'.heap.size
theorem T.Sm.of {w w' : World} (u : Up w w') : T.Sm w w' := ⟨fun b _ h1 _ => (Below.block u b (Array.getElem?_eq_some_iff.1 h1).1).trans h1, u.size⟩
theorem T.Sm.refl (w : World) : T.Sm w w := ⟨fun _ _ h _ => h, Nat.le_refl _⟩
theorem T.Sm.trans {a b c : World} (h : T.Sm a b) (k : T.Sm b c) : T.Sm a c := ⟨fun n o h1 h2 => k.1 n o (h.1 n o h1 h2) h2, Nat.le_trans h.2 k.2⟩
theorem T.Sm.kc {w0 w Y : World} {p : Nat → Prop} (h : T.Sm w0 w) (hp : ∀ b, p b → w0.heap.size ≤ b) (k : T.Kc p w Y) : T.Sm w0 Y :=
  ⟨fun b o h1 h2 => k.1 b o (h.1 b o h1 h2) h2 fun e => by have := hp b e; have := (Array.getElem?_eq_some_iff.1 h1).1; omega, Nat.le_trans h.2 k.2⟩
theorem T.Sm.cell {w w' : World} (h : T.Sm w w') {b o : Nat} {v : Value} (hc : w.cell? ⟨b, o, none⟩ = some v) : w'.cell? ⟨b, o, none⟩ = some v := by
  cases hb : w.heap[b]? with
  | none => simp [World.cell?, hb] at hc
  | some ob =>
    have hcell : ob.isCells = true := by
      cases ob <;> first | rfl | (simp [World.cell?, hb] at hc)
    have e : w'.heap[b]? = some ob := h.1 b ob hb hcell
    rw [← hc]
    simp only [World.cell?, hb, e]
theorem T.Sm.blk {w w' : World} (h : T.Sm w w') {b : Nat} {cs : Array Value} {t : TypeId} {fr : Nat × Nat} (hb : mblk w b = some (.cells cs t fr)) : mblk w' b = some (.cells cs t fr) := h.1 b _ hb rfl
theorem Tab.sm {α : Type} {k : Nat} {enc : α → Nat → Int} {d : α} {w w' : World} {v : Value} {xs : List α} (h : Tab k enc d w v xs) (u : T.Sm w w') : Tab k enc d w' v xs := by
  obtain ⟨a, c, e, hc, hl, hm⟩ := h.is
  refine ⟨a, c, e, hc, hl, fun h0 => ?_⟩
  obtain ⟨g, off, e1, e2, e3⟩ := hm h0
  exact ⟨g, off, e1, by have := u.2; omega, fun j hj i hi => u.cell (e3 j hj i hi)⟩
theorem Ints.sm {w w' : World} {v : Value} {xs : List Int} (h : Ints w v xs) (u : T.Sm w w') : Ints w' v xs := by
  obtain ⟨a, c, e, hc, hl, hm⟩ := h.is
  refine ⟨a, c, e, hc, hl, fun h0 => ?_⟩
  obtain ⟨g, off, e1, e2, e3⟩ := hm h0
  exact ⟨g, off, e1, by have := u.2; omega, fun j hj => u.cell (e3 j hj)⟩

/-- rows of rows, up to a place -/
def T.nest {α : Type} (f : Nat → Nat → α) (M k h : Nat) : List α := (List.range k).flatMap (fun c => (List.range M).map (f c)) ++ (List.range h).map (f k)
section
variable {α : Type} {f : Nat → Nat → α} {M k h n : Nat}
theorem T.nest_h : T.nest f M k h ++ [f k h] = T.nest f M k (h + 1) := by
  unfold T.nest
  rw [List.range_succ (n := h), List.map_append, List.append_assoc]
  rfl
theorem T.nest_k : T.nest f M k M = T.nest f M (k + 1) 0 := by
  unfold T.nest
  rw [List.range_succ (n := k), List.flatMap_append]
  simp
theorem T.nest_len : (T.nest f M k h).length = k * M + h := by
  have e : ∀ k : Nat, ((List.range k).flatMap (fun c => (List.range M).map (f c))).length = k * M := by
    intro k; induction k with
    | zero => simp
    | succ k ih =>
      rw [List.range_succ (n := k), List.flatMap_append, List.length_append, ih, Nat.succ_mul]
      simp
  unfold T.nest
  rw [List.length_append, e, List.length_map, List.length_range]
theorem T.nest_pre0 (hk : k ≤ n) : T.nest f M k 0 <+: T.nest f M n 0 := by
  unfold T.nest
  obtain ⟨t, ht⟩ := range_prefix hk
  rw [← ht, List.flatMap_append]
  simp only [List.range_zero, List.map_nil, List.append_nil]
  exact List.prefix_append _ _
theorem T.nest_pre (hk : k < n) (hh : h ≤ M) : T.nest f M k h <+: T.nest f M n 0 := by
  refine List.IsPrefix.trans ?_ (T.nest_pre0 (k := k + 1) hk)
  rw [← T.nest_k]
  unfold T.nest
  obtain ⟨t, ht⟩ := range_prefix hh
  rw [← ht, List.map_append, ← List.append_assoc]
  exact List.prefix_append _ _
theorem T.nest_lt (hk : k < n) (hh : h < M) : (T.nest f M k h).length < (T.nest f M n 0).length := by
  rw [T.nest_len, T.nest_len]
  have := Nat.mul_le_mul_right M (show k + 1 ≤ n from hk)
  rw [Nat.succ_mul] at this
  omega
end

theorem T.pre_lt {α : Type} {pre L : List α} {x : α} (h : pre ++ [x] <+: L) : pre.length < L.length := by
  have := h.length_le
  rw [List.length_append, List.length_singleton] at this
  omega
/-- the moments of a cellar, up to one -/
def T.momsTo (H k h : Nat) : List (Int × Int) := (-1, 0) :: ((List.range k).flatMap (fun (c : Nat) => (List.range (H + 1)).map fun (i : Nat) => ((c : Int), (i : Int))) ++ (List.range h).map fun (i : Nat) => ((k : Int), (i : Int)))
def T.moms (n H : Nat) : List (Int × Int) := T.momsTo H n 0
theorem T.momsTo_h (H k h : Nat) : T.momsTo H k h ++ [((k : Int), (h : Int))] = T.momsTo H k (h + 1) := by
  unfold T.momsTo
  rw [List.range_succ (n := h), List.map_append, List.cons_append, List.append_assoc]
  rfl
theorem T.momsTo_k (H k : Nat) : T.momsTo H k (H + 1) = T.momsTo H (k + 1) 0 := by
  unfold T.momsTo
  rw [List.range_succ (n := k), List.flatMap_append]
  simp
theorem T.momsTo_len (H k h : Nat) : (T.momsTo H k h).length = 1 + k * (H + 1) + h := by
  have e : ∀ k : Nat, ((List.range k).flatMap (fun (c : Nat) => (List.range (H + 1)).map fun (i : Nat) => ((c : Int), (i : Int)))).length = k * (H + 1) := by
    intro k; induction k with
    | zero => simp
    | succ k ih =>
      rw [List.range_succ (n := k), List.flatMap_append, List.length_append, ih, Nat.succ_mul]
      simp
  unfold T.momsTo
  rw [List.length_cons, List.length_append, e, List.length_map, List.length_range]
  omega
theorem T.momsTo_pre0 {H k n : Nat} (hk : k ≤ n) : T.momsTo H k 0 <+: T.moms n H := by
  unfold T.moms T.momsTo
  obtain ⟨t, ht⟩ := range_prefix hk
  rw [← ht, List.flatMap_append]
  simp only [List.range_zero, List.map_nil, List.append_nil]
  rw [← List.cons_append]
  exact List.prefix_append _ _
theorem T.momsTo_pre {H k h n : Nat} (hk : k < n) (hh : h ≤ H + 1) : T.momsTo H k h <+: T.moms n H := by
  refine List.IsPrefix.trans ?_ (T.momsTo_pre0 (H := H) (k := k + 1) hk)
  rw [← T.momsTo_k]
  unfold T.momsTo
  obtain ⟨t, ht⟩ := range_prefix hh
  rw [← ht, List.map_append, ← List.append_assoc, ← List.cons_append]
  exact List.prefix_append _ _

section
variable {H : Nat} {aR aO aP : Option Addr} {nR cR nO cO nP cP : Nat} {b0 b1 b2 b3 b4 : Bool}
theorem moments_any (w : World) : Calls Try.prog 82 #[CeV H (.slice aR nR cR) (.slice aO nO cO) (.slice aP nP cP) b0 b1 b2 b3 b4] w fun e w' =>
    e = .returned (.func (.func 98) #[] #[.pointer (some ⟨w.heap.size, 0, none⟩)]) ∧ w.alloc (.cells (CeC H (.slice aR nR cR) (.slice aO nO cO) (.slice aP nP cP) b0 b1 b2 b3 b4) 79) = w' := by
  go_enter Try.func82, Try.ntmps82
  go_wp2
  go_ret
  exact ⟨rfl, rfl⟩

set_option maxRecDepth 100000 in
set_option maxHeartbeats 2000000 in
theorem moments1_in (hH : H ≤ 12) (hR : nR ≤ 5) {m : Nat} (hm : 1 ≤ m) {l B : Nat} {p : Nat → Prop} (J Jx : List (Int × Int) → World → Prop) (W : World) (hne : ¬ p B)
    (kB : mblk W B = some (.cells (CeC H (.slice aR nR cR) (.slice aO nO cO) (.slice aP nP cP) b0 b1 b2 b3 b4) 79 (0, 0)))
    (hJ : ∀ s X Y, J s X → Up X Y → J s Y)
    (hY : ∀ pre (x : Int × Int) X, J pre X → pre ++ [x] <+: T.moms nR H → YieldAt Fence.wide (m - 1) Try.prog l #[MoV x.1 x.2] X fun e Y =>
      (e = .returned (.bool true) ∧ J (pre ++ [x]) Y ∧ T.Kc p X Y) ∨ (e = .returned (.bool false) ∧ Jx (pre ++ [x]) Y))
    (h0 : J [] W) :
    CallsIn Fence.wide m Try.prog 98 #[.func (.yield l) #[] #[], .pointer (some ⟨B, 0, none⟩)] W fun e Y => (∃ v, e = .returned v) ∧
      ((∃ xs, xs = T.moms nR H ∧ J xs Y) ∨ (∃ pre, pre <+: T.moms nR H ∧ Jx pre Y)) := by
  have HY := Lib.hid hY
  have HJ := Lib.hid hJ
  have eH : IntKind.i64.wrap ((H : Int) + 1) = (H : Int) + 1 := IntWalk.i64_in _ (by omega)
  have hp1 := Lib.hid (show [((-1 : Int), (0 : Int))] <+: T.moms nR H from T.momsTo_pre0 (H := H) (k := 0) (Nat.zero_le _))
  clear hY hJ
  refine callsIn_of_wp Try.func98 rfl trivial ?_ rfl
  simp only [Try.ntmps98, List.size_toArray, List.length_cons, List.length_nil, Nat.reduceAdd, Nat.reduceSub, Array.replicate_succ, Array.replicate_zero, List.push_toArray, List.append_toArray, List.nil_append, List.cons_append]
  gi_wp2_with fail
  refine ⟨trivial, (callsIn_wide.2 (at_true 0 _)).mono ?_⟩
  rintro e w1 ⟨rfl, u1⟩
  obtain ⟨fn, tmps, assign, body, hy, hRR⟩ := HY.out [] (-1, 0) w1 (HJ.out [] W w1 h0 u1) hp1.out
  have k1 := u1.blk kB
  have gW := blk_lt kB
  clear h0 u1 kB
  gi_wp2_with fail
  refine hRR.mono ?_
  rintro e w3 (⟨rfl, hJ3, hk3⟩ | ⟨rfl, hJx3⟩)
  · have kk : mblk w3 B = some (.cells (CeC H (.slice aR nR cR) (.slice aO nO cO) (.slice aP nP cP) b0 b1 b2 b3 b4) 79 (0, 0)) := hk3.blk k1 hne
    have hJ3' : J (T.momsTo H 0 0) w3 := hJ3
    clear hRR hy k1 hk3 hJ3
    gi_wp2
    clear eH
    gi_loopw [13] (fun t wr => ∃ k : Nat, k ≤ nR ∧ t = .int .i64 k ∧ J (T.momsTo H k 0) wr ∧ mblk wr B = some (.cells (CeC H (.slice aR nR cR) (.slice aO nO cO) (.slice aP nP cP) b0 b1 b2 b3 b4) 79 (0, 0))) (fun t _ => nR - (intOf t).toNat)
    case atStart => exact ⟨0, Nat.zero_le _, rfl, hJ3', kk⟩
    case round =>
      clear hJ3' kk
      obtain ⟨k, hk, rfl, hJs, kk⟩ := hrel
      by_cases hlt : k < nR
      · have eH : IntKind.i64.wrap ((H : Int) + 1) = (H : Int) + 1 := IntWalk.i64_in _ (by omega)
        have lk := blk_lt kk
        gi_wp2_with fail
        clear eH
        gi_loopw [20] (fun t wr => ∃ h : Nat, h ≤ H + 1 ∧ t = .int .i64 h ∧ J (T.momsTo H k h) wr ∧ mblk wr B = some (.cells (CeC H (.slice aR nR cR) (.slice aO nO cO) (.slice aP nP cP) b0 b1 b2 b3 b4) 79 (0, 0))) (fun t _ => H + 1 - (intOf t).toNat)
        case atStart => exact ⟨0, Nat.zero_le _, rfl, hJs, kk⟩
        case round =>
          clear hJs kk lk
          obtain ⟨h, hh, rfl, hJs, kk⟩ := hrel
          by_cases hlt2 : h < H + 1
          · have hl2 : (h : Int) < (H : Int) + 1 := by omega
            have g1 : decide (h < H + 1) = true := decide_eq_true hlt2
            have hk1 : ¬ ((k : Int) = -1) := by omega
            have ln := Lib.hid (show T.momsTo H k h ++ [((k : Int), (h : Int))] <+: T.moms nR H by rw [T.momsTo_h]; exact T.momsTo_pre hlt (by omega))
            gi_wp2_with fail
            refine ⟨trivial, (callsIn_wide.2 (at_clock k h _ hk1)).mono ?_⟩
            rintro e w4 ⟨rfl, u4⟩
            obtain ⟨fn, tmps, assign, body, hy, hRR⟩ := HY.out _ ((k : Int), (h : Int)) w4 (HJ.out _ _ w4 hJs u4) ln.out
            have k4 := u4.blk kk
            clear hJs u4 kk
            gi_wp2_with fail
            refine hRR.mono ?_
            rintro e w5 (⟨rfl, hJ5, hk5⟩ | ⟨rfl, hJx5⟩)
            · have k5 := hk5.blk k4 hne
              rw [T.momsTo_h] at hJ5
              clear hRR hy k4 hk5
              gi_wp2
              go_roundw
              case rel => exact ⟨h + 1, by omega, by go_num, hJ5, k5⟩
              case measure => simp [intOf]; omega
            · rw [T.momsTo_h] at hJx5
              clear hRR hy
              gi_wp2
              refine bodyPost_ret (results_none rfl _ _ _) rfl ?_
              exact ⟨⟨_, rfl⟩, .inr ⟨_, T.momsTo_pre hlt (by omega), hJx5⟩⟩
          · obtain rfl : h = H + 1 := by omega
            rw [T.momsTo_k] at hJs
            have hl2 : ¬ ((H : Int) + 1 < (H : Int) + 1) := by omega
            gi_wp2
            go_roundw
            case rel => exact ⟨k + 1, by omega, by go_num, hJs, kk⟩
            case measure => simp [intOf]; omega
      · obtain rfl : k = nR := by omega
        gi_wp2
        go_end0
        exact ⟨⟨_, rfl⟩, .inl ⟨_, rfl, hJs⟩⟩
  · clear hRR hy
    gi_wp2
    refine bodyPost_ret (results_none rfl _ _ _) rfl ?_
    exact ⟨⟨_, rfl⟩, .inr ⟨_, hp1.out, hJx3⟩⟩
/-- the iterator's contract -/
theorem moments_stops (hH : H ≤ 12) (hR : nR ≤ 5) {m : Nat} (hm : 1 ≤ m) {B : Nat} {p : Nat → Prop} {w : World} (hne : ¬ p B)
    (kB : mblk w B = some (.cells (CeC H (.slice aR nR cR) (.slice aO nO cO) (.slice aP nP cP) b0 b1 b2 b3 b4) 79 (0, 0))) :
    SeqStopsK Fence.wide m Try.prog 98 #[.pointer (some ⟨B, 0, none⟩)]
      (fun x : Int × Int => #[MoV x.1 x.2]) (T.Kc p) (fun xs => xs = T.moms nR H) (fun pre => pre <+: T.moms nR H) (T.moms nR H).length w := by
  intro l J Jx W hW hJ _ hY h0
  exact moments1_in hH hR hm J Jx W hne ((Below.block hW B (blk_lt kB)).trans kB)
    (fun s X Y hX hU => hJ s X Y none hX ⟨hU.os, hU.tape, hU.output, hU.size, fun j hj _ => Below.block hU j hj⟩ (by simp)) (fun pre x X h1 h2 => hY pre x X h1 (T.pre_lt h2)) h0
end

end Go.Proofs.Ytcmdaiklkdeanaa
