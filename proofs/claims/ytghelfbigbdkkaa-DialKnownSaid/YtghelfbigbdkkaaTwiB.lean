import Derived.Test.YtghelfbigbdkkaaCalC
import Derived.Maps.OwnIn
import Derived.Maps.Views
import Derived.DeepKeys4
import Derived.Test.YtghelfbigbdkkaaTownK
import Derived.Sort.LoopGhostIn
/- The map of dial's twice: a reading's key, and what such a map holds. -/
namespace Go.Proofs.Ytghelfbigbdkkaa
open Go.RowKit

theorem lawRd : Maps.Keyed Try.prog 34 := Maps.Keyed.of_law (deep_law_laid (by kernel_rfl) (m := 2) (by omega) (of_decide_eq_true (by kernel_rfl)) (by kernel_rfl) (by rw [Try.underlying34]))
theorem zeroU (w : World) : (zeroValue 100).run Try.prog w = .ok (.int .u64 0) w := by kernel_rfl
theorem rdKeyType : Try.prog.keyType 34 = true := by kernel_rfl
theorem rdCells : Try.prog.cellsOf 34 = 4 := by kernel_rfl
theorem intCells : Try.prog.cellsOf 3 = 1 := by kernel_rfl
theorem rdSize : ∃ m, Try.prog.types.size = m + 1 := ⟨Try.prog.types.size - 1, by kernel_rfl⟩

/-- what a reading is as a key -/
def D.key (a b c q : Int) : Lit := .string (keyBytes [.int .i64 a, .int .i64 b, .int .i64 c, .int .i64 q])
def D.in64 (a : Int) : Prop := -9223372036854775808 ≤ a ∧ a ≤ 9223372036854775807
theorem D.in64.wf {a : Int} (h : D.in64 a) : (Lit.int .i64 a).wf = true := WalkArith.wf_i64 (by have := h.1; have := h.2; omega)
theorem keyOf_rd {a b c q : Int} (ha : D.in64 a) (hb : D.in64 b) (hc : D.in64 c) (hq : D.in64 q) : keyOf Try.prog 34 (rd a b c q) = some (D.key a b c q) := by
  have wa := ha.wf
  have wb := hb.wf
  have wc := hc.wf
  have wq := hq.wf
  unfold keyOf
  simp only [Try.underlying34]
  obtain ⟨m, hm⟩ := rdSize
  rw [if_pos (by simp [rdKeyType, Value.formed, Try.underlying34, rdCells]), hm]
  unfold Program.keyLits
  simp only [Try.underlying34, Value.cells]
  clear hm
  simp [rdCells, intCells, Program.keyLits, Try.underlying3, wa, wb, wc, wq, D.key]

/-- what a map of dial's twice holds at each minute -/
def D.MapIs (M : DataW Nat) (f : Int → Int → Int → Int) : Prop := Maps.IsMap M ∧ ∀ a b c, D.in64 a → D.in64 b → D.in64 c → M.atKey (D.key a b c 0) (.lit (.int .u64 0)) = .lit (.int .u64 (f a b c))
theorem D.MapIs.empty : D.MapIs (.map []) (fun _ _ _ => 0) := ⟨Maps.isMap_empty, fun _ _ _ _ _ _ => rfl⟩
def D.upd (f : Int → Int → Int → Int) (a b c v : Int) : Int → Int → Int → Int := fun x y z => if x = a ∧ y = b ∧ z = c then v else f x y z
theorem D.in64_zero : D.in64 0 := ⟨by omega, by omega⟩
theorem D.MapIs.put {M : DataW Nat} {f : Int → Int → Int → Int} (h : D.MapIs M f) {a b c : Int} (ha : D.in64 a) (hb : D.in64 b) (hc : D.in64 c) (v : Int) :
    D.MapIs (M.put (D.key a b c 0) (.lit (.int .u64 v))) (D.upd f a b c v) := by
  have hk := keyOf_rd ha hb hc D.in64_zero
  refine ⟨h.1.put _ _, fun x y z hx hy hz => ?_⟩
  by_cases e : x = a ∧ y = b ∧ z = c
  · obtain ⟨rfl, rfl, rfl⟩ := e
    rw [Maps.atKey_put_same h.1 (lawRd.key hk)]
    simp [D.upd]
  · have hne : D.key x y z 0 ≠ D.key a b c 0 := fun he => by
      have := lawRd.inj (keyOf_rd hx hy hz D.in64_zero) (he ▸ hk)
      simp only [rd, Value.agg.injEq, Array.mk.injEq, List.cons.injEq, Value.int.injEq] at this
      exact e ⟨this.1.2, this.2.1.2, this.2.2.1.2⟩
    rw [Maps.atKey_put_other hne, h.2 x y z hx hy hz, D.upd, if_neg e]

end Go.Proofs.Ytghelfbigbdkkaa

/- The contract of dial's twice. -/
namespace Go.Proofs.Ytghelfbigbdkkaa
open Go.RowKit Go.Shelf
attribute [local go_sem] Oper.semAt_some

/-- a function that entered loops over functions leaves with their marks -/
def D.mark (d : Nat) : Deferred := { target := .collected d, args := #[] }
theorem leaves_marks {F : Fence} {n : Nat} {P : Program} {fn : Func} {tmps : Array Value} {R : Ending → World → Prop} : ∀ (Ds : List Nat) (W : World), Ds.Nodup → (∀ d, d ∈ Ds → W.heap[d]? = some (.deferred (some []))) →
    (∀ W', W'.os = W.os → W'.tape = W.tape → W'.output = W.output → W'.heap.size = W.heap.size → (∀ b, b ∉ Ds → W'.heap[b]? = W.heap[b]?) → LeavesIn F n P fn tmps R [] .returning W') →
    LeavesInM F n P fn tmps R (Ds.map D.mark) .returning W
  | [], W, _, _, h => h W rfl rfl rfl rfl (fun _ _ => rfl)
  | d :: Ds, W, hn, hd, h => by
    obtain ⟨n1, n2⟩ := List.nodup_cons.1 hn
    refine ⟨by simp, .inl ⟨d, _, rfl, run_takeDeferred (hd d (by simp)), ?_⟩⟩
    refine leaves_marks Ds _ n2 (fun e he => ?_) (fun W' a1 a2 a3 a4 a5 => ?_)
    · exact (World.putObj_heap_other (fun q => n1 (by rw [← q]; exact he))).trans (hd e (by simp [he]))
    · exact h W' (a1.trans rfl) (a2.trans rfl) (a3.trans rfl) (a4.trans (by simp)) (fun b hb => (a5 b (fun q => hb (by simp [q]))).trans (World.putObj_heap_other (fun q => hb (by simp [q]))))

theorem D.kb_t {n₁ n₀ : Nat} {A B C : World} (h : D.Kb n₁ n₀ A B) (k : D.Kb n₁ n₀ B C) : D.Kb n₁ n₀ A C := fun b h1 h2 => (k b h1 h2).trans (h b h1 h2)
theorem D.kb_b {n₁ n₀ : Nat} {w : World} (hn : n₀ ≤ w.heap.size) (W : World) (l : Nat) (o o' : Obj) (hl : w.heap.size ≤ l) (_ : W.heap[l]? = some o) (_ : o.isCells = false) (_ : o.isWalk = false) : D.Kb n₁ n₀ W (W.putObj l o') :=
  fun b _ h2 => World.putObj_heap_other (by omega)
theorem cell_blk {X Y : World} {b : Nat} (h : mblk Y b = mblk X b) (j : Nat) : Y.cell? ⟨b, j, none⟩ = X.cell? ⟨b, j, none⟩ := by
  have h' : Y.heap[b]? = X.heap[b]? := h
  simp only [World.cell?, h']
theorem up_grown {w w' : World} (h : Up w w') : w.grownBy w' none := ⟨h.os, h.tape, h.output, h.size, fun k hk _ => Below.block h k hk⟩
/-- what dial's twice keeps: what each local minute has in the map, and how many ticks came twice -/
def D.mask (many sec : Int) : Int := IntKind.u64.wrap (IntKind.u64.wrap (IntKind.u64.wrap (2 ^ min many.toNat 64) - 1) * 2 ^ min sec.toNat 64)
def D.tw1 (s : (Int → Int → Int → Int) × Int) (a b c m : Int) : (Int → Int → Int → Int) × Int :=
  (D.upd s.1 a b c (bits .or .u64 (s.1 a b c) m), wrap64 (s.2 + D.pop (bits .and .u64 (s.1 a b c) m)))

def D.twP (a : Nat → Int) (b : Nat → Int) (c : Nat → Int) (m : Nat → Int) (s : (Int → Int → Int → Int) × Int) (pre : List Nat) : (Int → Int → Int → Int) × Int :=
  pre.foldl (fun s k => D.tw1 s (a k) (b k) (c k) (m k)) s
theorem D.twP_snoc (a b c m : Nat → Int) (s : (Int → Int → Int → Int) × Int) (pre : List Nat) (x : Nat) : D.twP a b c m s (pre ++ [x]) = D.tw1 (D.twP a b c m s pre) (a x) (b x) (c x) (m x) := by
  simp [D.twP]
/-- .. after so many periods -/
def D.twS (np : Nat) (N : Nat → Nat) (A B Z S mn : Nat → Nat → Int) (lA lB lC : Int → Int → Int → Int → Int) (X : Nat → Int) : Nat → (Int → Int → Int → Int) × Int
  | 0 => (fun _ _ _ => 0, 0)
  | i + 1 => D.twP (fun k => lA (A i k) (B i k) (Z i k) (X (i * 3 + 2))) (fun k => lB (A i k) (B i k) (Z i k) (X (i * 3 + 2))) (fun k => lC (A i k) (B i k) (Z i k) (X (i * 3 + 2))) (fun k => D.mask (mn i k) (S i k)) (D.twS np N A B Z S mn lA lB lC X i) (List.range (N i))

set_option maxRecDepth 100000 in
set_option maxHeartbeats 1000000 in
theorem twice_list {ts cs : Array Value} (hsz : ts.size = 17) (hcal : calOf ts = cs) (hcs : cs.size = 15) (np : Nat) (hK7 : np ≤ 7) (X : Nat → Int) (w : World)
    (HP : ∀ w0, Up w w0 → Calls Try.prog 49 #[.agg ts] w0 fun e w' => ∃ g cap, e = .returned (.slice (some ⟨g, 0, none⟩) np cap) ∧ Up w0 w' ∧ w0.heap.size ≤ g ∧ g < w'.heap.size ∧ ∀ j, j < np * 3 → w'.cell? ⟨g, j, none⟩ = some (.int .i64 (X j)))
    (N : Nat → Nat) (st mn A B Z S L : Nat → Nat → Int)
    (hw : ∀ i, i < np → D.Way (N i) (X (i * 3)) (X (i * 3 + 1)) (st i) (mn i) (S i) (L i)) (hN : ∀ i, N i ≤ 1000000) (hb : ∀ i k, 0 ≤ mn i k ∧ mn i k ≤ 100 ∧ 0 ≤ S i k ∧ S i k ≤ 100)
    (HR : ∀ (i k : Nat) (w : World), i < np → k < N i → Calls Try.prog 25 #[.agg cs, .int .i64 (st i k)] w fun e w' => e = .returned (rd (A i k) (B i k) (Z i k) (S i k)) ∧ Up w w')
    (HM : ∀ (i k : Nat) (w : World), i < np → k < N i → Calls Try.prog 58 #[.agg cs, rd (A i k) (B i k) (Z i k) (S i k)] w fun e w' => e = .returned (.int .i64 (L i k)) ∧ Up w w')
    (lA lB lC : Int → Int → Int → Int → Int)
    (HL : ∀ a b c q k w, Calls Try.prog 30 #[.agg ts, rd a b c q, .int .i64 k] w fun e w' => e = .returned (rd (lA a b c k) (lB a b c k) (lC a b c k) q) ∧ Up w w')
    (hl' : ∀ a b c k, D.in64 (lA a b c k) ∧ D.in64 (lB a b c k) ∧ D.in64 (lC a b c k)) :
    Calls Try.prog 33 #[.agg ts] w fun e w' => e = .returned (.int .i64 (D.twS np N A B Z S mn lA lB lC X np).2) ∧ Up w w' := by
  have hs := Lib.hid hsz
  have hT := hcal
  have HPP := Lib.hid HP
  have HRR := Lib.hid HR
  have HMM := Lib.hid HM
  have HLL := Lib.hid HL
  have HW := Lib.hid hw
  have hmm := @run_makeMap Try.prog
  clear hsz hcal HP HR HM HL hw
  refine (callsIn_wide (n := 5)).1 ?_
  refine callsIn_of_wp_marks Try.func33 rfl trivial ?_ rfl
  simp only [Try.ntmps33, List.size_toArray, List.length_cons, List.length_nil, Nat.reduceAdd, Nat.reduceSub, Array.replicate_succ, Array.replicate_zero, List.push_toArray, List.append_toArray, List.nil_append, List.cons_append]
  gi_wp2_with fail
  obtain ⟨W0, hW0⟩ : ∃ W0, (((w.alloc (.cells ts 74)).alloc (.map #[] 0)).alloc (.cells #[.map (some (w.heap.size + 1))] 96)).alloc (.cells #[.int .i64 0] 3) = W0 := ⟨_, rfl⟩
  have U0 : Up w W0 := by rw [← hW0]; exact (((Up.refl w).alloc _).alloc _ |>.alloc _).alloc _
  have k0 : mblk W0 w.heap.size = some (.cells ts 74) := by rw [← hW0]; exact blk_keep _ (blk_keep _ (blk_keep _ (blk_new _ _ _ rfl)))
  have k1 : W0.ownsMap Try.prog 34 (plainElem (H := Nat) Try.prog 100) (w.heap.size + 1) 0 (.map []) := by
    have := (((World.ownsMap_made (w.alloc (.cells ts 74)) Try.prog 34 (plainElem (H := Nat) Try.prog 100)).alloc (.cells #[.map (some (w.heap.size + 1))] 96)).alloc (.cells #[.int .i64 0] 3))
    rw [World.size_alloc, hW0] at this
    exact this
  have k2 : mblk W0 (w.heap.size + 1 + 1) = some (.cells #[.map (some (w.heap.size + 1))] 96) := by rw [← hW0]; exact blk_keep _ (blk_new _ _ _ (by simp))
  have k3 : mblk W0 (w.heap.size + 1 + 1 + 1) = some (.cells #[.int .i64 0] 3) := by rw [← hW0]; exact blk_new _ _ _ (by simp)
  rw [hW0]
  clear hW0
  rw [run_townLoad _ _ _ k0 hs]
  gi_wp2_with fail
  refine ⟨trivial, ?_⟩
  refine (callsIn_wide.2 (HPP.out _ U0)).mono ?_
  rintro e w2 ⟨g, cap, rfl, u2, g1, g2, hc⟩
  have U2 := U0.trans u2
  have HC := Lib.hid hc
  have j0 := u2.blk k0
  have j1 := k1.kept (up_grown u2) (by simp)
  have j2 := u2.blk k2
  have j3 := u2.blk k3
  have z0 := blk_lt k3
  clear u2 k0 k1 k2 k3 hc HPP
  gi_wp2_with fail
  refine wpIn_loop_ghost_k (fun gk a wr => ∃ (u6 u17 u18 u19 u20 u21 u22 u23 u24 u25 u26 u55 : Value) (k n : Nat) (Ds : List Nat) (M : DataW Nat), k ≤ np ∧ gk = np - k ∧ a = { tmps := List.toArray ((.agg ts : Value) :: .pointer (some ⟨w.heap.size, 0, none⟩) :: .int .i64 0 :: .pointer (some ⟨w.heap.size + 1 + 1, 0, none⟩) :: .pointer (some ⟨w.heap.size + 1 + 1 + 1, 0, none⟩) :: undef :: u6 :: undef :: undef :: undef :: undef :: undef :: .map (some (w.heap.size + 1)) :: .agg ts :: .slice (some ⟨g, 0, none⟩) np cap :: .int .i64 np :: .int .i64 k :: u17 :: u18 :: u19 :: u20 :: u21 :: u22 :: u23 :: u24 :: u25 :: u26 :: undef :: undef :: undef :: undef :: undef :: undef :: undef :: undef :: undef :: undef :: undef :: undef :: undef :: undef :: undef :: undef :: undef :: undef :: undef :: undef :: undef :: undef :: undef :: undef :: undef :: undef :: undef :: undef :: u55 :: undef :: []), defers := Ds.map D.mark } ∧
      (Ds.Nodup ∧ ∀ d, d ∈ Ds → w.heap.size + 4 ≤ d ∧ wr.heap[d]? = some (.deferred (some []))) ∧ mblk wr w.heap.size = some (.cells ts 74) ∧ mblk wr (w.heap.size + 1 + 1) = some (.cells #[.map (some (w.heap.size + 1))] 96) ∧
      mblk wr (w.heap.size + 1 + 1 + 1) = some (.cells #[.int .i64 (D.twS np N A B Z S mn lA lB lC X k).2] 3) ∧ wr.ownsMap Try.prog 34 (plainElem (H := Nat) Try.prog 100) (w.heap.size + 1) n M ∧ D.MapIs M (D.twS np N A B Z S mn lA lB lC X k).1 ∧ n ≤ k * 1000000 ∧
      (∀ j, j < np * 3 → wr.cell? ⟨g, j, none⟩ = some (.int .i64 (X j))) ∧ g < wr.heap.size ∧ Up w wr) np ?start ?round
  case start => exact ⟨_, _, _, _, _, _, _, _, _, _, _, _, 0, 0, [], .map [], Nat.zero_le _, rfl, rfl, ⟨List.nodup_nil, fun d hd => by cases hd⟩, j0, j2, j3, j1, D.MapIs.empty, Nat.le_refl _, HC.out, g2, U2⟩
  case round =>
    rintro gk a wr ⟨u6, u17, u18, u19, u20, u21, u22, u23, u24, u25, u26, u55, k, n, Ds, M, hk, rfl, rfl, ⟨hnd, hDs⟩, k0, k2, k3, hown, hM, hn, hc, gw, V1⟩ J K hJ hK
    by_cases hlt : k < np
    · have c0 := hc (k * 3) (by omega)
      have c1 := hc (k * 3 + 1) (by omega)
      have c2 := hc (k * 3 + 2) (by omega)
      gi_wp2_with fail
      obtain ⟨W1, hW1⟩ : ∃ W1, wr.alloc (.cells #[.int .i64 (X (k * 3)), .int .i64 (X (k * 3 + 1)), .int .i64 (X (k * 3 + 2))] 95) = W1 := ⟨_, rfl⟩
      have V2 : Up wr W1 := by rw [← hW1]; exact (Up.refl wr).alloc _
      have i4 : mblk W1 wr.heap.size = some (.cells #[.int .i64 (X (k * 3)), .int .i64 (X (k * 3 + 1)), .int .i64 (X (k * 3 + 2))] 95) := by rw [← hW1]; exact blk_new _ _ _ (by simp)
      have z1 : W1.heap.size = wr.heap.size + 1 := by rw [← hW1]; simp
      rw [hW1]
      clear hW1
      refine ⟨trivial, ?_⟩
      refine (callsIn_wide.2 (minutes_any _ _ _ _)).mono ?_
      rintro e w3 ⟨rfl, hw3⟩
      have hb3 : mblk w3 W1.heap.size = some (.cells cs 62) := by rw [← hw3]; exact blk_keep _ (blk_keep _ (blk_new _ _ _ rfl))
      have hb1 : mblk w3 (W1.heap.size + 1) = some (.cells #[.int .i64 (X (k * 3))] 3) := by rw [← hw3]; exact blk_keep _ (blk_new _ _ _ (by simp))
      have hb2 : mblk w3 (W1.heap.size + 1 + 1) = some (.cells #[.int .i64 (X (k * 3 + 1))] 3) := by rw [← hw3]; exact blk_new _ _ _ (by simp)
      have V3 : Up W1 w3 := by rw [← hw3]; exact ((Up.refl W1).alloc _).alloc _ |>.alloc _
      have z3 : w3.heap.size = W1.heap.size + 3 := by rw [← hw3]; simp
      have V13 := V2.trans V3
      have e4 := V3.blk i4
      have e0 := V13.blk k0
      have e2 := V13.blk k2
      have e3 := V13.blk k3
      have eo := hown.kept (up_grown V13) (by simp)
      have eU := V1.trans V13
      have ec : ∀ j, j < np * 3 → w3.cell? ⟨g, j, none⟩ = some (.int .i64 (X j)) := fun j hj => (V13.facts.1 g j gw).trans (hc j hj)
      have zw : w.heap.size + 4 ≤ wr.heap.size := by have := blk_lt k3; omega
      rw [z1] at hb1 hb2 hb3 z3
      clear hw3 i4 k0 k2 k3 hown c0 c1 c2 hc V2 V3
      gi_wp2_with fail
      refine wpIn_rangeFunc_ownH (F := Fence.wide) (n := 5) rfl (by omega) (gf := 62) (lb := #[.pointer (some ⟨wr.heap.size + 1 + 1, 0, none⟩), .pointer (some ⟨wr.heap.size + 1 + 1 + 1, 0, none⟩), .pointer (some ⟨wr.heap.size + 1, 0, none⟩)]) rfl trivial (enters_of Try.func62 (by kernel_rfl) rfl)
        (minutes_stops hcs (N k) _ _ (st k) (mn k) (A k) (B k) (Z k) (S k) (L k) (HW.out k hlt) (fun j w => HRR.out k j w hlt) (fun j w => HMM.out k j w hlt) (5 - 1) (by omega) (wr.heap.size + 1) ((wr.heap.size + 1) + 1) ((wr.heap.size + 1) + 1 + 1) (wr.heap.size + 1) w3 w3.heap.size (Nat.le_refl _) (by omega) (by omega) (by omega) (by omega) (Nat.le_refl _) hb1 hb2 hb3)
        D.kb_t (D.kb_b (Nat.le_refl _)) (Below.refl _ _) (fun _ => rfl)
        (fun pre W => (w3.heap.size ≤ W.heap.size ∧ (∀ b, b < w3.heap.size → b ≠ w.heap.size + 1 → b ≠ w.heap.size + 1 + 1 + 1 → mblk W b = mblk w3 b)) ∧ (mblk W (w.heap.size + 1 + 1 + 1) = some (.cells #[.int .i64 (D.twP (fun j => lA (A k j) (B k j) (Z k j) (X (k * 3 + 2))) (fun j => lB (A k j) (B k j) (Z k j) (X (k * 3 + 2))) (fun j => lC (A k j) (B k j) (Z k j) (X (k * 3 + 2))) (fun j => D.mask (mn k j) (S k j)) (D.twS np N A B Z S mn lA lB lC X k) pre).2] 3) ∧ ∃ M, W.ownsMap Try.prog 34 (plainElem (H := Nat) Try.prog 100) (w.heap.size + 1) (n + pre.length) M ∧ D.MapIs M (D.twP (fun j => lA (A k j) (B k j) (Z k j) (X (k * 3 + 2))) (fun j => lB (A k j) (B k j) (Z k j) (X (k * 3 + 2))) (fun j => lC (A k j) (B k j) (Z k j) (X (k * 3 + 2))) (fun j => D.mask (mn k j) (S k j)) (D.twS np N A B Z S mn lA lB lC X k) pre).1) ∧ Up w W)
        (fun _ _ _ => False) ?hI (fun _ _ _ _ _ hs _ _ => hs) ?h0
        (fun x a' W => ∃ Bx, w3.heap.size ≤ Bx ∧ mblk W Bx = some (.cells #[.int .i64 (A k x), .int .i64 (B k x), .int .i64 (Z k x), .int .i64 (S k x)] 34) ∧ a' = { tmps := List.toArray ((.agg ts : Value) :: .pointer (some ⟨w.heap.size, 0, none⟩) :: .int .i64 0 :: .pointer (some ⟨w.heap.size + 1 + 1, 0, none⟩) :: .pointer (some ⟨w.heap.size + 1 + 1 + 1, 0, none⟩) :: undef :: .pointer (some ⟨wr.heap.size, 0, none⟩) :: .pointer (some ⟨Bx, 0, none⟩) :: .int .i64 (mn k x) :: undef :: undef :: undef :: .map (some (w.heap.size + 1)) :: .agg ts :: .slice (some ⟨g, 0, none⟩) np cap :: .int .i64 np :: .int .i64 k :: .bool true :: .pointer (some ⟨g, k * 3, none⟩) :: .agg #[.int .i64 (X (k * 3)), .int .i64 (X (k * 3 + 1)), .int .i64 (X (k * 3 + 2))] :: .pointer (some ⟨w.heap.size, 0, none⟩) :: .agg cs :: .pointer (some ⟨wr.heap.size, 0, none⟩) :: .int .i64 (X (k * 3)) :: .pointer (some ⟨wr.heap.size, 1, none⟩) :: .int .i64 (X (k * 3 + 1)) :: .func (.func 62) #[] #[.pointer (some ⟨wr.heap.size + 1 + 1, 0, none⟩), .pointer (some ⟨wr.heap.size + 1 + 1 + 1, 0, none⟩), .pointer (some ⟨wr.heap.size + 1, 0, none⟩)] :: rd (A k x) (B k x) (Z k x) (S k x) :: .int .i64 (mn k x) :: undef :: undef :: undef :: undef :: undef :: undef :: undef :: undef :: undef :: undef :: undef :: undef :: undef :: undef :: undef :: undef :: undef :: undef :: undef :: undef :: undef :: undef :: undef :: undef :: undef :: undef :: u55 :: undef :: []), defers := [] })
        ?hAx ?assign ?body ?done ?stop
      case hI =>
        rintro pre X Y row ⟨⟨h1, h2⟩, ⟨h3, M', h4, h5⟩, h6⟩ hg hr
        have hX := h6.size
        have hz := hg.size
        have nb : ∀ b, b < w3.heap.size → mblk Y b = mblk X b := fun b hb => hg.block b (by omega) (fun e => by have := (hr b e.symm).1; omega)
        exact ⟨⟨by omega, fun b hb n1 n2 => (nb b hb).trans (h2 b hb n1 n2)⟩, ⟨(nb _ (by omega)).trans h3, M', h4.kept hg (fun e => by have := (hr _ e.symm).1; omega), h5⟩, h6.grown hg (fun j e => by have := (hr j e).1; omega)⟩
      case h0 => exact ⟨⟨Nat.le_refl _, fun _ _ _ _ => rfl⟩, ⟨e3, M, by simpa using eo, hM⟩, eU⟩
      case hAx =>
        rintro x a' _ X Y row ⟨Bx, h1, h2, h3⟩ hg hr
        exact ⟨Bx, h1, (hg.block Bx (blk_lt h2) (fun e => by obtain ⟨_, o, ho, hc⟩ := hr Bx e.symm; rw [show X.heap[Bx]? = _ from h2] at ho; cases ho; simp [Obj.isCells] at hc)).trans h2, h3⟩
      case assign =>
        rintro l pre x W K ⟨⟨h1, h2⟩, ⟨h3, M', h4, h5⟩, h6⟩ hK
        gi_wp2
        exact hK _ _ ((KeepsOthers.alloc _ _).from _) (fun b _ hb => blk_past _ _ _ (by omega)) ⟨⟨by simp; omega, fun b hb n1 n2 => (blk_past _ _ _ (by omega)).trans (h2 b hb n1 n2)⟩, ⟨blk_keep _ h3, M', h4.alloc _, h5⟩, h6.alloc _⟩ ⟨W.heap.size, h1, blk_new _ _ _ rfl, rfl⟩
      case stop =>
        rintro D c pre W _ _ h _
        exact h.elim
      case body =>
        rintro l pre x a' W hl ⟨r, hr⟩ ⟨⟨h1, h2⟩, ⟨h3, M', h4, hM5⟩, h6⟩ ⟨Bx, x1, x2, rfl⟩ hlen
        have y0 := (h2 _ (by omega) (by omega) (by omega)).trans e0
        have y2 := (h2 _ (by omega) (by omega) (by omega)).trans e2
        have y4 := (h2 _ (by omega) (by omega) (by omega)).trans e4
        have c2 : W.cell? ⟨w.heap.size + 1 + 1, 0, none⟩ = _ := cellB y2 0
        have c3 : W.cell? ⟨w.heap.size + 1 + 1 + 1, 0, none⟩ = _ := cellB h3 0
        have c4 : W.cell? ⟨wr.heap.size, 2, none⟩ = _ := cellB y4 2
        have f3 := frozB h3
        have hmx : Try.prog.follows .mixedOrders = true := by kernel_rfl
        obtain ⟨m0, m1, s0, s1⟩ := hb k x
        have cx : W.cell? ⟨Bx, 3, none⟩ = _ := cellB x2 3
        gi_wp2_with fail
        refine wpIn_mono (Q := fun e a' w' => e = .normal ∧ w' = W.drew ∧ ∃ v29 v30 v31 v32 v33 v34, a' = { tmps := List.toArray ((.agg ts : Value) :: .pointer (some ⟨w.heap.size, 0, none⟩) :: .int .i64 0 :: .pointer (some ⟨w.heap.size + 1 + 1, 0, none⟩) :: .pointer (some ⟨w.heap.size + 1 + 1 + 1, 0, none⟩) :: undef :: .pointer (some ⟨wr.heap.size, 0, none⟩) :: .pointer (some ⟨Bx, 0, none⟩) :: .int .i64 (mn k x) :: .int .u64 (D.mask (mn k x) (S k x)) :: undef :: undef :: .map (some (w.heap.size + 1)) :: .agg ts :: .slice (some ⟨g, 0, none⟩) np cap :: .int .i64 np :: .int .i64 k :: .bool true :: .pointer (some ⟨g, k * 3, none⟩) :: .agg #[.int .i64 (X (k * 3)), .int .i64 (X (k * 3 + 1)), .int .i64 (X (k * 3 + 2))] :: .pointer (some ⟨w.heap.size, 0, none⟩) :: .agg cs :: .pointer (some ⟨wr.heap.size, 0, none⟩) :: .int .i64 (X (k * 3)) :: .pointer (some ⟨wr.heap.size, 1, none⟩) :: .int .i64 (X (k * 3 + 1)) :: .func (.func 62) #[] #[.pointer (some ⟨wr.heap.size + 1 + 1, 0, none⟩), .pointer (some ⟨wr.heap.size + 1 + 1 + 1, 0, none⟩), .pointer (some ⟨wr.heap.size + 1, 0, none⟩)] :: rd (A k x) (B k x) (Z k x) (S k x) :: .int .i64 (mn k x) :: v29 :: v30 :: v31 :: v32 :: v33 :: v34 :: undef :: undef :: undef :: undef :: undef :: undef :: undef :: undef :: undef :: undef :: undef :: undef :: undef :: undef :: undef :: undef :: undef :: undef :: undef :: undef :: u55 :: undef :: []), defers := [] }) ?_ ?_
        · gi_region_o
          all_goals exact ⟨rfl, rfl, _, _, _, _, _, _, rfl⟩
        rintro e a' w' ⟨rfl, rfl, v29, v30, v31, v32, v33, v34, rfl⟩
        gi_wp2_with fail
        refine ⟨trivial, ?_⟩
        refine (CallsIn.inRound l (callsIn_wide.2 (HLL.out (A k x) (B k x) (Z k x) (S k x) (X (k * 3 + 2)) _))).mono ?_
        rintro e w5 ⟨rfl, u5⟩
        have U5 : Up W w5 := (Up.refl W).drew.trans u5
        have q3 := U5.blk h3
        have q2 := U5.blk y2
        have q4 := h4.kept (up_grown U5) (by simp)
        have qk : D.Kb (wr.heap.size + 1) w3.heap.size W w5 := fun b _ hb => U5.block b (by omega)
        obtain ⟨ga, hga⟩ : ∃ v, lA (A k x) (B k x) (Z k x) (X (k * 3 + 2)) = v := ⟨_, rfl⟩
        obtain ⟨gb, hgb⟩ : ∃ v, lB (A k x) (B k x) (Z k x) (X (k * 3 + 2)) = v := ⟨_, rfl⟩
        obtain ⟨gc, hgc⟩ : ∃ v, lC (A k x) (B k x) (Z k x) (X (k * 3 + 2)) = v := ⟨_, rfl⟩
        obtain ⟨t1, t2, t3⟩ := hl' (A k x) (B k x) (Z k x) (X (k * 3 + 2))
        rw [hga, hgb, hgc]
        rw [hga] at t1
        rw [hgb] at t2
        rw [hgc] at t3
        clear u5 c2 c3 c4 f3 cx y2 h4
        have c2 : w5.cell? ⟨w.heap.size + 1 + 1, 0, none⟩ = some (.map (some (w.heap.size + 1))) := cellB q2 0
        have c3 : w5.cell? ⟨w.heap.size + 1 + 1 + 1, 0, none⟩ = some (.int .i64 (D.twP (fun j => lA (A k j) (B k j) (Z k j) (X (k * 3 + 2))) (fun j => lB (A k j) (B k j) (Z k j) (X (k * 3 + 2))) (fun j => lC (A k j) (B k j) (Z k j) (X (k * 3 + 2))) (fun j => D.mask (mn k j) (S k j)) (D.twS np N A B Z S mn lA lB lC X k) pre).2) := cellB q3 0
        have f3 := frozB q3 0
        have z5 := blk_lt q3
        have z6 := blk_lt q2
        have hkey := keyOf_rd t1 t2 t3 D.in64_zero
        gi_wp2_with (gi_at_lookup; refine wpListIn_lookup_own_int _ rfl _ _ 96 rfl 34 100 .u64 lawRd Try.underlying96 Try.underlying100 (zeroU _) (w.heap.size + 1) (n + pre.length) _ rfl (q4.alloc _) _ _ rfl hkey ?_; intro c hat hwc)
        obtain ⟨W6, hW6⟩ : ∃ W6, w5.alloc (.cells #[.int .i64 ga, .int .i64 gb, .int .i64 gc, .int .i64 0] 34) = W6 := ⟨_, rfl⟩
        have U6 : Up W W6 := by rw [← hW6]; exact U5.alloc _
        have m2 : mblk W6 _ = _ := U6.blk ((h2 _ (by omega) (by omega) (by omega)).trans e2)
        have m3 : mblk W6 _ = _ := U6.blk h3
        have m4 : W6.ownsMap Try.prog 34 (plainElem (H := Nat) Try.prog 100) (w.heap.size + 1) (n + pre.length) M' := by rw [← hW6]; exact q4.alloc _
        have mY : mblk W6 w5.heap.size = some (.cells #[.int .i64 ga, .int .i64 gb, .int .i64 gc, .int .i64 0] 34) := by rw [← hW6]; exact blk_new _ _ _ rfl
        rw [hW6]
        have hc := hM5.2 ga gb gc t1 t2 t3
        rw [hat] at hc
        obtain rfl : c = (D.twP (fun j => lA (A k j) (B k j) (Z k j) (X (k * 3 + 2))) (fun j => lB (A k j) (B k j) (Z k j) (X (k * 3 + 2))) (fun j => lC (A k j) (B k j) (Z k j) (X (k * 3 + 2))) (fun j => D.mask (mn k j) (S k j)) (D.twS np N A B Z S mn lA lB lC X k) pre).1 ga gb gc := by simpa using hc
        obtain ⟨s0, hs0⟩ : ∃ s0, D.twP (fun j => lA (A k j) (B k j) (Z k j) (X (k * 3 + 2))) (fun j => lB (A k j) (B k j) (Z k j) (X (k * 3 + 2))) (fun j => lC (A k j) (B k j) (Z k j) (X (k * 3 + 2))) (fun j => D.mask (mn k j) (S k j)) (D.twS np N A B Z S mn lA lB lC X k) pre = s0 := ⟨_, rfl⟩
        rw [hs0] at m3 hM5 hwc ⊢
        obtain ⟨Y, hYe⟩ : ∃ Y, w5.heap.size = Y := ⟨_, rfl⟩
        rw [hYe] at mY ⊢
        have z7 : W.heap.size ≤ Y := by rw [← hYe]; exact U5.size
        clear hW6 q3 q2 q4 c2 c3 f3 hat hc U5 qk z5 z6 hYe
        have z5 := blk_lt h3
        have d3 : W6.cell? ⟨w.heap.size + 1 + 1 + 1, 0, none⟩ = some (.int .i64 s0.2) := cellB m3 0
        have f3 := frozB m3 0
        obtain ⟨msk, hmsk⟩ : ∃ v, D.mask (mn k x) (S k x) = v := ⟨_, rfl⟩
        rw [hmsk]
        refine wpIn_mono (Q := fun e a' w' => e = .normal ∧ w' = (W6.setCell ⟨w.heap.size + 1 + 1 + 1, 0, none⟩ (.int .i64 (IntKind.i64.wrap (s0.2 + D.pop (bits .and .u64 (s0.1 ga gb gc) msk))))).drew ∧ ∃ v29 v30 v31 v32 v33 v34 v35 v36 v37 v38 v39 v40 v41 v42 v43 v44 v45 v46 v47 v48 v49, a' = { tmps := List.toArray ((.agg ts : Value) :: .pointer (some ⟨w.heap.size, 0, none⟩) :: .int .i64 0 :: .pointer (some ⟨w.heap.size + 1 + 1, 0, none⟩) :: .pointer (some ⟨w.heap.size + 1 + 1 + 1, 0, none⟩) :: undef :: .pointer (some ⟨wr.heap.size, 0, none⟩) :: .pointer (some ⟨Bx, 0, none⟩) :: .int .i64 (mn k x) :: .int .u64 msk :: .pointer (some ⟨Y, 0, none⟩) :: .int .u64 (s0.1 ga gb gc) :: .map (some (w.heap.size + 1)) :: .agg ts :: .slice (some ⟨g, 0, none⟩) np cap :: .int .i64 np :: .int .i64 k :: .bool true :: .pointer (some ⟨g, k * 3, none⟩) :: .agg #[.int .i64 (X (k * 3)), .int .i64 (X (k * 3 + 1)), .int .i64 (X (k * 3 + 2))] :: .pointer (some ⟨w.heap.size, 0, none⟩) :: .agg cs :: .pointer (some ⟨wr.heap.size, 0, none⟩) :: .int .i64 (X (k * 3)) :: .pointer (some ⟨wr.heap.size, 1, none⟩) :: .int .i64 (X (k * 3 + 1)) :: .func (.func 62) #[] #[.pointer (some ⟨wr.heap.size + 1 + 1, 0, none⟩), .pointer (some ⟨wr.heap.size + 1 + 1 + 1, 0, none⟩), .pointer (some ⟨wr.heap.size + 1, 0, none⟩)] :: rd (A k x) (B k x) (Z k x) (S k x) :: .int .i64 (mn k x) :: v29 :: v30 :: v31 :: v32 :: v33 :: v34 :: v35 :: v36 :: v37 :: v38 :: v39 :: v40 :: v41 :: v42 :: v43 :: v44 :: v45 :: v46 :: v47 :: v48 :: v49 :: undef :: undef :: undef :: undef :: undef :: u55 :: undef :: []), defers := [] }) ?_ ?_
        · gi_region_with_o (refine ⟨trivial, ?_⟩; gi_at_call 52; refine (CallsIn.inRound l (callsIn_wide.2 (ones_any _ _))).mono ?_; rintro e w' ⟨rfl, rfl⟩)
          all_goals exact ⟨rfl, rfl, _, _, _, _, _, _, _, _, _, _, _, _, _, _, _, _, _, _, _, _, _, rfl⟩
        rintro e a' w' ⟨rfl, rfl, v29, v30, v31, v32, v33, v34, v35, v36, v37, v38, v39, v40, v41, v42, v43, v44, v45, v46, v47, v48, v49, rfl⟩
        obtain ⟨W7, hW7⟩ : ∃ W7, (W6.setCell ⟨w.heap.size + 1 + 1 + 1, 0, none⟩ (.int .i64 (IntKind.i64.wrap (s0.2 + D.pop (bits .and .u64 (s0.1 ga gb gc) msk))))).drew = W7 := ⟨_, rfl⟩
        have g7 : W6.grownBy W7 (some (w.heap.size + 1 + 1 + 1)) := by
          rw [← hW7]
          exact ⟨rfl, rfl, rfl, by simp [World.setCell, World.drew], fun b _ hb => Below.heap_setCell _ _ _ _ (fun e => hb (by rw [e]))⟩
        have n3 : mblk W7 (w.heap.size + 1 + 1 + 1) = some (.cells #[.int .i64 (IntKind.i64.wrap (s0.2 + D.pop (bits .and .u64 (s0.1 ga gb gc) msk)))] 3) := by
          rw [← hW7, blk_drew, blk_put m3]
          rfl
        have U7 : Up w W7 := by rw [← hW7]; exact ((h6.trans U6).set (p := ⟨w.heap.size + 1 + 1 + 1, 0, none⟩) (by simp; omega) _).drew
        rw [hW7]
        have z8 := blk_lt m2
        have z9 := blk_lt mY
        have n2 : mblk W7 _ = _ := (g7.block _ z8 (by simp)).trans m2
        have nY : mblk W7 _ = _ := (g7.block _ z9 (by simp; omega)).trans mY
        have n4 := m4.kept g7 (by simp)
        have c2 : W7.cell? ⟨w.heap.size + 1 + 1, 0, none⟩ = some (.map (some (w.heap.size + 1))) := cellB n2 0
        clear m2 m3 mY d3 f3 hW7
        gi_wp2_with (gi_at_mapUpdate; refine wpListIn_mapUpdate_own _ rfl _ _ _ 96 rfl 34 100 lawRd Try.underlying96 _ (w.heap.size + 1) (n + pre.length) _ rfl n4 (by have := hN k; unfold maxLen; omega) _ _ _ rfl rfl hkey _ [] (plainElem_int Try.underlying100 (wf_bits _ _ _ _)) ?_; intro w8 hown8 hgrow8)
        have hs8 : ∀ b, b < W.heap.size → b ≠ w.heap.size + 1 → b ≠ w.heap.size + 1 + 1 + 1 → mblk w8 b = mblk W b := fun b hb r1 r2 =>
          (hgrow8.block b (by have := U6.size; have := g7.size; omega) (fun e => r1 (Option.some.inj e))).trans ((g7.block b (by have := U6.size; omega) (fun e => r2 (Option.some.inj e))).trans (U6.block b hb))
        have hz8 : W.heap.size ≤ w8.heap.size := by have := U6.size; have := g7.size; have := hgrow8.size; omega
        have e8 := D.twP_snoc (fun j => lA (A k j) (B k j) (Z k j) (X (k * 3 + 2))) (fun j => lB (A k j) (B k j) (Z k j) (X (k * 3 + 2))) (fun j => lC (A k j) (B k j) (Z k j) (X (k * 3 + 2))) (fun j => D.mask (mn k j) (S k j)) (D.twS np N A B Z S mn lA lB lC X k) pre x
        rw [hs0, hga, hgb, hgc, hmsk] at e8
        refine ⟨⟨hz8, fun b o hb ho _ => (hs8 b (Array.getElem?_eq_some_iff.1 ho).1 (by omega) (by omega)).trans ho⟩, fun b f1 f2 => hs8 b (by omega) (by omega) (by omega), ⟨by omega, fun b hb r1 r2 => (hs8 b (by omega) r1 r2).trans (h2 b hb r1 r2)⟩, ⟨?_, M'.put (D.key ga gb gc 0) (.lit (.int .u64 (bits .or .u64 (s0.1 ga gb gc) msk))), ?_, ?_⟩, U7.grown hgrow8 (fun j e => by have := Option.some.inj e; omega)⟩
        · rw [e8, D.tw1, ← iw]
          exact (hgrow8.block (w.heap.size + 1 + 1 + 1) (blk_lt n3) (fun e => by have := Option.some.inj e; omega)).trans n3
        · rw [List.length_append]
          exact hown8
        · rw [e8]
          exact hM5.put t1 t2 t3 _
      case done =>
        rintro d xs W hd rfl ⟨⟨h1, h2⟩, ⟨h3, M', h4, h5⟩, h6⟩ hKd
        have hNk := hN k
        rw [List.length_range] at h4
        gi_wp2
        refine Handed.intro (np - (k + 1)) (by omega) (hJ _ _ _ ?_)
        refine ⟨_, _, _, _, _, _, _, _, _, _, _, _, k + 1, n + N k, d :: Ds, M', by omega, rfl, rfl, ⟨List.nodup_cons.2 ⟨fun hm => ?_, hnd⟩, fun e he => ?_⟩, ?_, ?_, h3, h4, h5, by omega, fun j hj => ?_, by omega, h6⟩
        · have := hDs d hm
          have : d < wr.heap.size := (Array.getElem?_eq_some_iff.1 this.2).1
          omega
        · rcases List.mem_cons.1 he with rfl | he
          · exact ⟨by omega, hKd⟩
          · obtain ⟨q1, q2⟩ := hDs e he
            have q3 : e < wr.heap.size := (Array.getElem?_eq_some_iff.1 q2).1
            exact ⟨q1, (h2 e (by omega) (by omega) (by omega)).trans ((V13.block e q3).trans q2)⟩
        · exact (h2 _ (by omega) (by omega) (by omega)).trans e0
        · exact (h2 _ (by omega) (by omega) (by omega)).trans e2
        · exact (cell_blk (h2 g (by have := V13.size; omega) (by omega) (by omega)) j).trans (ec j hj)
    · obtain rfl : k = np := by omega
      have c3 : wr.cell? ⟨w.heap.size + 1 + 1 + 1, 0, none⟩ = _ := cellB k3 0
      gi_wp2
      refine leaves_marks Ds wr hnd (fun d hd => (hDs d hd).2) (fun W' a1 a2 a3 a4 a5 => ?_)
      exact ⟨_, results_tmp rfl _ _ _, rfl, a1.trans V1.os, a2.trans V1.tape, a3.trans V1.output, by rw [a4]; exact V1.size, fun b hb => (a5 b (fun hm => by have := (hDs b hm).1; omega)).trans (V1.block b hb)⟩

end Go.Proofs.Ytghelfbigbdkkaa
