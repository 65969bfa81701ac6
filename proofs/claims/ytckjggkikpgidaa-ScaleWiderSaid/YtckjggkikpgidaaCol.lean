import Derived.Test.YtckjggkikpgidaaAdd
import Derived.RangeFuncBox
/- The contracts of Collect, of what all ticks can add, and of reach. -/
namespace Go.Proofs.Ytckjggkikpgidaa
open Go.RowKit Go.Shelf
attribute [local go_sem] Oper.semAt_some

theorem cell_ints {w : World} {b : Nat} {cs : Array Value} (h : mblk w b = some (.cells cs 26 (0, 0))) (j : Nat) : w.cell? ⟨b, j, none⟩ = cs[j]? := cellB h j
attribute [go_sem] cell_ints
theorem keeps_grown {base size n : Nat} {e : TypeId} {W W' : World} {v : Value} {xs : List Value} (ho : W.ownsRow base e size v n xs) (hg : W.grownBy W' v.ownBlock) : KeepsOthers W W' where
  size := hg.size
  same := fun k o hk hc => by
    refine (hg.block k (Array.getElem?_eq_some_iff.1 hk).1 (fun e' => ?_)).trans hk
    obtain ⟨_, ⟨rfl, _⟩ | ⟨g, cap, cur, rfl, _, hb, _⟩⟩ := ho
    · cases e'
    · injection e' with e'
      subst e'
      rw [hb] at hk
      cases hk
      simp [Obj.isCells] at hc
theorem ints_of_row {W : World} {base n : Nat} {v : Value} {xs : List Int} (ho : W.ownsRow base 3 1 v n (xs.map (Value.int .i64))) (hn : n ≤ 1000000) : Ints W v xs := by
  obtain ⟨hl, ⟨rfl, rfl⟩ | ⟨g, cap, cur, rfl, _, hb, h1, h2, h3, h4⟩⟩ := ho
  · rw [List.length_map] at hl
    rw [List.length_eq_zero_iff.1 (show xs.length = 0 by omega)]
    exact Ints.nil _
  · rw [List.length_map] at hl
    obtain rfl : n = xs.length := by omega
    refine Ints.new (show mblk W g = _ from hb) h1 (by omega) fun j hj => ?_
    have q : (cur.toList.take (xs.length * 1))[j]? = (xs.map (Value.int .i64))[j]? := by rw [h4]
    rw [List.getElem?_take_of_lt (by omega), Array.getElem?_toList, List.getElem?_map, List.getElem?_eq_getElem hj] at q
    rw [q, List.getD_eq_getElem?_getD, List.getElem?_eq_getElem hj]
    rfl
theorem row_block {W : World} {base size n : Nat} {e : TypeId} {v : Value} {xs : List Value} (ho : W.ownsRow base e size v n xs) {b : Nat} (hb : b < base) : some b ≠ v.ownBlock := by
  obtain ⟨_, ⟨rfl, _⟩ | ⟨g, cap, cur, rfl, hg, _⟩⟩ := ho
  · simp [Value.ownBlock]
  · simp [Value.ownBlock]; omega
theorem row_base {W : World} {base size n : Nat} {e : TypeId} {v : Value} {xs : List Value} (ho : W.ownsRow base e size v n xs) (k : Nat) (hk : v.ownBlock = some k) : base ≤ k := by
  obtain ⟨_, ⟨rfl, _⟩ | ⟨g, cap, cur, rfl, hg, _⟩⟩ := ho
  · simp [Value.ownBlock] at hk
  · simp [Value.ownBlock] at hk; omega

theorem cell_of_mark {W : World} {D : Nat} (hK : W.heap[D]? = some (.deferred (some []))) (j : Nat) : W.cell? ⟨D, j, none⟩ = none := by simp [World.cell?, hK]
theorem cell_blk {X Y : World} {b : Nat} (h : Y.heap[b]? = X.heap[b]?) (j : Nat) : Y.cell? ⟨b, j, none⟩ = X.cell? ⟨b, j, none⟩ := by simp only [World.cell?, h]
theorem Ints.mark {W : World} {v : Value} {xs : List Int} (h : Ints W v xs) {D : Nat} (hK : W.heap[D]? = some (.deferred (some []))) (o : Obj) : Ints (W.putObj D o) v xs := by
  obtain ⟨a, c, rfl, hc, hl, hm⟩ := h.is
  refine ⟨a, c, rfl, hc, hl, fun h0 => ?_⟩
  obtain ⟨g, off, rfl, gl, hx⟩ := hm h0
  have hne : g ≠ D := fun e => by
    have := hx 0 h0
    rw [e, cell_of_mark hK] at this
    cases this
  exact ⟨g, off, rfl, by simpa using gl, fun j hj => (cell_blk (World.putObj_heap_other hne) _).trans (hx j hj)⟩
theorem row_slice {W : World} {base size n : Nat} {e : TypeId} {v : Value} {xs : List Value} (ho : W.ownsRow base e size v (n + 1) xs) : ∃ g cap, v = .slice (some ⟨g, 0, none⟩) (n + 1) cap ∧ base ≤ g := by
  obtain ⟨_, ⟨_, h⟩ | ⟨g, cap, cur, rfl, hg, _⟩⟩ := ho
  · omega
  · exact ⟨g, cap, rfl, hg⟩
theorem row_val {W : World} {base size n : Nat} {e : TypeId} {v : Value} {xs : List Value} (ho : W.ownsRow base e size v n xs) : ∃ a cap, v = .slice a n cap ∧ n ≤ cap ∧ cap ≤ maxLen := by
  obtain ⟨_, ⟨rfl, rfl⟩ | ⟨g, cap, cur, rfl, hg, _, h1, h2, _⟩⟩ := ho
  · exact ⟨none, 0, rfl, Nat.le_refl _, Nat.zero_le _⟩
  · exact ⟨_, cap, rfl, h1, h2⟩
theorem row_cells {W : World} {base size n : Nat} {e : TypeId} {v : Value} {xs : List Value} (ho : W.ownsRow base e size v n xs) {row : Option Nat} (hr : ∀ r, row = some r → ∃ o : Obj, W.heap[r]? = some o ∧ o.isCells = false) : v.ownBlock = none ∨ v.ownBlock ≠ row := by
  obtain ⟨_, ⟨rfl, _⟩ | ⟨g, cap, cur, rfl, hg, hb, _⟩⟩ := ho
  · exact .inl rfl
  · refine .inr fun e => ?_
    obtain ⟨o, h1, h2⟩ := hr g e.symm
    rw [hb] at h1
    cases h1
    simp [Obj.isCells] at h2

set_option maxRecDepth 100000 in
set_option maxHeartbeats 1000000 in
theorem appendSeq_adds {f s j p : Int} (hp : p = 0 ∨ p = 1 ∨ p = 2) {T : Nat} (hT : T ≤ 200) (b5 b3 b4 m nn : Nat) (M : DataW Nat) (hM : S.MapIs M (S.knows f s j)) (w : World) (gm : m < w.heap.size)
    (h5 : mblk w b5 = some (.cells #[.int .i64 T] 3 (0, 0))) (h3 : mblk w b3 = some (.cells #[.map (some m)] 86 (0, 0))) (h4 : mblk w b4 = some (.cells #[.int .i64 p] 87 (0, 0))) (ho : S.Own w m nn M) :
    Calls Try.prog 113 #[.slice none 0 0, .func (.func 114) #[] #[.pointer (some ⟨b5, 0, none⟩), .pointer (some ⟨b3, 0, none⟩), .pointer (some ⟨b4, 0, none⟩)]] w fun e w' => ∃ v, e = .returned v ∧ Up w w' ∧ Ints w' v (S.list (S.add (S.part f s p) j T) T 0) := by
  have hst := adds_stops (f := f) (s := s) hp hT (5 - 1) (by omega) b5 b3 b4 m nn M hM w w.heap.size w.heap.size (Nat.le_refl _) (blk_lt h5) (blk_lt h3) (blk_lt h4) gm ⟨by have := blk_lt h5; omega, by have := blk_lt h3; omega, by have := blk_lt h4; omega, by omega⟩ h5 h3 h4 ho
  obtain ⟨val, hval⟩ : ∃ val, S.add (S.part f s p) j T = val := ⟨_, rfl⟩
  rw [hval] at hst ⊢
  obtain ⟨i0, hi, hz0, hz1, hz2⟩ := info_parts Try.infoInt
  have hU := Try.underlying26
  clear hM h5 h3 h4 ho hval hp
  refine (callsIn_wide (n := 5)).1 ?_
  refine callsIn_of_wp_marks Try.func113 rfl trivial ?_ rfl
  simp only [Try.ntmps113, List.size_toArray, List.length_cons, List.length_nil, Nat.reduceAdd, Nat.reduceSub, Array.replicate_succ, Array.replicate_zero, List.push_toArray, List.append_toArray, List.nil_append, List.cons_append]
  gi_wp2_with fail
  obtain ⟨W0, hW0⟩ : ∃ W0, w.alloc (.cells #[.slice none 0 0] 26) = W0 := ⟨_, rfl⟩
  have U0 : Up w W0 := by rw [← hW0]; exact (Up.refl w).alloc _
  have k0 : mblk W0 w.heap.size = some (.cells #[.slice none 0 0] 26 (0, 0)) := by rw [← hW0]; exact blk_new _ _ _ rfl
  have zs : W0.heap.size = w.heap.size + 1 := by rw [← hW0]; simp
  rw [hW0]
  clear hW0
  refine wpIn_rangeFunc_ownH (F := Fence.wide) (n := 5) rfl (by omega) (gf := 114) (lb := #[.pointer (some ⟨b5, 0, none⟩), .pointer (some ⟨b3, 0, none⟩), .pointer (some ⟨b4, 0, none⟩)]) rfl trivial (enters_of Try.func114 (by kernel_rfl) rfl)
    hst S.kx_t (S.kx_b (by omega)) U0 (fun _ => rfl)
    (fun pre W => (∃ v, mblk W w.heap.size = some (.cells #[v] 26 (0, 0)) ∧ W.ownsRow (w.heap.size + 1) 3 1 v pre.length ((pre.map val).map (Value.int .i64))) ∧ Up w W)
    (fun _ _ _ => False)
    (fun pre X Y row hs hg hr => by
      obtain ⟨⟨v, h1, h2⟩, h3⟩ := hs
      have hX := h3.size
      refine ⟨⟨v, (hg.block _ (blk_lt h1) (fun e => ?_)).trans h1, h2.kept hg (row_cells h2 (fun r e => (hr r e).2))⟩, h3.grown hg (fun k e => by have := (hr k e).1; omega)⟩
      have := (hr _ e.symm).1; omega)
    (fun _ _ _ _ _ hs _ _ => hs)
    ⟨⟨_, k0, rfl, .inl ⟨rfl, rfl⟩⟩, U0⟩
    (fun x a' W => a' = { tmps := #[.slice none 0 0, .func (.func 114) #[] #[.pointer (some ⟨b5, 0, none⟩), .pointer (some ⟨b3, 0, none⟩), .pointer (some ⟨b4, 0, none⟩)], .pointer (some ⟨w.heap.size, 0, none⟩), undef, .slice none 0 0, .int .i64 (val x), .func (.func 114) #[] #[.pointer (some ⟨b5, 0, none⟩), .pointer (some ⟨b3, 0, none⟩), .pointer (some ⟨b4, 0, none⟩)], .int .i64 (val x), undef, undef, undef, undef, undef], defers := [] })
    (fun x a' _ X Y row hs hg hr => hs)
    ?assign ?body ?done ?stop
  case assign =>
    rintro l pre x W K hI hK
    gi_wp2
    exact hK _ _ (KeepsFrom.refl _ _) (S.kx_of (Below.refl _ _)) hI rfl
  case body =>
    rintro l pre x a' W hl ⟨r, hr⟩ ⟨⟨v, h1, h2⟩, h3⟩ rfl hlt
    have hsz := h3.size
    have lt1 := blk_lt h1
    have c1 := cellB h1
    have z1 := frozB h1
    have bnd : pre.length ≤ 200 := by omega
    have HE := Lib.hid (show ((pre ++ [x]).map val).map (Value.int .i64) = (pre.map val).map (Value.int .i64) ++ [.int .i64 (val x)] by simp)
    have HL := Lib.hid (show (pre ++ [x]).length = pre.length + 1 by simp)
    generalize val x = vx at *
    gi_wp2_with (gi_at_builtin; refine wpListIn_append_own _ rfl (.tmp 8) (.tmp 10) 26 rfl (w.heap.size + 1) 3 i0 (.int .i64 0) 1 8 hU hi hz0 hz1 hz2 rfl (by decide) _ pre.length _ rfl (h2.alloc _) ⟨W.heap.size, 0, none⟩ 1 1 [.int .i64 vx] rfl rfl (cell_one_new _ _ _) (by simp [Value.oneCell']) (by unfold maxLen; omega) (by omega) (by simp; omega) ?_; intro v' w3 hown3 hgrow3 hv3; obtain ⟨g, cap, rfl, hg⟩ := row_slice hown3; have x3 := grown_blk hgrow3 (blk_keep _ h1) (row_block h2 (by omega)); have z3 := frozB x3)
    have K1 : KeepsOthers W w3 := (KeepsOthers.alloc W _).trans (keeps_grown (h2.alloc _) hgrow3)
    have B1 : Below w.heap.size W w3 := ((Below.refl w.heap.size W).alloc hsz _).grown hgrow3 (by simp; omega) (fun k e => by have := row_base h2 k e; omega)
    have G3 := grownBy_setCell' w3 w.heap.size (.slice (some ⟨g, 0, none⟩) (pre.length + 1) cap)
    have H3 := hown3.kept G3 (.inr (by simp [Value.ownBlock]; omega))
    exact ⟨(K1.trans (KeepsOthers.setCell _ _ _)).from _, S.kx_of (B1.setCell (p := ⟨w.heap.size, 0, none⟩) (Nat.le_refl _) _), ⟨_, blk_put x3 0 _, by rw [HL.out, HE.out]; exact H3⟩, (Below.trans h3 B1).setCell (p := ⟨w.heap.size, 0, none⟩) (Nat.le_refl _) _⟩
  case done =>
    rintro D ys W hD rfl ⟨⟨v, h1, h2⟩, h3⟩ hK
    have c1 := cellB h1
    rw [List.length_range] at h2
    have hI := Lib.hid (ints_of_row h2 (by omega))
    have e1 : (List.range T).map val = S.list val T 0 := by rw [S.list_is]; simp
    rw [e1] at hI
    clear h2 e1
    gi_wp2
    refine ⟨by simp, .inl ⟨_, _, rfl, run_takeDeferred hK, ?_⟩⟩
    exact ⟨_, results_tmp rfl _ _ _, _, rfl, Below.trans h3 (belowK_b (w := w) (Nat.le_refl _) _ D _ _ (by omega) hK rfl rfl), hI.out.mark hK _⟩
  case stop =>
    rintro D c pre W hD hp hF hK
    exact hF.elim

end Go.Proofs.Ytckjggkikpgidaa
