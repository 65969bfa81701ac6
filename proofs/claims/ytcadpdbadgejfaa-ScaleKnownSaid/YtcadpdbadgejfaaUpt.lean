import Derived.Test.YtcadpdbadgejfaaSrc
/- The contract of upTo. -/
namespace Go.Proofs.Ytcadpdbadgejfaa
open Go.RowKit Go.Shelf
attribute [local go_sem] Oper.semAt_some

set_option maxRecDepth 100000 in
set_option maxHeartbeats 2000000 in
theorem upTo_any {f s j dl dh p far : Int} (hr : S.ok f s j dl dh = true) (hp : p = 0 ∨ p = 1 ∨ p = 2) {T : Nat} (hT : T ≤ 200) (L : Int) {m : Nat} {w : World} (K : S.Know w (.map (some m)) f s j) :
    Calls Try.prog 99 #[CV m p far, .int .i64 L, .int .i64 T] w fun e w' => ∃ v, e = .returned v ∧ Up w w' ∧ Ints w' v (S.list (S.lo (S.add (S.part f s p) j T) L) T 0) := by
  obtain ⟨m', nn, M, hme, ho, hM⟩ := K.is
  injection hme with hme
  injection hme with hme
  subst hme
  obtain ⟨p1, p2⟩ := S.part_bd hr p
  obtain ⟨_, _, h3, _⟩ := S.ok_iff.1 hr
  have hvb : ∀ x, 0 ≤ S.add (S.part f s p) j T x ∧ S.add (S.part f s p) j T x ≤ 500 := fun x => by
    have := S.add_bd (e := S.part f s p) (j := j) p1 (by omega) T x; omega
  have hst := fun (w' : World) (u : Up w w') b5 b3 b4 sb n₀ g0 g5 g3 g4 gm hne q5 q3 q4 => adds_stops (f := f) (s := s) (j := j) hp hT (5 - 1) (by omega) b5 b3 b4 m nn M hM w' sb n₀ g0 g5 g3 g4 gm hne q5 q3 q4 (ho.kept (up_grown u none) (by simp))
  have gm := ho.lt
  obtain ⟨val, hval⟩ : ∃ val, S.add (S.part f s p) j T = val := ⟨_, rfl⟩
  rw [hval] at hst hvb ⊢
  have HST := Lib.hid hst
  have HVB := Lib.hid hvb
  obtain ⟨i0, hi, hz0, hz1, hz2⟩ := info_parts Try.infoInt
  have hU := Try.underlying26
  clear hM ho hval hp hst K hr hvb p1 p2 h3
  refine (callsIn_wide (n := 5)).1 ?_
  refine callsIn_of_wp_marks Try.func99 rfl trivial ?_ rfl
  simp only [Try.ntmps99, List.size_toArray, List.length_cons, List.length_nil, Nat.reduceAdd, Nat.reduceSub, Array.replicate_succ, Array.replicate_zero, List.push_toArray, List.append_toArray, List.nil_append, List.cons_append]
  gi_wp2_with fail
  obtain ⟨W0, hW0⟩ : ∃ W0, ((w.alloc (.cells #[.map (some m), .int .i64 p, .int .i64 far] 89)).alloc (.cells #[.int .i64 L] 3)).alloc (.cells #[.slice none 0 0] 26) = W0 := ⟨_, rfl⟩
  have U0 : Up w W0 := by rw [← hW0]; exact (((Up.refl w).alloc _).alloc _).alloc _
  have a1 : mblk W0 (w.heap.size + 1) = some (.cells #[.int .i64 L] 3 (0, 0)) := by rw [← hW0]; exact blk_keep _ (blk_new _ _ _ (by simp))
  have a2 : mblk W0 (w.heap.size + 1 + 1) = some (.cells #[.slice none 0 0] 26 (0, 0)) := by rw [← hW0]; exact blk_new _ _ _ (by simp)
  have zs : w.heap.size + 3 ≤ W0.heap.size := by rw [← hW0]; simp
  rw [hW0]
  clear hW0
  refine ⟨trivial, ?_⟩
  refine (callsIn_wide.2 (adds_any _ _ _ _)).mono ?_
  rintro e w2 ⟨rfl, hw2⟩
  have q3 : mblk w2 W0.heap.size = some (.cells #[.map (some m)] 86 (0, 0)) := by rw [← hw2]; exact blk_keep _ (blk_keep _ (blk_new _ _ _ rfl))
  have q4 : mblk w2 (W0.heap.size + 1) = some (.cells #[.int .i64 p] 87 (0, 0)) := by rw [← hw2]; exact blk_keep _ (blk_new _ _ _ (by simp))
  have q5 : mblk w2 (W0.heap.size + 1 + 1) = some (.cells #[.int .i64 T] 3 (0, 0)) := by rw [← hw2]; exact blk_new _ _ _ (by simp)
  have u2 : Up W0 w2 := by rw [← hw2]; exact (((Up.refl _).alloc _).alloc _).alloc _
  have zw : W0.heap.size + 3 ≤ w2.heap.size := by rw [← hw2]; simp
  have b1 := u2.blk a1
  have b2 := u2.blk a2
  have U2 := U0.trans u2
  have hst := HST.out w2 U2 (W0.heap.size + 1 + 1) W0.heap.size (W0.heap.size + 1) (w.heap.size + 1 + 1) w2.heap.size (Nat.le_refl _) (by omega) (by omega) (by omega) (by omega) ⟨by omega, by omega, by omega, by omega⟩ q5 q3 q4
  clear hw2 u2 a1 a2 q3 q4 q5 U0 HST
  gi_wp2_with fail
  obtain ⟨gv, hgv⟩ : ∃ gv, Value.func (.func 114) #[] #[.pointer (some ⟨W0.heap.size + 1 + 1, 0, none⟩), .pointer (some ⟨W0.heap.size, 0, none⟩), .pointer (some ⟨W0.heap.size + 1, 0, none⟩)] = gv := ⟨_, rfl⟩
  refine wpIn_rangeFunc_ownH (F := Fence.wide) (n := 5) rfl (by omega) (gf := 114) (lb := #[.pointer (some ⟨W0.heap.size + 1 + 1, 0, none⟩), .pointer (some ⟨W0.heap.size, 0, none⟩), .pointer (some ⟨W0.heap.size + 1, 0, none⟩)]) rfl trivial (enters_of Try.func114 (by kernel_rfl) rfl)
    hst S.kx_t (S.kx_b (by omega)) (Below.refl _ _) (fun _ => rfl)
    (fun pre W => (∃ v, mblk W (w.heap.size + 1 + 1) = some (.cells #[v] 26 (0, 0)) ∧ W.ownsRow w2.heap.size 3 1 v pre.length ((pre.map (S.lo val L)).map (Value.int .i64))) ∧ mblk W (w.heap.size + 1) = some (.cells #[.int .i64 L] 3 (0, 0)) ∧ Up w W ∧ w2.heap.size ≤ W.heap.size)
    (fun _ _ _ => False)
    (fun pre X Y row hs hg hr => by
      obtain ⟨⟨v, h1, h2⟩, h3, h4, h5⟩ := hs
      refine ⟨⟨v, (hg.block _ (blk_lt h1) (fun e => ?_)).trans h1, h2.kept hg (row_cells h2 (fun r e => (hr r e).2))⟩, (hg.block _ (blk_lt h3) (fun e => ?_)).trans h3, h4.grown hg (fun k e => by have := (hr k e).1; omega), Nat.le_trans h5 hg.size⟩
      · have := (hr _ e.symm).1; omega
      · have := (hr _ e.symm).1; omega)
    (fun _ _ _ _ _ hs _ _ => hs)
    ⟨⟨_, b2, rfl, .inl ⟨rfl, rfl⟩⟩, b1, U2, Nat.le_refl _⟩
    (fun x a' W => a' = { tmps := #[CV m p far, .int .i64 L, .int .i64 T, .pointer (some ⟨w.heap.size, 0, none⟩), .pointer (some ⟨w.heap.size + 1, 0, none⟩), undef, .slice none 0 0, .pointer (some ⟨w.heap.size + 1 + 1, 0, none⟩), .int .i64 (val x), .pointer (some ⟨w.heap.size, 0, none⟩), .map (some m), .pointer (some ⟨w.heap.size, 1, none⟩), .int .i64 p, .int .i64 T, gv, .int .i64 (val x), undef, undef, undef, undef, undef, undef, undef, undef, undef, undef, undef, undef], defers := [] })
    (fun x a' _ X Y row hs hg hr => hs)
    ?assign ?body ?done ?stop
  case assign =>
    rintro l pre x W K hI hK
    gi_wp2
    exact hK _ _ (KeepsFrom.refl _ _) (S.kx_of (Below.refl _ _)) hI (by rw [← hgv])
  case body =>
    rintro l pre x a' W hl ⟨r, hr⟩ ⟨⟨v, h1, h2⟩, h3, h4, h5⟩ rfl hlt
    have hsz := h4.size
    have lt1 := blk_lt h1
    have c1 := cellB h1
    have z1 := frozB h1
    have c3 := cellB h3
    have bnd : pre.length ≤ 200 := by omega
    have HE := Lib.hid (show ((pre ++ [x]).map (S.lo val L)).map (Value.int .i64) = (pre.map (S.lo val L)).map (Value.int .i64) ++ [.int .i64 (S.lo val L x)] by simp)
    have HL := Lib.hid (show (pre ++ [x]).length = pre.length + 1 by simp)
    obtain ⟨vb1, vb2⟩ := HVB.out x
    obtain ⟨lo, hlo⟩ : ∃ lo, S.lo val L x = lo := ⟨_, rfl⟩
    have hMn : ∀ (ts : Array TypeId) (t' : TypeId) (w : World), (Builtin.min_ ts t' #[.int .i64 (val x), .int .i64 L]).run Try.prog w = .ok (.int .i64 lo) w := fun ts t' w => by
      have e : (if L < val x then L else val x) = lo := by rw [← hlo]; unfold S.lo; split <;> omega
      rw [run_min_int2, e]
    rw [hlo] at HE
    clear hlo HVB
    generalize val x = vx at *
    gi_wp2_with (gi_at_builtin; refine wpListIn_append_own _ rfl (.tmp 16) (.tmp 20) 26 rfl w2.heap.size 3 i0 (.int .i64 0) 1 8 hU hi hz0 hz1 hz2 rfl (by decide) _ pre.length _ rfl (h2.alloc _) ⟨W.heap.size, 0, none⟩ 1 1 [.int .i64 lo] rfl rfl (cell_one_new _ _ _) (by simp [Value.oneCell']) (by unfold maxLen; omega) (by omega) (by simp; omega) ?_; intro v' w3 hown3 hgrow3 hv3; obtain ⟨g, cap, rfl, hg⟩ := row_slice hown3; have x3 := grown_blk hgrow3 (blk_keep _ h1) (row_block h2 (by omega)); have z3 := frozB x3)
    have y3 := grown_blk hgrow3 (blk_keep (.cells #[.int .i64 lo] 3) h3) (row_block h2 (by omega))
    have K1 : KeepsOthers W w3 := (KeepsOthers.alloc W _).trans (keeps_grown (h2.alloc _) hgrow3)
    have B1 : Below w2.heap.size W w3 := ((Below.refl w2.heap.size W).alloc h5 _).grown hgrow3 (by simp; omega) (fun k e => row_base h2 k e)
    have G3 := grownBy_setCell' w3 (w.heap.size + 1 + 1) (.slice (some ⟨g, 0, none⟩) (pre.length + 1) cap)
    have H3 := hown3.kept G3 (.inr (by simp [Value.ownBlock]; omega))
    have U3 := Below.trans h4 (B1.mono (by omega))
    exact ⟨(K1.trans (KeepsOthers.setCell _ _ _)).from _, fun b hb hne => (G3.block b (by have := B1.size; omega) (by simpa using hne)).trans (Below.block B1 b hb), ⟨_, blk_put x3 0 _, by rw [HL.out, HE.out]; exact H3⟩, by rw [blk_set _ _ _ _ (by show w.heap.size + 1 ≠ w.heap.size + 1 + 1; omega)]; exact y3, Up.set U3 (p := ⟨w.heap.size + 1 + 1, 0, none⟩) (by show w.heap.size ≤ w.heap.size + 1 + 1; omega) _, by have := B1.size; simpa using (show w2.heap.size ≤ w3.heap.size by omega)⟩
  case done =>
    rintro D ys W hD rfl ⟨⟨v, h1, h2⟩, h3, h4, h5⟩ hK
    rw [List.length_range] at h2
    obtain ⟨sa, cap, rfl, hc1, hc2⟩ := row_val h2
    have c1 := cellB h1
    have hI := Lib.hid (ints_of_row h2 (by omega)).clip
    have e1 : (List.range T).map (S.lo val L) = S.list (S.lo val L) T 0 := by rw [S.list_is]; simp
    rw [e1] at hI
    unfold maxLen at hc2
    clear h2 e1
    gi_wp2
    refine ⟨by simp, .inl ⟨_, _, rfl, run_takeDeferred hK, ?_⟩⟩
    exact ⟨_, results_tmp rfl _ _ _, _, rfl, Below.trans h4 (belowK_b (w := w) (Nat.le_refl _) _ D _ _ (by have := U2.size; omega) hK rfl rfl), hI.out.mark hK _⟩
  case stop =>
    rintro D c pre W hD hp hF hK
    exact hF.elim

end Go.Proofs.Ytcadpdbadgejfaa
