import Derived.Test.YtcadpdbadgejfaaFol
/- The contract of narrow. -/
namespace Go.Proofs.Ytcadpdbadgejfaa
open Go.RowKit Go.Shelf
attribute [local go_sem] Oper.semAt_some run_offStore_row

section
variable {f s j : Int} {a a' : Option Addr} {n1 c n2 c' : Nat}
set_option maxRecDepth 100000 in
set_option maxHeartbeats 8000000 in
theorem narrow_any {b : S.Bk} (hb : b.Good) {o : S.Ofs} (hF : S.Fine o) {cs : Array Value} (hcs : S.OC cs o) {w : World} (I : Ints w (.slice a n1 c) b.steer) (I' : Lks w (.slice a' n2 c') b.looks) :
    Calls Try.prog 93 #[BV f s j b.lo b.hi b.ticks (.slice a n1 c) (.slice a' n2 c'), .agg cs] w fun e w' => ∃ (cs' : Array Value) (o' : S.Ofs) (r : Bool), e = .returned (.tuple #[.agg cs', .bool r]) ∧ S.OC cs' o' ∧ Up w w' ∧ (r = true → b.Left o o') ∧ (r = false → b.Holds o → ∀ v, ¬ b.Tru v) := by
  have HI := Lib.hid I
  have HL := Lib.hid I'
  have HG := Lib.hid hb
  have HF := Lib.hid hF
  have HO := Lib.hid hcs
  have t60 := hb.t2
  have t1 := hb.t1
  clear I I' hF hcs hb
  refine (callsIn_wide (n := 5)).1 ?_
  refine callsIn_of_wp_marks Try.func93 rfl trivial ?_ rfl
  simp only [Try.ntmps93, List.size_toArray, List.length_cons, List.length_nil, Nat.reduceAdd, Nat.reduceSub, Array.replicate_succ, Array.replicate_zero, List.push_toArray, List.append_toArray, List.nil_append, List.cons_append]
  gi_wp2_with fail
  refine wpIn_wide.2 (wp_scope_straight ((wpIn_wide (n := 5)).1 ?_))
  gi_wp2_with fail
  rename_i K9 hK9
  refine wpIn_label (hK9 _ _ ?_)
  clear hK9 K9
  obtain ⟨W0, hW0⟩ : ∃ W0, (((w.alloc (.cells (BC f s j b.lo b.hi b.ticks (.slice a n1 c) (.slice a' n2 c')) 104)).alloc (.cells cs 108)).alloc (.cells OZ 108)).alloc (.cells #[.bool true] 4) = W0 := ⟨_, rfl⟩
  have U0 : Up w W0 := by rw [← hW0]; exact (((Up.refl w).alloc _).alloc _ |>.alloc _).alloc _
  have k2 : mblk W0 w.heap.size = some (.cells (BC f s j b.lo b.hi b.ticks (.slice a n1 c) (.slice a' n2 c')) 104 (0, 0)) := by rw [← hW0]; exact blk_keep _ (blk_keep _ (blk_keep _ (blk_new _ _ _ rfl)))
  have k3 : mblk W0 (w.heap.size + 1) = some (.cells cs 108 (0, 0)) := by rw [← hW0]; exact blk_keep _ (blk_keep _ (blk_new _ _ _ (by simp)))
  have k4 : mblk W0 (w.heap.size + 1 + 1) = some (.cells OZ 108 (0, 0)) := by rw [← hW0]; exact blk_keep _ (blk_new _ _ _ (by simp))
  have k6 : mblk W0 (w.heap.size + 1 + 1 + 1) = some (.cells #[.bool true] 4 (0, 0)) := by rw [← hW0]; exact blk_new _ _ _ (by simp)
  rw [hW0]
  clear hW0
  have ew : IntKind.i64.wrap ((b.ticks : Int) + 1) = (b.ticks : Int) + 1 := IntWalk.i64_in _ (by omega)
  gi_wp2_with fail
  clear ew
  refine wpIn_loop_ghost_k (fun gk x wr => ∃ (u7 u14 u15 u16 u17 u18 u19 u37 : Value) (k : Nat) (Ds : List Nat) (ck : Array Value) (ok : S.Ofs), k ≤ b.ticks + 1 ∧ gk = b.ticks + 1 - k ∧ x = { tmps := List.toArray ((BV f s j b.lo b.hi b.ticks (.slice a n1 c) (.slice a' n2 c') : Value) :: .agg cs :: .pointer (some ⟨w.heap.size, 0, none⟩) :: .pointer (some ⟨w.heap.size + 1, 0, none⟩) :: .pointer (some ⟨w.heap.size + 1 + 1, 0, none⟩) :: .bool false :: .pointer (some ⟨w.heap.size + 1 + 1 + 1, 0, none⟩) :: u7 :: undef :: .pointer (some ⟨w.heap.size, 0, none⟩) :: .pointer (some ⟨w.heap.size, 5, none⟩) :: .int .i64 b.ticks :: .int .i64 (b.ticks + 1) :: .int .i64 k :: u14 :: u15 :: u16 :: u17 :: u18 :: u19 :: undef :: undef :: undef :: undef :: undef :: undef :: undef :: undef :: undef :: undef :: undef :: undef :: undef :: undef :: undef :: undef :: undef :: u37 :: undef :: undef :: []), defers := Ds.map S.mark } ∧
      (Ds.Nodup ∧ ∀ d, d ∈ Ds → w.heap.size + 4 ≤ d ∧ wr.heap[d]? = some (.deferred (some []))) ∧ mblk wr w.heap.size = some (.cells (BC f s j b.lo b.hi b.ticks (.slice a n1 c) (.slice a' n2 c')) 104 (0, 0)) ∧ mblk wr (w.heap.size + 1) = some (.cells ck 108 (0, 0)) ∧ mblk wr (w.heap.size + 1 + 1) = some (.cells OZ 108 (0, 0)) ∧ mblk wr (w.heap.size + 1 + 1 + 1) = some (.cells #[.bool true] 4 (0, 0)) ∧
      S.OC ck ok ∧ b.Nar o ok k 0 ∧ Up w wr) (b.ticks + 1) ?start ?round
  case start => exact ⟨_, _, _, _, _, _, _, _, 0, [], cs, o, Nat.zero_le _, rfl, rfl, ⟨List.nodup_nil, fun d hd => by cases hd⟩, k2, k3, k4, k6, HO.out, S.Bk.Nar.start HF.out, U0⟩
  case round =>
    clear k2 k3 k4 k6 U0 W0
    rintro gk x wr ⟨u7, u14, u15, u16, u17, u18, u19, u37, k, Ds, ck, ok, hk, rfl, rfl, ⟨hnd, hDs⟩, k2, k3, k4, k6, hck, hN, V⟩ J K hJ hK
    have hs := Lib.hid hck.size
    by_cases hlt : k ≤ b.ticks
    · have hlt' : (k : Int) < (b.ticks : Int) + 1 := by omega
      have l6 := blk_lt k6
      gi_wp2_with fail
      obtain ⟨W1, hW1⟩ : ∃ W1, wr.alloc (.cells #[.int .i64 k] 3) = W1 := ⟨_, rfl⟩
      have V1 : Up wr W1 := by rw [← hW1]; exact (Up.refl wr).alloc _
      have e7 : mblk W1 wr.heap.size = some (.cells #[.int .i64 k] 3 (0, 0)) := by rw [← hW1]; exact blk_new _ _ _ rfl
      have z1 : W1.heap.size = wr.heap.size + 1 := by rw [← hW1]; simp
      rw [hW1]
      clear hW1
      refine ⟨trivial, (callsIn_wide.2 (bounds_any ck k W1)).mono ?_⟩
      rintro e w3 ⟨rfl, hw3⟩
      have hb1 : mblk w3 W1.heap.size = some (.cells (BC f s j b.lo b.hi b.ticks (.slice a n1 c) (.slice a' n2 c')) 104 (0, 0)) := by rw [← hw3]; exact blk_keep _ (blk_keep _ (blk_new _ _ _ rfl))
      have hb3 : mblk w3 (W1.heap.size + 1) = some (.cells ck 108 (0, 0)) := by rw [← hw3]; exact blk_keep _ (blk_new _ _ _ (by simp))
      have hb2 : mblk w3 (W1.heap.size + 1 + 1) = some (.cells #[.int .i64 k] 3 (0, 0)) := by rw [← hw3]; exact blk_new _ _ _ (by simp)
      have V3 : Up W1 w3 := by rw [← hw3]; exact ((Up.refl W1).alloc _).alloc _ |>.alloc _
      have z3 : w3.heap.size = W1.heap.size + 3 := by rw [← hw3]; simp
      have V13 := V1.trans V3
      have f7 := V3.blk e7
      have f2 := V13.blk k2
      have f3 := V13.blk k3
      have f4 := V13.blk k4
      have f6 := V13.blk k6
      have VV := V.trans V13
      rw [z1] at hb1 hb2 hb3 z3
      clear hw3 e7 k2 k3 k4 k6 V1 V3
      gi_wp2_with fail
      refine wpIn_rangeFunc_ownH (F := Fence.wide) (n := 5) rfl (by omega) (gf := 116) (lb := #[.pointer (some ⟨wr.heap.size + 1, 0, none⟩), .pointer (some ⟨wr.heap.size + 1 + 1 + 1, 0, none⟩), .pointer (some ⟨wr.heap.size + 1 + 1, 0, none⟩)]) rfl trivial (enters_of Try.func116 (by kernel_rfl) rfl)
        (bounds_stops HG.out hN.fine hlt hck (n := 5 - 1) (by omega) (sb := w.heap.size + 1) (S.Same.of VV) (by omega) hb1 hb2 hb3 HI.out HL.out ⟨by omega, by omega, by omega⟩) S.ky_t (S.ky_b (Nat.le_refl _)) (Below.refl _ _) (fun _ => rfl)
        (fun pre W => S.Ky (w.heap.size + 1) w3.heap.size w3 W ∧ (∃ cq, mblk W (w.heap.size + 1) = some (.cells cq 108 (0, 0)) ∧ S.OC cq (S.put ok k (S.fo (ok k) pre))) ∧ (S.fo (ok k) pre).1 ≤ (S.fo (ok k) pre).2 ∧ Up w W)
        (fun cd pre W => (cd = .exit 0 ∧ ¬ (S.fo (ok k) pre).1 ≤ (S.fo (ok k) pre).2) ∧ ((∀ bb, bb < w3.heap.size → bb ≠ w.heap.size + 1 → bb ≠ w.heap.size + 1 + 1 + 1 → W.heap[bb]? = w3.heap[bb]?) ∧ w3.heap.size ≤ W.heap.size) ∧ mblk W (w.heap.size + 1 + 1 + 1) = some (.cells #[.bool false] 4 (0, 0)) ∧ (∃ cq oq, mblk W (w.heap.size + 1) = some (.cells cq 108 (0, 0)) ∧ S.OC cq oq) ∧ Up w W)
        ?hI ?hIx ?h0
        (fun x af W => ∃ Bx, w3.heap.size ≤ Bx ∧ mblk W Bx = some (.cells #[.int .i64 x.1, .int .i64 x.2] 23 (0, 0)) ∧ af = { tmps := List.toArray ((BV f s j b.lo b.hi b.ticks (.slice a n1 c) (.slice a' n2 c') : Value) :: .agg cs :: .pointer (some ⟨w.heap.size, 0, none⟩) :: .pointer (some ⟨w.heap.size + 1, 0, none⟩) :: .pointer (some ⟨w.heap.size + 1 + 1, 0, none⟩) :: .bool false :: .pointer (some ⟨w.heap.size + 1 + 1 + 1, 0, none⟩) :: .pointer (some ⟨wr.heap.size, 0, none⟩) :: .pointer (some ⟨Bx, 0, none⟩) :: .pointer (some ⟨w.heap.size, 0, none⟩) :: .pointer (some ⟨w.heap.size, 5, none⟩) :: .int .i64 b.ticks :: .int .i64 (b.ticks + 1) :: .int .i64 k :: .bool true :: .int .i64 k :: BV f s j b.lo b.hi b.ticks (.slice a n1 c) (.slice a' n2 c') :: .agg ck :: .int .i64 k :: .func (.func 116) #[] #[.pointer (some ⟨wr.heap.size + 1, 0, none⟩), .pointer (some ⟨wr.heap.size + 1 + 1 + 1, 0, none⟩), .pointer (some ⟨wr.heap.size + 1 + 1, 0, none⟩)] :: SpV x.1 x.2 :: undef :: undef :: undef :: undef :: undef :: undef :: undef :: undef :: undef :: undef :: undef :: undef :: undef :: undef :: undef :: undef :: u37 :: undef :: undef :: []), defers := [] })
        ?hAx ?assign ?body ?done ?stop
      case hI =>
        rintro pre X Y row ⟨h1, ⟨cq, h2, h3⟩, h4, h5⟩ hg hr
        have nb : ∀ bb, bb < w3.heap.size → Y.heap[bb]? = X.heap[bb]? := fun bb hb => hg.block bb (by have := h1.2; omega) (fun e => by have := (hr bb e.symm).1; omega)
        exact ⟨⟨fun bb hb hn => (nb bb hb).trans (h1.1 bb hb hn), Nat.le_trans h1.2 hg.size⟩, ⟨cq, (nb _ (by have := blk_lt f3; omega)).trans h2, h3⟩, h4, h5.grown hg (fun jj e => by have := (hr jj e).1; have := VV.size; omega)⟩
      case hIx =>
        rintro cd pre X Y row ⟨h1, h2, h3, ⟨cq, oq, h4, h5⟩, h6⟩ hg hr
        have nb : ∀ bb, bb < w3.heap.size → Y.heap[bb]? = X.heap[bb]? := fun bb hb => hg.block bb (by have := h2.2; omega) (fun e => by have := (hr bb e.symm).1; omega)
        exact ⟨h1, ⟨fun bb hb n1 n2 => (nb bb hb).trans (h2.1 bb hb n1 n2), Nat.le_trans h2.2 hg.size⟩, (nb _ (by have := blk_lt f6; omega)).trans h3, ⟨cq, oq, (nb _ (by have := blk_lt f3; omega)).trans h4, h5⟩, h6.grown hg (fun jj e => by have := (hr jj e).1; have := VV.size; omega)⟩
      case h0 => exact ⟨⟨fun _ _ _ => rfl, Nat.le_refl _⟩, ⟨ck, f3, by rw [show S.fo (ok k) [] = ok k from rfl, S.put_id]; exact hck⟩, (hN.fine k).2.1, VV⟩
      case hAx =>
        rintro x af _ X Y row ⟨Bx, h1, h2, h3⟩ hg hr
        exact ⟨Bx, h1, (hg.block Bx (blk_lt h2) (fun e => by obtain ⟨_, o, ho, hc⟩ := hr Bx e.symm; rw [show X.heap[Bx]? = _ from h2] at ho; cases ho; simp [Obj.isCells] at hc)).trans h2, h3⟩
      case assign =>
        rintro l pre x W K ⟨h1, ⟨cq, h2, h3⟩, h4, h5⟩ hK
        have lt2 := blk_lt h2
        gi_wp2
        exact hK _ _ ((KeepsOthers.alloc _ _).from _) ⟨fun bb hb _ => blk_past _ _ _ (by have := h1.2; omega), by simp⟩ ⟨⟨fun bb hb hn => (blk_past _ _ _ (by have := h1.2; omega)).trans (h1.1 bb hb hn), by have := h1.2; simp; omega⟩, ⟨cq, blk_keep _ h2, h3⟩, h4, h5.alloc _⟩ ⟨W.heap.size, h1.2, blk_new _ _ _ rfl, rfl⟩
      case body =>
        rintro l pre x af W hl ⟨r, hr⟩ ⟨h1, ⟨cq, h2, h3⟩, h4, h5⟩ ⟨Bx, x1, x2, rfl⟩ hlen
        clear z3 z1
        have y7 : mblk W wr.heap.size = some (.cells #[.int .i64 k] 3 (0, 0)) := (h1.1 _ (blk_lt f7) (by have := V.size; have := blk_lt f6; omega)).trans f7
        have e1 := h3.lo k (by omega)
        have e2 := h3.hi k (by omega)
        rw [S.put_self] at e1 e2
        obtain ⟨xl, xh⟩ := x
        obtain ⟨fo, hfo⟩ : ∃ fo, S.fo (ok k) pre = fo := ⟨_, rfl⟩
        rw [hfo] at e1 e2 h3
        obtain ⟨ol, oh⟩ := fo
        simp only at e1 e2 x2
        have HB := Lib.hid (fun w => both_any ol oh xl xh w)
        have hsn : Hid (S.fo (ok k) (pre ++ [(xl, xh)]) = (max ol xl, min oh xh)) := by unfold Hid; rw [S.fo_snoc, hfo]; rfl
        have h3' := Lib.hid (h3.put (t := k) (by omega) (max ol xl) (min oh xh))
        obtain ⟨nl, hnl⟩ : ∃ y, max ol xl = y := ⟨_, rfl⟩
        obtain ⟨nh, hnh⟩ : ∃ y, min oh xh = y := ⟨_, rfl⟩
        rw [hnl, hnh] at hsn h3' HB
        have lW := h1.2
        have hqs := Lib.hid h3.size
        have k61 : (k : Int) < 61 := by omega
        have lsb := blk_lt f3
        clear hfo hnl hnh h3 h4
        gi_wp2_with fail
        refine wpIn_nrm ?_
        refine regionG (fun w' => Up W w' ∧ mblk w' (w.heap.size + 1) = some (.cells cq 108 (0, 0)) ∧ mblk w' wr.heap.size = some (.cells #[.int .i64 k] 3 (0, 0)) ∧ mblk w' Bx = some (.cells #[.int .i64 xl, .int .i64 xh] 23 (0, 0))) 7 (by kernel_rfl) ⟨(Up.refl W).drew, by rw [blk_drew]; exact h2, by rw [blk_drew]; exact y7, by rw [blk_drew]; exact x2⟩ (fun hHeld hCl => ?_)
        refine takeG (i := 0) (d := (some 21)) (v := ?v1) rfl rfl (by kernel_rfl) (by kernel_rfl) (by decide) hCl (by kernel_rfl) (by kernel_rfl) (by kernel_rfl) (fun _ _ _ h => h) (by rfl) ?hy1 (fun _ _ _ => trivial) (by assumption) (fun hCl' => ?_)
        case hy1 => ((intro w hSw; (try dsimp only at hSw); (try go_split_ands); go_simp); try with_reducible rfl)
        simp only [Act.put, List.setIfInBounds_toArray, List.set_cons_zero, List.set_cons_succ]
        replace hCl := hCl'; clear hCl'
        refine takeG (i := 1) (d := (some 22)) (v := ?v2) rfl rfl (by kernel_rfl) (by kernel_rfl) (by decide) hCl (by kernel_rfl) (by kernel_rfl) (by kernel_rfl) (fun _ _ _ h => h) (by rfl) ?hy2 (fun _ _ _ => trivial) (by assumption) (fun hCl' => ?_)
        case hy2 => ((intro w hSw; (try dsimp only at hSw); (try go_split_ands); go_simp); try with_reducible rfl)
        simp only [Act.put, List.setIfInBounds_toArray, List.set_cons_zero, List.set_cons_succ]
        replace hCl := hCl'; clear hCl'
        refine takeG (i := 2) (d := (some 23)) (v := ?v3) rfl rfl (by kernel_rfl) (by kernel_rfl) (by decide) hCl (by kernel_rfl) (by kernel_rfl) (by kernel_rfl) (fun _ _ _ h => h) (by rfl) ?hy3 (fun _ _ _ => trivial) (by assumption) (fun hCl' => ?_)
        case hy3 => ((intro w hSw; (try dsimp only at hSw); (try go_split_ands); go_simp); try with_reducible rfl)
        simp only [Act.put, List.setIfInBounds_toArray, List.set_cons_zero, List.set_cons_succ]
        replace hCl := hCl'; clear hCl'
        refine takeG (i := 3) (d := (some 24)) (v := ?v4) rfl rfl (by kernel_rfl) (by kernel_rfl) (by decide) hCl (by kernel_rfl) (by kernel_rfl) (by kernel_rfl) (fun _ _ _ h => h) (by rfl) ?hy4 (fun _ _ _ => trivial) (by assumption) (fun hCl' => ?_)
        case hy4 => ((intro w hSw; (try dsimp only at hSw); (try go_split_ands); go_simp); try with_reducible rfl)
        simp only [Act.put, List.setIfInBounds_toArray, List.set_cons_zero, List.set_cons_succ]
        replace hCl := hCl'; clear hCl'
        refine takeG (i := 4) (d := (some 25)) (v := ?v5) rfl rfl (by kernel_rfl) (by kernel_rfl) (by decide) hCl (by kernel_rfl) (by kernel_rfl) (by kernel_rfl) (fun _ _ _ h => h) (by rfl) ?hy5 (fun _ _ _ => trivial) (by assumption) (fun hCl' => ?_)
        case hy5 => ((intro w hSw; (try dsimp only at hSw); (try go_split_ands); go_simp); try with_reducible rfl)
        simp only [Act.put, List.setIfInBounds_toArray, List.set_cons_zero, List.set_cons_succ]
        replace hCl := hCl'; clear hCl'
        refine nextG (i := 5) (by kernel_rfl) rfl (by rfl) hCl (fun K hK => ?_)
        go_simp
        refine ⟨trivial, (CallsIn.inRound l (callsIn_wide.2 (HB.out _))).mono ?_⟩
        rintro e w4 ⟨rfl, u4⟩
        refine hK.out _ _ ⟨hHeld.1.trans u4, u4.blk hHeld.2.1, u4.blk hHeld.2.2.1, u4.blk hHeld.2.2.2⟩ (fun hHeld hCl => ?_)
        clear hK K u4
        refine takeG (i := 6) (d := (some 27)) (v := ?v7) rfl rfl (by kernel_rfl) (by kernel_rfl) (by decide) hCl (by kernel_rfl) (by kernel_rfl) (by kernel_rfl) (fun _ _ _ h => h) (by rfl) ?hy7 (fun _ _ _ => trivial) (by assumption) (fun hCl' => ?_)
        case hy7 => ((intro w hSw; (try dsimp only at hSw); (try go_split_ands); go_simp); try with_reducible rfl)
        simp only [Act.put, List.setIfInBounds_toArray, List.set_cons_zero, List.set_cons_succ]
        replace hCl := hCl'; clear hCl'
        obtain ⟨U4, m3, m7, _⟩ := hHeld
        have z3' := frozB m3
        have c3' := cellB m3
        have hq1 : k * 2 < cq.size := by rw [hqs.out]; omega
        have hq2 : k * 2 + 1 < cq.size := by rw [hqs.out]; omega
        clear hCl
        refine lastG (i := 7) (by kernel_rfl) rfl (by rfl) (by decide) (fun K hK => ?_)
        go_simp
        obtain ⟨W2, hW2⟩ : ∃ W2, (w4.setCell ⟨w.heap.size + 1, k * 2, none⟩ (.int .i64 nl)).setCell ⟨w.heap.size + 1, k * 2 + 1, none⟩ (.int .i64 nh) = W2 := ⟨_, rfl⟩
        obtain ⟨cr, hcr⟩ : ∃ cr, (cq.setIfInBounds (k * 2) (.int .i64 nl)).setIfInBounds (k * 2 + 1) (.int .i64 nh) = cr := ⟨_, rfl⟩
        have p3 : mblk W2 (w.heap.size + 1) = some (.cells cr 108 (0, 0)) := by rw [← hW2, ← hcr]; exact blk_put (blk_put m3 _ _) _ _
        have po : ∀ bb, bb ≠ w.heap.size + 1 → mblk W2 bb = mblk w4 bb := fun bb hn => by rw [← hW2, blk_set _ _ _ _ hn, blk_set _ _ _ _ hn]
        have pz : W2.heap.size = w4.heap.size := by rw [← hW2]; simp [World.setCell]
        have hU2 : Up w W2 := by rw [← hW2]; exact ((h5.trans U4).set (by show w.heap.size ≤ w.heap.size + 1; omega) _).set (by show w.heap.size ≤ w.heap.size + 1; omega) _
        have h3r := h3'.out
        rw [hcr, S.put_put] at h3r
        have p7 : mblk W2 wr.heap.size = some (.cells #[.int .i64 k] 3 (0, 0)) := (po _ (by have := blk_lt f6; have := V13.size; have := V.size; omega)).trans m7
        have pk : ∀ bb, bb < W.heap.size → bb ≠ w.heap.size + 1 → W2.heap[bb]? = W.heap[bb]? := fun bb hb hn => (po bb hn).trans (U4.block bb hb)
        have pz2 : W.heap.size ≤ W2.heap.size := by have := U4.size; omega
        rw [hW2]
        refine hK.out _ _ ?_
        clear hK K z3' c3' m3 m7 U4 hW2 po pz
        refine doneG (by kernel_rfl) ?_ _
        refine S.nrm_intro ?_
        have r1 := h3r.lo k (by omega)
        have r2 := h3r.hi k (by omega)
        rw [S.put_self] at r1 r2
        simp only at r1 r2
        clear h3' hcr hq1 hq2 y7 x2 h2 e1 e2 HB hqs
        gi_wp2_with fail
        refine wpIn_nrm ?_
        refine regionG (fun w' => mblk w' (w.heap.size + 1) = some (.cells cr 108 (0, 0)) ∧ mblk w' wr.heap.size = some (.cells #[.int .i64 k] 3 (0, 0))) 8 (by kernel_rfl) ⟨by rw [blk_drew]; exact p3, by rw [blk_drew]; exact p7⟩ (fun hHeld hCl => ?_)
        refine takeG (i := 0) (d := (some 28)) (v := ?v9) rfl rfl (by kernel_rfl) (by kernel_rfl) (by decide) hCl (by kernel_rfl) (by kernel_rfl) (by kernel_rfl) (fun _ _ _ h => h) (by rfl) ?hy9 (fun _ _ _ => trivial) (by assumption) (fun hCl' => ?_)
        case hy9 => ((intro w hSw; (try dsimp only at hSw); (try go_split_ands); go_simp); try with_reducible rfl)
        simp only [Act.put, List.setIfInBounds_toArray, List.set_cons_zero, List.set_cons_succ]
        replace hCl := hCl'; clear hCl'
        refine takeG (i := 1) (d := (some 29)) (v := ?v10) rfl rfl (by kernel_rfl) (by kernel_rfl) (by decide) hCl (by kernel_rfl) (by kernel_rfl) (by kernel_rfl) (fun _ _ _ h => h) (by rfl) ?hy10 (fun _ _ _ => trivial) (by assumption) (fun hCl' => ?_)
        case hy10 => ((intro w hSw; (try dsimp only at hSw); (try go_split_ands); go_simp); try with_reducible rfl)
        simp only [Act.put, List.setIfInBounds_toArray, List.set_cons_zero, List.set_cons_succ]
        replace hCl := hCl'; clear hCl'
        refine takeG (i := 2) (d := (some 30)) (v := ?v11) rfl rfl (by kernel_rfl) (by kernel_rfl) (by decide) hCl (by kernel_rfl) (by kernel_rfl) (by kernel_rfl) (fun _ _ _ h => h) (by rfl) ?hy11 (fun _ _ _ => trivial) (by assumption) (fun hCl' => ?_)
        case hy11 => ((intro w hSw; (try dsimp only at hSw); (try go_split_ands); go_simp); try with_reducible rfl)
        simp only [Act.put, List.setIfInBounds_toArray, List.set_cons_zero, List.set_cons_succ]
        replace hCl := hCl'; clear hCl'
        refine takeG (i := 3) (d := (some 31)) (v := ?v12) rfl rfl (by kernel_rfl) (by kernel_rfl) (by decide) hCl (by kernel_rfl) (by kernel_rfl) (by kernel_rfl) (fun _ _ _ h => h) (by rfl) ?hy12 (fun _ _ _ => trivial) (by assumption) (fun hCl' => ?_)
        case hy12 => ((intro w hSw; (try dsimp only at hSw); (try go_split_ands); go_simp); try with_reducible rfl)
        simp only [Act.put, List.setIfInBounds_toArray, List.set_cons_zero, List.set_cons_succ]
        replace hCl := hCl'; clear hCl'
        refine takeG (i := 4) (d := (some 32)) (v := ?v13) rfl rfl (by kernel_rfl) (by kernel_rfl) (by decide) hCl (by kernel_rfl) (by kernel_rfl) (by kernel_rfl) (fun _ _ _ h => h) (by rfl) ?hy13 (fun _ _ _ => trivial) (by assumption) (fun hCl' => ?_)
        case hy13 => ((intro w hSw; (try dsimp only at hSw); (try go_split_ands); go_simp); try with_reducible rfl)
        simp only [Act.put, List.setIfInBounds_toArray, List.set_cons_zero, List.set_cons_succ]
        replace hCl := hCl'; clear hCl'
        refine takeG (i := 5) (d := (some 33)) (v := ?v14) rfl rfl (by kernel_rfl) (by kernel_rfl) (by decide) hCl (by kernel_rfl) (by kernel_rfl) (by kernel_rfl) (fun _ _ _ h => h) (by rfl) ?hy14 (fun _ _ _ => trivial) (by assumption) (fun hCl' => ?_)
        case hy14 => ((intro w hSw; (try dsimp only at hSw); (try go_split_ands); go_simp); try with_reducible rfl)
        simp only [Act.put, List.setIfInBounds_toArray, List.set_cons_zero, List.set_cons_succ]
        replace hCl := hCl'; clear hCl'
        refine takeG (i := 6) (d := (some 34)) (v := ?v15) rfl rfl (by kernel_rfl) (by kernel_rfl) (by decide) hCl (by kernel_rfl) (by kernel_rfl) (by kernel_rfl) (fun _ _ _ h => h) (by rfl) ?hy15 (fun _ _ _ => trivial) (by assumption) (fun hCl' => ?_)
        case hy15 => ((intro w hSw; (try dsimp only at hSw); (try go_split_ands); go_simp); try with_reducible rfl)
        simp only [Act.put, List.setIfInBounds_toArray, List.set_cons_zero, List.set_cons_succ]
        replace hCl := hCl'; clear hCl'
        refine takeG (i := 7) (d := (some 35)) (v := ?v16) rfl rfl (by kernel_rfl) (by kernel_rfl) (by decide) hCl (by kernel_rfl) (by kernel_rfl) (by kernel_rfl) (fun _ _ _ h => h) (by rfl) ?hy16 (fun _ _ _ => trivial) (by assumption) (fun hCl' => ?_)
        case hy16 => ((intro w hSw; (try dsimp only at hSw); (try go_split_ands); go_simp); try with_reducible rfl)
        simp only [Act.put, List.setIfInBounds_toArray, List.set_cons_zero, List.set_cons_succ]
        replace hCl := hCl'; clear hCl'
        clear hHeld hCl
        refine lastG (i := 8) (by kernel_rfl) rfl (by rfl) (by decide) (fun K hK => ?_)
        go_simp
        refine hK.out _ _ ?_
        clear hK K
        refine doneG (by kernel_rfl) ?_ _
        refine S.nrm_intro ?_
        have KF : KeepsFrom w3.heap.size W W2.drew := ⟨pz2, fun bb o hb ho _ => (pk bb (Array.getElem?_eq_some_iff.1 ho).1 (by omega)).trans ho⟩
        have lfl := blk_lt f6
        by_cases hgt : nl > nh
        · have q6 : mblk W2.drew (w.heap.size + 1 + 1 + 1) = some (.cells #[.bool true] 4 (0, 0)) := (pk _ (by omega) (by omega)).trans ((h1.1 _ (by omega) (by omega)).trans f6)
          have z6 := frozB q6
          have c6 := cellB q6
          gi_wp2
          obtain ⟨W6, hW6⟩ : ∃ W6, (W2.setCell ⟨w.heap.size + 1 + 1 + 1, 0, none⟩ (.bool false)).drew = W6 := ⟨_, rfl⟩
          have o6 : ∀ bb, bb ≠ w.heap.size + 1 + 1 + 1 → W6.heap[bb]? = W2.heap[bb]? := fun bb hn => by rw [← hW6]; exact blk_set _ _ _ _ hn
          have s6 : W6.heap.size = W2.heap.size := by rw [← hW6]; simp [World.setCell, World.drew]
          have b6 : mblk W6 (w.heap.size + 1 + 1 + 1) = some (.cells #[.bool false] 4 (0, 0)) := by rw [← hW6]; exact blk_put q6 0 _
          have U6 : Up w W6 := by rw [← hW6]; exact (hU2.set (by show w.heap.size ≤ w.heap.size + 1 + 1 + 1; omega) _).drew
          try rw [hW6]
          refine ⟨⟨by omega, fun bb o hb ho _ => ?_⟩, ?_, ⟨fun bb hb n1 n2 => ?_, by omega⟩, b6, ⟨cr, (o6 _ (by omega)).trans p3, _, h3r⟩, U6⟩
          · have lt := (Array.getElem?_eq_some_iff.1 ho).1
            exact (o6 bb (by omega)).trans ((pk bb lt (by omega)).trans ho)
          · rw [hsn.out]; exact ⟨rfl, by show nh < nl; omega⟩
          · exact (o6 bb n2).trans ((pk bb (by omega) n1).trans (h1.1 bb hb n1))
        · gi_wp2
          refine ⟨KF, ⟨fun bb hb hn => pk bb (by omega) hn, pz2⟩, ⟨⟨fun bb hb hn => (pk bb (by omega) hn).trans (h1.1 bb hb hn), by have : W2.drew.heap.size = W2.heap.size := rfl; omega⟩, ⟨cr, p3, by rw [hsn.out]; exact h3r⟩, by rw [hsn.out]; show nl ≤ nh; omega, hU2.drew⟩⟩
      case done =>
        rintro d xs W hd rfl ⟨h1, ⟨cq, h2, h3⟩, h4, h5⟩ hKd
        have hN2 := hN.whole hlt h4
        gi_wp2
        refine Handed.intro (b.ticks + 1 - (k + 1)) (by omega) (hJ _ _ _ ?_)
        refine ⟨_, _, _, _, _, _, _, _, k + 1, d :: Ds, cq, _, by omega, rfl, rfl, ⟨List.nodup_cons.2 ⟨fun hm => ?_, hnd⟩, fun e he => ?_⟩, (h1.1 _ (blk_lt f2) (by omega)).trans f2, h2, (h1.1 _ (blk_lt f4) (by omega)).trans f4, (h1.1 _ (blk_lt f6) (by omega)).trans f6, h3, hN2, h5⟩
        · have := hDs d hm
          have : d < wr.heap.size := (Array.getElem?_eq_some_iff.1 this.2).1
          omega
        · rcases List.mem_cons.1 he with rfl | he
          · exact ⟨by have := VV.size; omega, hKd⟩
          · obtain ⟨q1, q2⟩ := hDs e he
            have q3 : e < wr.heap.size := (Array.getElem?_eq_some_iff.1 q2).1
            exact ⟨q1, (h1.1 e (by omega) (by omega)).trans ((V13.block e q3).trans q2)⟩
      case stop =>
        rintro d cd pre W hd hp ⟨⟨rfl, h1⟩, h2, h3, ⟨cq, oq, h4, h5⟩, h6⟩ hKd
        gi_wp2_with fail
        have g3 := h4
        have g6 := h3
        have g4 : mblk W (w.heap.size + 1 + 1) = some (.cells OZ 108 (0, 0)) := (h2.1 _ (blk_lt f4) (by omega) (by omega)).trans f4
        have UW := h6
        have hs5 := Lib.hid h5.size
        have hok5 := h5.one
        have hdl : d < W.heap.size := (Array.getElem?_eq_some_iff.1 hKd).1
        have hDs' : ∀ e, e ∈ Ds → w.heap.size + 4 ≤ e ∧ e < w3.heap.size ∧ W.heap[e]? = some (.deferred (some [])) := fun e he => by
          obtain ⟨q1, q2⟩ := hDs e he
          have q3 : e < wr.heap.size := (Array.getElem?_eq_some_iff.1 q2).1
          exact ⟨q1, by omega, (h2.1 e (by omega) (by omega) (by omega)).trans ((V13.block e q3).trans q2)⟩
        have hnd' : (d :: Ds).Nodup := List.nodup_cons.2 ⟨fun hm => by have := hDs' d hm; omega, hnd⟩
        have hw3 : w.heap.size + 4 ≤ w3.heap.size := by have := blk_lt f6; omega
        have hnr : w.heap.size + 1 + 1 ∉ d :: Ds := fun hm => by
          rcases List.mem_cons.1 hm with e | hm
          · omega
          · have := hDs' _ hm; omega
        have hnw : ∀ bb, bb < w.heap.size → bb ∉ d :: Ds := fun bb hb hm => by
          rcases List.mem_cons.1 hm with e | hm
          · omega
          · have := hDs' _ hm; omega
        clear h2 h4 h3 f2 f3 f4 f6 f7 hb1 hb2 hb3
        refine wpIn_nrm ?_
        refine regionG (fun w' => (Up w w' ∧ (∀ bb, bb < W.heap.size → bb ≠ w.heap.size + 1 + 1 → w'.heap[bb]? = W.heap[bb]?) ∧ W.heap.size ≤ w'.heap.size) ∧ mblk w' (w.heap.size + 1) = some (.cells cq 108 (0, 0)) ∧ mblk w' (w.heap.size + 1 + 1 + 1) = some (.cells #[.bool false] 4 (0, 0)) ∧ ∃ q, Hid (q.size = 122) ∧ mblk w' (w.heap.size + 1 + 1) = some (.cells q 108 (0, 0))) 3 (by kernel_rfl) ⟨⟨UW.drew, fun _ _ _ => rfl, Nat.le_refl _⟩, by rw [blk_drew]; exact g3, by rw [blk_drew]; exact g6, OZ, Lib.hid OZ_size, by rw [blk_drew]; exact g4⟩ (fun hHeld hCl => ?_)
        refine takeG (i := 0) (d := (some 38)) (v := ?v18) rfl rfl (by kernel_rfl) (by kernel_rfl) (by decide) hCl (by kernel_rfl) (by kernel_rfl) (by kernel_rfl) (fun _ _ _ h => h) (by rfl) ?hy18 (fun _ _ _ => trivial) (by assumption) (fun hCl' => ?_)
        case hy18 => ((intro w hSw; (try dsimp only at hSw); (try go_split_ands); go_simp); try with_reducible rfl)
        simp only [Act.put, List.setIfInBounds_toArray, List.set_cons_zero, List.set_cons_succ]
        replace hCl := hCl'; clear hCl'
        refine takeG (i := 1) (d := (some 39)) (v := ?v19) rfl rfl (by kernel_rfl) (by kernel_rfl) (by decide) hCl (by kernel_rfl) (by kernel_rfl) (by kernel_rfl) (fun _ _ _ h => h) (by rfl) ?hy19 (fun _ _ _ => trivial) (by assumption) (fun hCl' => ?_)
        case hy19 => ((intro w hSw; (try dsimp only at hSw); (try go_split_ands); go_simp); try with_reducible rfl)
        simp only [Act.put, List.setIfInBounds_toArray, List.set_cons_zero, List.set_cons_succ]
        replace hCl := hCl'; clear hCl'
        obtain ⟨q, hq, kq⟩ := hHeld.2.2.2
        refine nextG (i := 2) (by kernel_rfl) rfl (by rfl) hCl (fun K hK => ?_)
        go_simp
        have kd : mblk (W.drew.setRow (w.heap.size + 1 + 1) cq) (w.heap.size + 1 + 1) = some (.cells cq 108 (0, 0)) := blk_setRow kq _
        obtain ⟨W5, hW5⟩ : ∃ W5, W.drew.setRow (w.heap.size + 1 + 1) cq = W5 := ⟨_, rfl⟩
        have hkeep : ∀ bb, bb < W.heap.size → bb ≠ w.heap.size + 1 + 1 → W5.heap[bb]? = W.heap[bb]? := fun bb _ hn => by
          rw [← hW5]
          show (World.setRow _ _ _).heap[bb]? = _
          simp only [World.setRow, Array.getElem?_modify]
          rw [if_neg (Ne.symm hn)]
          rfl
        have hsz : W.heap.size ≤ W5.heap.size := by rw [← hW5]; show _ ≤ (World.setRow _ _ _).heap.size; simp only [World.setRow, Array.size_modify]; exact Nat.le_refl _
        have U5 : Up w W5 := by rw [← hW5]; exact UW.drew.setRow (by omega) _
        have g3' : mblk W5 (w.heap.size + 1) = some (.cells cq 108 (0, 0)) := (hkeep _ (blk_lt g3) (by omega)).trans g3
        have g6' : mblk W5 (w.heap.size + 1 + 1 + 1) = some (.cells #[.bool false] 4 (0, 0)) := (hkeep _ (blk_lt g6) (by omega)).trans g6
        rw [hW5] at kd ⊢
        refine hK.out _ _ ⟨⟨U5, hkeep, hsz⟩, g3', g6', cq, hs5, kd⟩ (fun _ hCl => ?_)
        clear hK K kq hq q hHeld
        refine lastG (i := 3) (by kernel_rfl) rfl (by rfl) (by decide) (fun K hK => ?_)
        go_simp
        refine hK.out _ _ ?_
        clear hK K
        refine doneG (by kernel_rfl) ?_ _
        refine S.nrm_intro ?_
        gi_wp2
        refine leaves_marks (d :: Ds) W5 hnd' (fun e he => by
                  rcases List.mem_cons.1 he with rfl | he
                  · exact (hkeep _ hdl (by omega)).trans hKd
                  · have := hDs' e he
                    exact (hkeep _ ((Array.getElem?_eq_some_iff.1 this.2.2).1) (by omega)).trans this.2.2) ?_
        intro W' a1 a2 a3 a4 a5
        have hfin : mblk W' (w.heap.size + 1 + 1) = some (.cells cq 108 (0, 0)) := (a5 _ hnr).trans kd
        exact ⟨_, results_off rfl _ _ (w.heap.size + 1 + 1) cq rfl hfin hs5.out, cq, oq, false, rfl, h5, ⟨a1.trans U5.os, a2.trans U5.tape, a3.trans U5.output, by rw [a4]; exact U5.size, fun bb hb => (a5 bb (hnw bb hb)).trans (U5.block bb hb)⟩, (fun e => by cases e), fun _ h0 => hN.nothing hlt hp (by omega) h0⟩
    · obtain rfl : k = b.ticks + 1 := by omega
      gi_wp2_with fail
      have g3 := k3
      have g6 := k6
      have g4 := k4
      have UW := V
      have hs5 := hs
      have hok5 := hck.one
      have hnr : w.heap.size + 1 + 1 ∉ Ds := fun hm => by have := hDs _ hm; omega
      have hnw : ∀ bb, bb < w.heap.size → bb ∉ Ds := fun bb hb hm => by have := hDs _ hm; omega
      clear k2 k3 k4 k6
      refine wpIn_nrm ?_
      refine regionG (fun w' => (Up w w' ∧ (∀ bb, bb < wr.heap.size → bb ≠ w.heap.size + 1 + 1 → w'.heap[bb]? = wr.heap[bb]?) ∧ wr.heap.size ≤ w'.heap.size) ∧ mblk w' (w.heap.size + 1) = some (.cells ck 108 (0, 0)) ∧ mblk w' (w.heap.size + 1 + 1 + 1) = some (.cells #[.bool true] 4 (0, 0)) ∧ ∃ q, Hid (q.size = 122) ∧ mblk w' (w.heap.size + 1 + 1) = some (.cells q 108 (0, 0))) 3 (by kernel_rfl) ⟨⟨UW.drew, fun _ _ _ => rfl, Nat.le_refl _⟩, by rw [blk_drew]; exact g3, by rw [blk_drew]; exact g6, OZ, Lib.hid OZ_size, by rw [blk_drew]; exact g4⟩ (fun hHeld hCl => ?_)
      refine takeG (i := 0) (d := (some 38)) (v := ?v22) rfl rfl (by kernel_rfl) (by kernel_rfl) (by decide) hCl (by kernel_rfl) (by kernel_rfl) (by kernel_rfl) (fun _ _ _ h => h) (by rfl) ?hy22 (fun _ _ _ => trivial) (by assumption) (fun hCl' => ?_)
      case hy22 => ((intro w hSw; (try dsimp only at hSw); (try go_split_ands); go_simp); try with_reducible rfl)
      simp only [Act.put, List.setIfInBounds_toArray, List.set_cons_zero, List.set_cons_succ]
      replace hCl := hCl'; clear hCl'
      refine takeG (i := 1) (d := (some 39)) (v := ?v23) rfl rfl (by kernel_rfl) (by kernel_rfl) (by decide) hCl (by kernel_rfl) (by kernel_rfl) (by kernel_rfl) (fun _ _ _ h => h) (by rfl) ?hy23 (fun _ _ _ => trivial) (by assumption) (fun hCl' => ?_)
      case hy23 => ((intro w hSw; (try dsimp only at hSw); (try go_split_ands); go_simp); try with_reducible rfl)
      simp only [Act.put, List.setIfInBounds_toArray, List.set_cons_zero, List.set_cons_succ]
      replace hCl := hCl'; clear hCl'
      obtain ⟨q, hq, kq⟩ := hHeld.2.2.2
      refine nextG (i := 2) (by kernel_rfl) rfl (by rfl) hCl (fun K hK => ?_)
      go_simp
      have kd : mblk (wr.drew.setRow (w.heap.size + 1 + 1) ck) (w.heap.size + 1 + 1) = some (.cells ck 108 (0, 0)) := blk_setRow kq _
      obtain ⟨W5, hW5⟩ : ∃ W5, wr.drew.setRow (w.heap.size + 1 + 1) ck = W5 := ⟨_, rfl⟩
      have hkeep : ∀ bb, bb < wr.heap.size → bb ≠ w.heap.size + 1 + 1 → W5.heap[bb]? = wr.heap[bb]? := fun bb _ hn => by
        rw [← hW5]
        show (World.setRow _ _ _).heap[bb]? = _
        simp only [World.setRow, Array.getElem?_modify]
        rw [if_neg (Ne.symm hn)]
        rfl
      have hsz : wr.heap.size ≤ W5.heap.size := by rw [← hW5]; show _ ≤ (World.setRow _ _ _).heap.size; simp only [World.setRow, Array.size_modify]; exact Nat.le_refl _
      have U5 : Up w W5 := by rw [← hW5]; exact UW.drew.setRow (by omega) _
      have g3' : mblk W5 (w.heap.size + 1) = some (.cells ck 108 (0, 0)) := (hkeep _ (blk_lt g3) (by omega)).trans g3
      have g6' : mblk W5 (w.heap.size + 1 + 1 + 1) = some (.cells #[.bool true] 4 (0, 0)) := (hkeep _ (blk_lt g6) (by omega)).trans g6
      rw [hW5] at kd ⊢
      refine hK.out _ _ ⟨⟨U5, hkeep, hsz⟩, g3', g6', ck, hs5, kd⟩ (fun _ hCl => ?_)
      clear hK K kq hq q hHeld
      refine lastG (i := 3) (by kernel_rfl) rfl (by rfl) (by decide) (fun K hK => ?_)
      go_simp
      refine hK.out _ _ ?_
      clear hK K
      refine doneG (by kernel_rfl) ?_ _
      refine S.nrm_intro ?_
      gi_wp2
      refine leaves_marks (Ds) W5 hnd (fun e he => by
              have := hDs e he
              exact (hkeep _ ((Array.getElem?_eq_some_iff.1 this.2).1) (by omega)).trans this.2) ?_
      intro W' a1 a2 a3 a4 a5
      have hfin : mblk W' (w.heap.size + 1 + 1) = some (.cells ck 108 (0, 0)) := (a5 _ hnr).trans kd
      exact ⟨_, results_off rfl _ _ (w.heap.size + 1 + 1) ck rfl hfin hs5.out, ck, ok, true, rfl, hck, ⟨a1.trans U5.os, a2.trans U5.tape, a3.trans U5.output, by rw [a4]; exact U5.size, fun bb hb => (a5 bb (hnw bb hb)).trans (U5.block bb hb)⟩, (fun _ => hN.left (by omega)), (fun e => by cases e)⟩
end

end Go.Proofs.Ytcadpdbadgejfaa
