import Derived.Test.YtcadpdbadgejfaaAit
/- The contract of plan. -/
namespace Go.Proofs.Ytcadpdbadgejfaa
open Go.RowKit Go.Shelf
attribute [local go_sem] Oper.semAt_some

/-- the iterator's contract -/
theorem adj_stops {A : Nat → Int} (hA : ∀ x, 0 ≤ A x ∧ A x ≤ 500) {p far : Int} (hp : p = 0 ∨ p = 1 ∨ p = 2) {L : Nat} (hL : L ≤ 500) {T : Nat} (hT : T ≤ 200) {c : Int} (hc : far - S.sm (S.lo A L) T = c) (c0 : 0 ≤ c) (far2 : far ≤ 20000) {m n : Nat} (hn : 1 ≤ n) {sb b1 b2 b3 b4 : Nat} {a1 a2 : Option Addr} {d1 d2 : Nat} {w : World}
    (k1 : mblk w b1 = some (.cells #[.map (some m), .int .i64 p, .int .i64 far] 89 (0, 0))) (k3 : mblk w b3 = some (.cells #[.int .i64 T] 3 (0, 0))) (k2 : mblk w b2 = some (.cells #[.slice a1 T d1] 26 (0, 0))) (k4 : mblk w b4 = some (.cells #[.slice a2 T d2] 26 (0, 0)))
    (I1 : Ints w (.slice a1 T d1) (S.list (S.lo A L) T 0)) (I2 : Ints w (.slice a2 T d2) (S.list (S.lo A ((L : Int) + 1)) T 0)) {x0 : Option Addr} {x1 x2 : Nat} (kb : mblk w sb = some (.cells #[.slice x0 x1 x2] 26 (0, 0))) (hne : b1 ≠ sb ∧ b2 ≠ sb ∧ b3 ≠ sb ∧ b4 ≠ sb) :
    SeqStopsK Fence.wide n Try.prog 100 #[.pointer (some ⟨b1, 0, none⟩), .pointer (some ⟨b2, 0, none⟩), .pointer (some ⟨b3, 0, none⟩), .pointer (some ⟨b4, 0, none⟩)]
      (fun x : Nat => #[.int .i64 (S.sign p * S.bit A L c x)]) (S.Ky sb w.heap.size) (fun xs => xs = List.range T) (fun pre => pre <+: List.range T) T w := by
  intro l J Jx W hW hJ _ hY h0
  exact adj1_in hA hp hL hT hc c0 far2 hn k1 k3 k2 k4 I1 I2 kb hne J Jx W (S.ky_of hW)
    (fun s X Y hX hU => hJ s X Y none hX ⟨hU.os, hU.tape, hU.output, hU.size, fun j hj _ => Below.block hU j hj⟩ (by simp)) hY h0

set_option maxRecDepth 100000 in
theorem plan_no {f s j dl dh p far : Int} (hr : S.ok f s j dl dh = true) (hp : p = 0 ∨ p = 1 ∨ p = 2) {m : Nat} {w : World} (K : S.Know w (.map (some m)) f s j) {r : Nat} (hf : S.First (fun x => decide (far ≤ S.most (S.part f s p) j x)) 201 r) (h2 : 200 < r) :
    Calls Try.prog 64 #[CV m p far] w fun e w' => e = .returned (.tuple #[.slice none 0 0, .int .i64 4]) ∧ Up w w' := by
  have U := (Up.refl w).alloc (.cells #[.map (some m), .int .i64 p, .int .i64 far] 89)
  have KF := fewest_any hr hp (K.up U) hf
  rw [if_neg (by omega), if_neg (by omega)] at KF
  have HF := Lib.hid KF
  clear KF hr K hp hf h2
  go_enter Try.func64, Try.ntmps64
  go_wp2_with fail
  refine HF.out.mono ?_
  rintro e w1 ⟨rfl, u1⟩
  go_wp2
  go_ret2
  exact ⟨rfl, U.trans u1⟩

set_option maxRecDepth 100000 in
set_option maxHeartbeats 2000000 in
theorem plan_yes {f s j dl dh p far : Int} (hr : S.ok f s j dl dh = true) (hp : p = 0 ∨ p = 1 ∨ p = 2) (far1 : 0 ≤ far) (far2 : far ≤ 20000) {m : Nat} {w : World} (K : S.Know w (.map (some m)) f s j) {T : Nat} (hf : S.First (fun x => decide (far ≤ S.most (S.part f s p) j x)) 201 T) (hT : T ≤ 200) :
    Calls Try.prog 64 #[CV m p far] w fun e w' => ∃ (v : Value) (L : Nat), e = .returned (.tuple #[v, .int .i64 0]) ∧ S.Level (S.add (S.part f s p) j T) T far L ∧ Up w w' ∧ Ints w' v (S.list (fun x => S.sign p * S.bit (S.add (S.part f s p) j T) L (far - S.sm (S.lo (S.add (S.part f s p) j T) L) T) x) T 0) := by
  obtain ⟨p1, p2⟩ := S.part_bd hr p
  obtain ⟨_, _, h3, _⟩ := S.ok_iff.1 hr
  have hA : ∀ x, 0 ≤ S.add (S.part f s p) j T x ∧ S.add (S.part f s p) j T x ≤ 500 := fun x => by
    have := S.add_bd (e := S.part f s p) (j := j) p1 (by omega) T x; omega
  have U0 := ((Up.refl w).alloc (.cells #[.map (some m), .int .i64 p, .int .i64 far] 89))
  have KF := fewest_any hr hp (K.up U0) hf
  rw [if_pos hT, if_pos hT] at KF
  have HF := Lib.hid KF
  have HAd := Lib.hid (fun w' (u : Up w w') => adjustments_any (far := far) hr hp far1 hT (K.up u))
  have HA := Lib.hid hA
  have HP := Lib.hid hp
  obtain ⟨i0, hi, hz0, hz1, hz2⟩ := info_parts Try.infoInt
  have hU := Try.underlying26
  clear KF K hr hf hA p1 p2 h3 hp
  refine (callsIn_wide (n := 5)).1 ?_
  refine callsIn_of_wp_marks Try.func64 rfl trivial ?_ rfl
  simp only [Try.ntmps64, List.size_toArray, List.length_cons, List.length_nil, Nat.reduceAdd, Nat.reduceSub, Array.replicate_succ, Array.replicate_zero, List.push_toArray, List.append_toArray, List.nil_append, List.cons_append]
  gi_wp2_with fail
  refine ⟨trivial, ?_⟩
  refine (callsIn_wide.2 HF.out).mono ?_
  rintro e w1 ⟨rfl, u1⟩
  have U1 := U0.trans u1
  have kc := u1.blk (blk_new w (.cells #[.map (some m), .int .i64 p, .int .i64 far] 89) _ rfl)
  clear u1 U0 HF
  gi_wp2_with fail
  obtain ⟨W1, hW1⟩ : ∃ W1, w1.alloc (.cells #[.slice none 0 0] 26) = W1 := ⟨_, rfl⟩
  obtain ⟨sb, hsb⟩ : ∃ sb, w1.heap.size = sb := ⟨_, rfl⟩
  have kb : mblk W1 sb = some (.cells #[.slice none 0 0] 26 (0, 0)) := by rw [← hW1]; exact blk_new _ _ _ hsb.symm
  have V1 : Up w W1 := by rw [← hW1]; exact U1.alloc _
  have lsb : w.heap.size ≤ sb := by have := U1.size; omega
  rw [hW1, hsb]
  clear hW1 hsb kc U1
  refine ⟨trivial, ?_⟩
  obtain ⟨L, hL, KA⟩ := HAd.out W1 V1
  refine (callsIn_wide.2 KA).mono ?_
  rintro e w2 ⟨b6, b7, a1, d1, a2, d2, rfl, u2, k1, k3, k2, k4, I1, I2, l6, l7⟩
  have kb2 := u2.blk kb
  have V2 := V1.trans u2
  have ls := blk_lt kb
  have hfits := hL.fits
  have hst := adj_stops HA.out HP.out (by have := hL.top; omega) hT (c := far - S.sm (S.lo (S.add (S.part f s p) j T) L) T) rfl (by omega) far2 (n := 5 - 1) (by omega) k1 k3 k2 k4 I1 I2 kb2 ⟨by omega, by omega, by omega, by omega⟩
  have HL := Lib.hid hL
  obtain ⟨val, hval⟩ : ∃ val : Nat → Int, (fun x => S.sign p * S.bit (S.add (S.part f s p) j T) L (far - S.sm (S.lo (S.add (S.part f s p) j T) L) T) x) = val := ⟨_, rfl⟩
  have hst' : SeqStopsK Fence.wide (5 - 1) Try.prog 100 #[.pointer (some ⟨W1.heap.size, 0, none⟩), .pointer (some ⟨b6, 0, none⟩), .pointer (some ⟨W1.heap.size + 1, 0, none⟩), .pointer (some ⟨b7, 0, none⟩)] (fun x : Nat => #[.int .i64 (val x)]) (S.Ky sb w2.heap.size) (fun xs => xs = List.range T) (fun pre => pre <+: List.range T) T w2 := by
    rw [← hval]; exact hst
  have HV := Lib.hid hval
  clear hst hL KA HAd HA HP k1 k2 k3 k4 I1 I2 u2 V1 kb hfits hval
  gi_wp2_with fail
  refine wpIn_rangeFunc_ownH (F := Fence.wide) (n := 5) rfl (by omega) (gf := 100) (lb := #[.pointer (some ⟨W1.heap.size, 0, none⟩), .pointer (some ⟨b6, 0, none⟩), .pointer (some ⟨W1.heap.size + 1, 0, none⟩), .pointer (some ⟨b7, 0, none⟩)]) rfl trivial (enters_of Try.func100 (by kernel_rfl) rfl)
    hst' S.ky_t (S.ky_b (Nat.le_refl _)) (Below.refl _ _) (fun _ => rfl)
    (fun pre W => (∃ v, mblk W sb = some (.cells #[v] 26 (0, 0)) ∧ W.ownsRow w2.heap.size 3 1 v pre.length ((pre.map val).map (Value.int .i64))) ∧ Up w W ∧ w2.heap.size ≤ W.heap.size)
    (fun _ _ _ => False)
    (fun pre X Y row hs hg hr => by
      obtain ⟨⟨v, h1, h2⟩, h4, h5⟩ := hs
      have hz := V2.size
      have hz2 := blk_lt kb2
      refine ⟨⟨v, (hg.block _ (blk_lt h1) (fun e => ?_)).trans h1, h2.kept hg (row_cells h2 (fun r e => (hr r e).2))⟩, h4.grown hg (fun k e => by have := (hr k e).1; omega), Nat.le_trans h5 hg.size⟩
      have := (hr _ e.symm).1; omega)
    (fun _ _ _ _ _ hs _ _ => hs)
    ⟨⟨_, kb2, rfl, .inl ⟨rfl, rfl⟩⟩, V2, Nat.le_refl _⟩
    (fun x a' W => a' = { tmps := #[CV m p far, .pointer (some ⟨w.heap.size, 0, none⟩), .slice none 0 0, .int .i64 0, .int .i64 T, .int .i64 0, .pointer (some ⟨sb, 0, none⟩), .int .i64 (val x), .tuple #[.int .i64 T, .int .i64 0], CV m p far, .tuple #[.int .i64 T, .int .i64 0], .int .i64 T, .int .i64 0, .int .i64 0, .bool false, undef, CV m p far, .int .i64 T, .func (.func 100) #[] #[.pointer (some ⟨W1.heap.size, 0, none⟩), .pointer (some ⟨b6, 0, none⟩), .pointer (some ⟨W1.heap.size + 1, 0, none⟩), .pointer (some ⟨b7, 0, none⟩)], .int .i64 (val x), undef, undef, undef, undef, undef, undef, undef, undef, undef, undef], defers := [] })
    (fun x a' _ X Y row hs hg hr => hs)
    ?assign ?body ?done ?stop
  case assign =>
    rintro l pre x W K hI hK
    gi_wp2
    exact hK _ _ (KeepsFrom.refl _ _) (S.ky_of (Below.refl _ _)) hI rfl
  case body =>
    rintro l pre x a' W hl ⟨r, hr⟩ ⟨⟨v, h1, h2⟩, h4, h5⟩ rfl hlt
    have hsz := h4.size
    have lt1 := blk_lt h1
    have c1 := cellB h1
    have z1 := frozB h1
    have bnd : pre.length ≤ 200 := by omega
    have hz2' := blk_lt kb2
    have HE := Lib.hid (show ((pre ++ [x]).map val).map (Value.int .i64) = (pre.map val).map (Value.int .i64) ++ [.int .i64 (val x)] by simp)
    have HLn := Lib.hid (show (pre ++ [x]).length = pre.length + 1 by simp)
    generalize val x = vx at *
    gi_wp2_with (gi_at_builtin; refine wpListIn_append_own _ rfl (.tmp 20) (.tmp 22) 26 rfl w2.heap.size 3 i0 (.int .i64 0) 1 8 hU hi hz0 hz1 hz2 rfl (by decide) _ pre.length _ rfl (h2.alloc _) ⟨W.heap.size, 0, none⟩ 1 1 [.int .i64 vx] rfl rfl (cell_one_new _ _ _) (by simp [Value.oneCell']) (by unfold maxLen; omega) (by omega) (by simp; omega) ?_; intro v' w3 hown3 hgrow3 hv3; obtain ⟨g, cap, rfl, hg⟩ := row_slice hown3; have x3 := grown_blk hgrow3 (blk_keep _ h1) (row_block h2 (by omega)); have z3 := frozB x3)
    have K1 : KeepsOthers W w3 := (KeepsOthers.alloc W _).trans (keeps_grown (h2.alloc _) hgrow3)
    have B1 : Below w2.heap.size W w3 := ((Below.refl w2.heap.size W).alloc h5 _).grown hgrow3 (by simp; omega) (fun k e => row_base h2 k e)
    have G3 := grownBy_setCell' w3 sb (.slice (some ⟨g, 0, none⟩) (pre.length + 1) cap)
    have H3 := hown3.kept G3 (.inr (by simp [Value.ownBlock]; omega))
    have U3 := Below.trans h4 (B1.mono (by have := V2.size; omega))
    have B1s := B1.size
    exact ⟨(K1.trans (KeepsOthers.setCell _ _ _)).from _, ⟨fun b hb hne => (G3.block b (by omega) (by simpa using hne)).trans (Below.block B1 b hb), by simpa using B1s⟩, ⟨_, blk_put x3 0 _, by rw [HLn.out, HE.out]; exact H3⟩, Up.set U3 (p := ⟨sb, 0, none⟩) (by show w.heap.size ≤ sb; omega) _, by simpa using (show w2.heap.size ≤ w3.heap.size by omega)⟩
  case done =>
    rintro D ys W hD rfl ⟨⟨v, h1, h2⟩, h4, h5⟩ hK
    rw [List.length_range] at h2
    obtain ⟨sa, cap, rfl, hc1, hc2⟩ := row_val h2
    have c1 := cellB h1
    have hI := Lib.hid (ints_of_row h2 (by omega)).clip
    have e1 : (List.range T).map val = S.list val T 0 := by rw [S.list_is]; simp
    rw [e1, ← HV.out] at hI
    unfold maxLen at hc2
    clear h2 e1
    gi_wp2
    refine ⟨by simp, .inl ⟨_, _, rfl, run_takeDeferred hK, ?_⟩⟩
    exact ⟨.tuple #[.slice sa T T, .int .i64 0], by simp [results, Try.results64, go_sem], _, L, rfl, HL.out, Below.trans h4 (belowK_b (w := w) (Nat.le_refl _) _ D _ _ (by have := V2.size; omega) hK rfl rfl), hI.out.mark hK _⟩
  case stop =>
    rintro D c pre W hD hp hF hK
    exact hF.elim

end Go.Proofs.Ytcadpdbadgejfaa
