import Derived.Test.YtcmdaiklkdeanaaBfm
import Derived.Test.YtcmdaiklkdeanaaRnI
import Derived.Test.YtcmdaiklkdeanaaTbl
/- The contract of apart. -/
namespace Go.Proofs.Ytcmdaiklkdeanaa
open Go.RowKit Go.Shelf
attribute [local go_sem] Oper.semAt_some

theorem T.mergeC {P : Prop} (R : World → Nat → Array Value → Bool → Prop) {G : World → Nat → Array Value → Bool → Prop} (h1 : Hid (∀ w' b c d, R w' b c d → G w' b c d) → P) (h2 : ∀ w' b c d, R w' b c d → G w' b c d) : P := h1 (Lib.hid h2)
/-- ties as a web has them -/
structure T.WebOk (n H : Nat) (ts : List T.T6) : Prop where
  tok : T.Tok ts
  len : ts.length ≤ 5000
  ends : ∀ t ∈ ts, T.one t ∈ T.moms n H ∧ T.oth t ∈ T.moms n H
  neg : ∀ y, T.Sat T.sHi ts y ↔ T.Sat T.sLo ts (fun m => -y m)
  far : ∀ y, T.Sat T.sHi ts y → ∀ m ∈ T.moms n H, ∀ k ∈ T.moms n H, y m - y k ≤ 200000
/-- between what a difference lies, both ends being reached -/
def T.Told (ts : List T.T6) (m1 m2 : Int × Int) (lo hi : Int) : Prop := (∀ y, T.Sat T.sHi ts y → lo ≤ y m1 - y m2 ∧ y m1 - y m2 ≤ hi) ∧ (∃ y, T.Sat T.sHi ts y ∧ y m1 - y m2 = lo) ∧ ∃ y, T.Sat T.sHi ts y ∧ y m1 - y m2 = hi
theorem T.hiIs : ∀ s : Int × Int, T.sHi s = if true = true then s.2 else -s.1 := fun _ => rfl
theorem T.loIs : ∀ s : Int × Int, T.sLo s = if false = true then s.2 else -s.1 := fun _ => rfl
section
variable {H : Nat} {aR aO aP aT : Option Addr} {nR cR nO cO nP cP nT cT : Nat} {b0 b1 b2 b3 b4 : Bool}
theorem T.WebOk.yes {ts : List T.T6} (W : T.WebOk nR H ts) (hH : H ≤ 12) (hR : nR ≤ 5) {m0 : Int × Int} (hm : m0 ∈ T.moms nR H) {cs : Array Value} {r : Bool} (h : T.FarIs T.sHi ts (T.o0 (T.moms nR H) m0) (T.moms nR H).length cs r) :
    (r = true ∧ ∃ d, T.Sat T.sHi ts d ∧ d m0 = 0 ∧ T.OC cs d ∧ ∀ y, T.Sat T.sHi ts y → ∀ m ∈ T.moms nR H, y m - y m0 ≤ d m) ∨ (r = false ∧ cs = OZ ∧ ∀ y, ¬ T.Sat T.sHi ts y) :=
  T.FarIs.yes (ah := true) T.hiIs h W.ends (fun _ hm => T.moms_in hR hH hm) hm (fun y hy m hmm => W.far y hy m hmm m0 hm)
theorem T.WebOk.yes' {ts : List T.T6} (W : T.WebOk nR H ts) (hH : H ≤ 12) (hR : nR ≤ 5) {m0 : Int × Int} (hm : m0 ∈ T.moms nR H) {cs : Array Value} {r : Bool} (h : T.FarIs T.sLo ts (T.o0 (T.moms nR H) m0) (T.moms nR H).length cs r) :
    (r = true ∧ ∃ d, T.Sat T.sHi ts (fun m => -d m) ∧ d m0 = 0 ∧ T.OC cs d ∧ ∀ y, T.Sat T.sHi ts y → ∀ m ∈ T.moms nR H, y m0 - y m ≤ d m) ∨ (r = false ∧ cs = OZ ∧ ∀ y, ¬ T.Sat T.sHi ts y) := by
  have ng : ∀ y, T.Sat T.sLo ts y → T.Sat T.sHi ts (fun m => -y m) := fun y hy => (W.neg _).2 (by simpa using hy)
  rcases T.FarIs.yes (ah := false) T.loIs h W.ends (fun _ hm => T.moms_in hR hH hm) hm (fun y hy m hmm => by
    have := W.far _ (ng y hy) m0 hm m hmm
    omega) with ⟨rfl, d, h1, h2, h3, h4⟩ | ⟨h1, h2, h3⟩
  · refine .inl ⟨rfl, d, ng d h1, h2, h3, fun y hy m hmm => ?_⟩
    have := h4 _ ((W.neg y).1 hy) m hmm
    omega
  · exact .inr ⟨h1, h2, fun y hy => h3 _ ((W.neg y).1 hy)⟩
theorem T.FarIs.size {f : Int × Int → Int} {ts : List T.T6} {o : Int × Int → Int} {n : Nat} {cs : Array Value} {r : Bool} (h : T.FarIs f ts o n cs r) : cs.size = 78 := by
  rcases h with ⟨_, _, _, _, h⟩ | ⟨_, rfl, _⟩
  · exact h.size
  · exact OZ_size
theorem T.FarIs.one {f : Int × Int → Int} {ts : List T.T6} {o : Int × Int → Int} {n : Nat} {cs : Array Value} {r : Bool} (h : T.FarIs f ts o n cs r) : Ok78 cs := by
  rcases h with ⟨_, _, _, _, h⟩ | ⟨_, rfl, _⟩
  · exact h.one
  · exact OZ_ok
set_option maxRecDepth 100000 in
set_option maxHeartbeats 4000000 in
theorem apart_any {w : World} (hH : H ≤ 12) (hR : nR ≤ 5) {ts : List T.T6} {m1 m2 : Int × Int} (I : Tis w (.slice aT nT cT) ts) (W : T.WebOk nR H ts) (h1 : m1 ∈ T.moms nR H) (h2 : m2 ∈ T.moms nR H) :
    Calls Try.prog 53 #[WeV H (.slice aR nR cR) (.slice aO nO cO) (.slice aP nP cP) b0 b1 b2 b3 b4 (.slice aT nT cT), MoV m1.1 m1.2, MoV m2.1 m2.2] w fun e w' => ((∃ lo hi, e = .returned (.tuple #[SpV lo hi, .int .i64 0]) ∧ T.Told ts m1 m2 lo hi) ∨ (e = .returned (.tuple #[SpV 0 0, .int .i64 22]) ∧ ∀ y, ¬ T.Sat T.sHi ts y)) ∧ Up w w' := by
  have HFA := Lib.hid (fun w' (u : Up w w') => farthest_ah (b0 := b0) (b1 := b1) (b2 := b2) (b3 := b3) (b4 := b4) (aR := aR) (aO := aO) (aP := aP) (nO := nO) (nP := nP) (cR := cR) (cO := cO) (cP := cP) hH hR (I.up u) W.tok W.len (T.moms_in hR hH h2))
  have HFB := Lib.hid (fun w' (u : Up w w') => farthest_be (b0 := b0) (b1 := b1) (b2 := b2) (b3 := b3) (b4 := b4) (aR := aR) (aO := aO) (aP := aP) (nO := nO) (nP := nP) (cR := cR) (cO := cO) (cP := cP) hH hR (I.up u) W.tok W.len (T.moms_in hR hH h2))
  have YA := Lib.hid (fun cs r h => W.yes hH hR h2 (cs := cs) (r := r) h)
  have YB := Lib.hid (fun cs r h => W.yes' hH hR h2 (cs := cs) (r := r) h)
  have HP := Lib.hid (fun B w => oat_any (B := B) (w := w) (T.moms_in hR hH h1))
  have hin := Lib.hid (T.moms_in hR hH h1)
  have H1 := Lib.hid h1
  have HFAR := Lib.hid (show ∀ y : Int × Int → Int, T.Sat T.sHi ts (fun m => -y m) → -200000 ≤ -y m1 - -y m2 ∧ -y m1 - -y m2 ≤ 200000 from fun y hy => ⟨by have := W.far _ hy m2 h2 m1 h1; omega, W.far _ hy m1 h1 m2 h2⟩)
  clear I W h2 h1
  obtain ⟨m11, m12⟩ := m1
  obtain ⟨m21, m22⟩ := m2
  go_enter Try.func53, Try.ntmps53
  go_wp2_with fail
  obtain ⟨W0, hW0⟩ : ∃ x, (((w.alloc (.cells (WeC H (.slice aR nR cR) (.slice aO nO cO) (.slice aP nP cP) b0 b1 b2 b3 b4 (.slice aT nT cT)) 82)).alloc (.cells #[.int .i64 m11, .int .i64 m12] 100)).alloc (.cells #[.int .i64 m21, .int .i64 m22] 100)).alloc (.cells #[.int .i64 0, .int .i64 0] 34) = x := ⟨_, rfl⟩
  obtain ⟨q0, e0⟩ : ∃ x, w.heap.size = x := ⟨_, rfl⟩
  obtain ⟨q1, e1⟩ : ∃ x, q0 + 1 = x := ⟨_, rfl⟩
  obtain ⟨q2, e2⟩ : ∃ x, q1 + 1 = x := ⟨_, rfl⟩
  obtain ⟨q3, e3⟩ : ∃ x, q2 + 1 = x := ⟨_, rfl⟩
  have U0 : Up w W0 := by rw [← hW0]; exact ((((Up.refl w).alloc _).alloc _).alloc _).alloc _
  have kW : mblk W0 q0 = some (.cells (WeC H (.slice aR nR cR) (.slice aO nO cO) (.slice aP nP cP) b0 b1 b2 b3 b4 (.slice aT nT cT)) 82 (0, 0)) := by rw [← hW0]; exact blk_keep _ (blk_keep _ (blk_keep _ (blk_new _ _ _ e0.symm)))
  have kA : mblk W0 q1 = some (.cells #[.int .i64 m11, .int .i64 m12] 100 (0, 0)) := by rw [← hW0]; exact blk_keep _ (blk_keep _ (blk_new _ _ _ (by simp; omega)))
  have kB : mblk W0 q2 = some (.cells #[.int .i64 m21, .int .i64 m22] 100 (0, 0)) := by rw [← hW0]; exact blk_keep _ (blk_new _ _ _ (by simp; omega))
  have kR : mblk W0 q3 = some (.cells #[.int .i64 0, .int .i64 0] 34 (0, 0)) := by rw [← hW0]; exact blk_new _ _ _ (by simp; omega)
  rw [hW0, e0, e1, e2, e3]
  clear hW0
  have UW0 := U0
  have l0 := blk_lt kW
  have l2 := blk_lt kB
  apply T.mergeC (fun w' b cs r => Up w w' ∧ Up W0 w' ∧ mblk w' b = some (.cells cs 87 (0, 0)) ∧ W0.heap.size ≤ b ∧ T.FarIs T.sHi ts (T.o0 (T.moms nR H) (m21, m22)) (T.moms nR H).length cs r)
  · intro HKey
    refine wp_region_held_drew (S := (fun w' => (Up w w' ∧ Up W0 w') ∧ mblk w' q0 = some (.cells (WeC H (.slice aR nR cR) (.slice aO nO cO) (.slice aP nP cP) b0 b1 b2 b3 b4 (.slice aT nT cT)) 82 (0, 0)) ∧ mblk w' q2 = some (.cells #[.int .i64 m21, .int .i64 m22] 100 (0, 0)))) (by kernel_rfl) ⟨⟨UW0.drew, (Up.refl W0).drew⟩, by rw [blk_drew]; exact kW, by rw [blk_drew]; exact kB⟩ (fun hHeld => ?_)
    refine takeH (i := 0) (d := (some 13)) (v := ?v1) rfl rfl (by kernel_rfl) (by kernel_rfl) (by kernel_rfl) (fun _ _ _ h => h) (by rfl) ?hy1 (by assumption) ?_
    case hy1 => ((intro w hSw; (try dsimp only at hSw); (try go_split_ands); go_simp); try with_reducible rfl)
    simp only [Act.put, List.setIfInBounds_toArray, List.set_cons_zero, List.set_cons_succ]
    refine takeH (i := 1) (d := (some 14)) (v := ?v2) rfl rfl (by kernel_rfl) (by kernel_rfl) (by kernel_rfl) (fun _ _ _ h => h) (by rfl) ?hy2 (by assumption) ?_
    case hy2 => ((intro w hSw; (try dsimp only at hSw); (try go_split_ands); go_simp); try with_reducible rfl)
    simp only [Act.put, List.setIfInBounds_toArray, List.set_cons_zero, List.set_cons_succ]
    refine wpAnyH_ready (rs := [2, 7]) (by kernel_rfl) (by simp) ?_
    refine AllReadyH.cons rfl (fun K hK => ?_) (AllReadyH.cons rfl (fun K hK => ?_) AllReadyH.nil)
    · go_simp
      refine (ahead_any _).mono ?_
      rintro e y1 ⟨rfl, u'⟩
      have u : Up W0 y1 := ((Up.refl W0).drew).trans u'
      go_wp2_with fail
      refine hK.out _ _ ⟨⟨hHeld.1.1.trans u', hHeld.1.2.trans u'⟩, u'.blk hHeld.2.1, u'.blk hHeld.2.2⟩ (fun hHeld => ?_)
      clear hK K u u'
      refine wpAnyH_ready (rs := [3, 7]) (by kernel_rfl) (by simp) ?_
      refine AllReadyH.cons rfl (fun K hK => ?_) (AllReadyH.cons rfl (fun K hK => ?_) AllReadyH.nil)
      · go_simp
        refine (HFA.out _ hHeld.1.1).mono ?_
        rintro e y2 ⟨⟨cs, r, rfl, hF⟩, u⟩
        go_wp2_with fail
        refine hK.out _ _ ⟨⟨hHeld.1.1.trans u, hHeld.1.2.trans u⟩, u.blk hHeld.2.1, u.blk hHeld.2.2⟩ (fun hHeld => ?_)
        clear hK K u
        refine takeH (i := 4) (d := (some 12)) (v := ?v3) rfl rfl (by kernel_rfl) (by kernel_rfl) (by kernel_rfl) (fun _ _ _ h => h) (by rfl) ?hy3 (by assumption) ?_
        case hy3 => ((intro w hSw; (try dsimp only at hSw); (try go_split_ands); go_simp); try with_reducible rfl)
        simp only [Act.put, List.setIfInBounds_toArray, List.set_cons_zero, List.set_cons_succ]
        refine takeH (i := 5) (d := (some 17)) (v := ?v4) rfl rfl (by kernel_rfl) (by kernel_rfl) (by kernel_rfl) (fun _ _ _ h => h) (by rfl) ?hy4 (by assumption) ?_
        case hy4 => ((intro w hSw; (try dsimp only at hSw); (try go_split_ands); go_simp); try with_reducible rfl)
        simp only [Act.put, List.setIfInBounds_toArray, List.set_cons_zero, List.set_cons_succ]
        refine takeH (i := 6) (d := (some 18)) (v := ?v5) rfl rfl (by kernel_rfl) (by kernel_rfl) (by kernel_rfl) (fun _ _ _ h => h) (by rfl) ?hy5 (by assumption) ?_
        case hy5 => ((intro w hSw; (try dsimp only at hSw); (try go_split_ands); go_simp); try with_reducible rfl)
        simp only [Act.put, List.setIfInBounds_toArray, List.set_cons_zero, List.set_cons_succ]
        refine wpAnyH_ready (rs := [7]) (by kernel_rfl) (by simp) ?_
        refine AllReadyH.cons rfl (fun K hK => ?_) AllReadyH.nil
        go_simp
        obtain ⟨y3, hY⟩ : ∃ Y, y2.alloc (.cells OZ 87) = Y := ⟨_, rfl⟩
        obtain ⟨bz, hb⟩ : ∃ b, y2.heap.size = b := ⟨_, rfl⟩
        have kz : mblk y3 bz = some (.cells OZ 87 (0, 0)) := by rw [← hY]; exact blk_new _ _ _ hb.symm
        have hbz : W0.heap.size ≤ bz := by have := hHeld.1.2.size; omega
        have u : Up y2 y3 := by rw [← hY]; exact (Up.refl y2).alloc _
        rw [hb, hY]
        refine hK.out _ _ ⟨⟨hHeld.1.1.trans u, hHeld.1.2.trans u⟩, u.blk hHeld.2.1, u.blk hHeld.2.2⟩ (fun hHeld => ?_)
        clear hK K hY hb u
        have hsz := hF.size
        have hone := hF.one
        have hst := run_offStore_row y3 bz OZ cs kz (Lib.hid OZ_size) hone
        refine wpAnyH_ready (rs := [8]) (by kernel_rfl) (by simp) ?_
        refine AllReadyH.cons rfl (fun K hK => ?_) AllReadyH.nil
        go_simp
        obtain ⟨y4, hY⟩ : ∃ Y, y3.setRow bz cs = Y := ⟨_, rfl⟩
        have kz2 : mblk y4 bz = some (.cells cs 87 (0, 0)) := by rw [← hY]; exact blk_setRow kz cs
        have g : y3.grownBy y4 (some bz) := by rw [← hY]; exact grown_row _ _ _
        rw [hY]
        refine hK.out _ _ ⟨⟨hHeld.1.1.grown g (fun k e => by have := Option.some.inj e; have := UW0.size; omega), hHeld.1.2.grown g (fun k e => by have := Option.some.inj e; omega)⟩, grown_blk g hHeld.2.1 (fun e => by have := Option.some.inj e; omega), grown_blk g hHeld.2.2 (fun e => by have := Option.some.inj e; omega)⟩ (fun hHeld => ?_)
        clear hK K hY g hst
        refine takeH (i := 9) (d := (some 9)) (v := ?v8) rfl rfl (by kernel_rfl) (by kernel_rfl) (by kernel_rfl) (fun _ _ _ h => h) (by rfl) ?hy8 (by assumption) ?_
        case hy8 => ((intro w hSw; (try dsimp only at hSw); (try go_split_ands); go_simp); try with_reducible rfl)
        simp only [Act.put, List.setIfInBounds_toArray, List.set_cons_zero, List.set_cons_succ]
        refine wpAnyH_done (by kernel_rfl) ?_ _
        exact HKey.out _ bz cs r ⟨hHeld.1.1, hHeld.1.2, kz2, hbz, hF⟩
      · go_simp
        obtain ⟨y6, hY⟩ : ∃ Y, (y1.alloc (.cells OZ 87)) = Y := ⟨_, rfl⟩
        obtain ⟨bz, hb⟩ : ∃ b, y1.heap.size = b := ⟨_, rfl⟩
        have kz : mblk y6 bz = some (.cells OZ 87 (0, 0)) := by rw [← hY]; exact blk_new _ _ _ hb.symm
        have hbz : W0.heap.size ≤ bz := by have := hHeld.1.2.size; omega
        have u : Up y1 y6 := by rw [← hY]; exact (Up.refl y1).alloc (.cells OZ 87)
        rw [hb, hY]
        refine hK.out _ _ ⟨⟨hHeld.1.1.trans u, hHeld.1.2.trans u⟩, u.blk hHeld.2.1, u.blk hHeld.2.2⟩ (fun hHeld => ?_)
        clear hK K hY hb u
        refine wpAnyH_ready (rs := [3]) (by kernel_rfl) (by simp) ?_
        refine AllReadyH.cons rfl (fun K hK => ?_) AllReadyH.nil
        go_simp
        refine (HFA.out _ hHeld.1.1).mono ?_
        rintro e y7 ⟨⟨cs, r, rfl, hF⟩, u⟩
        replace kz := u.blk kz
        go_wp2_with fail
        refine hK.out _ _ ⟨⟨hHeld.1.1.trans u, hHeld.1.2.trans u⟩, u.blk hHeld.2.1, u.blk hHeld.2.2⟩ (fun hHeld => ?_)
        clear hK K u
        refine takeH (i := 4) (d := (some 12)) (v := ?v10) rfl rfl (by kernel_rfl) (by kernel_rfl) (by kernel_rfl) (fun _ _ _ h => h) (by rfl) ?hy10 (by assumption) ?_
        case hy10 => ((intro w hSw; (try dsimp only at hSw); (try go_split_ands); go_simp); try with_reducible rfl)
        simp only [Act.put, List.setIfInBounds_toArray, List.set_cons_zero, List.set_cons_succ]
        refine takeH (i := 5) (d := (some 17)) (v := ?v11) rfl rfl (by kernel_rfl) (by kernel_rfl) (by kernel_rfl) (fun _ _ _ h => h) (by rfl) ?hy11 (by assumption) ?_
        case hy11 => ((intro w hSw; (try dsimp only at hSw); (try go_split_ands); go_simp); try with_reducible rfl)
        simp only [Act.put, List.setIfInBounds_toArray, List.set_cons_zero, List.set_cons_succ]
        refine takeH (i := 6) (d := (some 18)) (v := ?v12) rfl rfl (by kernel_rfl) (by kernel_rfl) (by kernel_rfl) (fun _ _ _ h => h) (by rfl) ?hy12 (by assumption) ?_
        case hy12 => ((intro w hSw; (try dsimp only at hSw); (try go_split_ands); go_simp); try with_reducible rfl)
        simp only [Act.put, List.setIfInBounds_toArray, List.set_cons_zero, List.set_cons_succ]
        have hsz := hF.size
        have hone := hF.one
        have hst := run_offStore_row y7 bz OZ cs kz (Lib.hid OZ_size) hone
        refine wpAnyH_ready (rs := [8]) (by kernel_rfl) (by simp) ?_
        refine AllReadyH.cons rfl (fun K hK => ?_) AllReadyH.nil
        go_simp
        obtain ⟨y8, hY⟩ : ∃ Y, y7.setRow bz cs = Y := ⟨_, rfl⟩
        have kz2 : mblk y8 bz = some (.cells cs 87 (0, 0)) := by rw [← hY]; exact blk_setRow kz cs
        have g : y7.grownBy y8 (some bz) := by rw [← hY]; exact grown_row _ _ _
        rw [hY]
        refine hK.out _ _ ⟨⟨hHeld.1.1.grown g (fun k e => by have := Option.some.inj e; have := UW0.size; omega), hHeld.1.2.grown g (fun k e => by have := Option.some.inj e; omega)⟩, grown_blk g hHeld.2.1 (fun e => by have := Option.some.inj e; omega), grown_blk g hHeld.2.2 (fun e => by have := Option.some.inj e; omega)⟩ (fun hHeld => ?_)
        clear hK K hY g hst
        refine takeH (i := 9) (d := (some 9)) (v := ?v14) rfl rfl (by kernel_rfl) (by kernel_rfl) (by kernel_rfl) (fun _ _ _ h => h) (by rfl) ?hy14 (by assumption) ?_
        case hy14 => ((intro w hSw; (try dsimp only at hSw); (try go_split_ands); go_simp); try with_reducible rfl)
        simp only [Act.put, List.setIfInBounds_toArray, List.set_cons_zero, List.set_cons_succ]
        refine wpAnyH_done (by kernel_rfl) ?_ _
        exact HKey.out _ bz cs r ⟨hHeld.1.1, hHeld.1.2, kz2, hbz, hF⟩
    · go_simp
      obtain ⟨y9, hY⟩ : ∃ Y, (W0.alloc (.cells OZ 87)).drew = Y := ⟨_, rfl⟩
      obtain ⟨bz, hb⟩ : ∃ b, W0.heap.size = b := ⟨_, rfl⟩
      have kz : mblk y9 bz = some (.cells OZ 87 (0, 0)) := by rw [← hY, blk_drew]; exact blk_new _ _ _ hb.symm
      have hbz : W0.heap.size ≤ bz := by have := hHeld.1.2.size; rw [← hb]; exact Nat.le_refl _
      have u : Up W0.drew y9 := by rw [← hY]; exact (Up.refl W0.drew).alloc (.cells OZ 87)
      rw [hb, hY]
      refine hK.out _ _ ⟨⟨hHeld.1.1.trans u, hHeld.1.2.trans u⟩, u.blk hHeld.2.1, u.blk hHeld.2.2⟩ (fun hHeld => ?_)
      clear hK K hY hb u
      refine wpAnyH_ready (rs := [2]) (by kernel_rfl) (by simp) ?_
      refine AllReadyH.cons rfl (fun K hK => ?_) AllReadyH.nil
      go_simp
      refine (ahead_any _).mono ?_
      rintro e y10 ⟨rfl, u⟩
      replace kz := u.blk kz
      go_wp2_with fail
      refine hK.out _ _ ⟨⟨hHeld.1.1.trans u, hHeld.1.2.trans u⟩, u.blk hHeld.2.1, u.blk hHeld.2.2⟩ (fun hHeld => ?_)
      clear hK K u
      refine wpAnyH_ready (rs := [3]) (by kernel_rfl) (by simp) ?_
      refine AllReadyH.cons rfl (fun K hK => ?_) AllReadyH.nil
      go_simp
      refine (HFA.out _ hHeld.1.1).mono ?_
      rintro e y11 ⟨⟨cs, r, rfl, hF⟩, u⟩
      replace kz := u.blk kz
      go_wp2_with fail
      refine hK.out _ _ ⟨⟨hHeld.1.1.trans u, hHeld.1.2.trans u⟩, u.blk hHeld.2.1, u.blk hHeld.2.2⟩ (fun hHeld => ?_)
      clear hK K u
      refine takeH (i := 4) (d := (some 12)) (v := ?v17) rfl rfl (by kernel_rfl) (by kernel_rfl) (by kernel_rfl) (fun _ _ _ h => h) (by rfl) ?hy17 (by assumption) ?_
      case hy17 => ((intro w hSw; (try dsimp only at hSw); (try go_split_ands); go_simp); try with_reducible rfl)
      simp only [Act.put, List.setIfInBounds_toArray, List.set_cons_zero, List.set_cons_succ]
      refine takeH (i := 5) (d := (some 17)) (v := ?v18) rfl rfl (by kernel_rfl) (by kernel_rfl) (by kernel_rfl) (fun _ _ _ h => h) (by rfl) ?hy18 (by assumption) ?_
      case hy18 => ((intro w hSw; (try dsimp only at hSw); (try go_split_ands); go_simp); try with_reducible rfl)
      simp only [Act.put, List.setIfInBounds_toArray, List.set_cons_zero, List.set_cons_succ]
      refine takeH (i := 6) (d := (some 18)) (v := ?v19) rfl rfl (by kernel_rfl) (by kernel_rfl) (by kernel_rfl) (fun _ _ _ h => h) (by rfl) ?hy19 (by assumption) ?_
      case hy19 => ((intro w hSw; (try dsimp only at hSw); (try go_split_ands); go_simp); try with_reducible rfl)
      simp only [Act.put, List.setIfInBounds_toArray, List.set_cons_zero, List.set_cons_succ]
      have hsz := hF.size
      have hone := hF.one
      have hst := run_offStore_row y11 bz OZ cs kz (Lib.hid OZ_size) hone
      refine wpAnyH_ready (rs := [8]) (by kernel_rfl) (by simp) ?_
      refine AllReadyH.cons rfl (fun K hK => ?_) AllReadyH.nil
      go_simp
      obtain ⟨y12, hY⟩ : ∃ Y, y11.setRow bz cs = Y := ⟨_, rfl⟩
      have kz2 : mblk y12 bz = some (.cells cs 87 (0, 0)) := by rw [← hY]; exact blk_setRow kz cs
      have g : y11.grownBy y12 (some bz) := by rw [← hY]; exact grown_row _ _ _
      rw [hY]
      refine hK.out _ _ ⟨⟨hHeld.1.1.grown g (fun k e => by have := Option.some.inj e; have := UW0.size; omega), hHeld.1.2.grown g (fun k e => by have := Option.some.inj e; omega)⟩, grown_blk g hHeld.2.1 (fun e => by have := Option.some.inj e; omega), grown_blk g hHeld.2.2 (fun e => by have := Option.some.inj e; omega)⟩ (fun hHeld => ?_)
      clear hK K hY g hst
      refine takeH (i := 9) (d := (some 9)) (v := ?v21) rfl rfl (by kernel_rfl) (by kernel_rfl) (by kernel_rfl) (fun _ _ _ h => h) (by rfl) ?hy21 (by assumption) ?_
      case hy21 => ((intro w hSw; (try dsimp only at hSw); (try go_split_ands); go_simp); try with_reducible rfl)
      simp only [Act.put, List.setIfInBounds_toArray, List.set_cons_zero, List.set_cons_succ]
      refine wpAnyH_done (by kernel_rfl) ?_ _
      exact HKey.out _ bz cs r ⟨hHeld.1.1, hHeld.1.2, kz2, hbz, hF⟩
  intro W1 ba cs r ⟨UW1, uA, kS, hba, hF⟩
  replace kW := uA.blk kW
  replace kA := uA.blk kA
  replace kB := uA.blk kB
  replace kR := uA.blk kR
  have l3 := blk_lt kR
  clear uA UW0 U0 l0 l2
  rcases YA.out cs r hF with ⟨rfl, d, hd1, hd2, hd3, hd4⟩ | ⟨rfl, _, hno⟩
  case inr =>
    have fR := frozB kR
    have cR := cellB kR
    clear YA YB HFA HFB HP kW kA kB kS
    go_wp2_with fail
    obtain ⟨Z, hZ⟩ : ∃ z, (W1.setCell ⟨q3, 0, none⟩ (.int .i64 0)).setCell ⟨q3, 1, none⟩ (.int .i64 0) = z := ⟨_, rfl⟩
    have UZ : Up w Z := by rw [← hZ]; exact (UW1.set (p := ⟨q3, 0, none⟩) (by show w.heap.size ≤ q3; omega) _).set (p := ⟨q3, 1, none⟩) (by show w.heap.size ≤ q3; omega) _
    have cZ : ∀ j, Z.cell? ⟨q3, j, none⟩ = (#[Value.int .i64 0, .int .i64 0] : Array Value)[j]? := by rw [← hZ]; exact cellB (blk_put (blk_put kR 0 _) 1 _)
    rw [hZ]
    exact bodyPost_ret (v := .tuple #[SpV 0 0, .int .i64 22]) (by simp [results, Try.results53, go_sem, cZ]) rfl ⟨.inr ⟨rfl, hno⟩, UZ⟩
  have HD := Lib.hid (And.intro hd1 (And.intro hd2 (And.intro hd3 hd4)))
  clear hd1 hd2 hd3 hd4 hF YA HFA
  go_wp2_with fail
  have l0 := blk_lt kW
  have l2 := blk_lt kB
  apply T.mergeC (fun w' b cs r => Up w w' ∧ Up W1 w' ∧ mblk w' b = some (.cells cs 87 (0, 0)) ∧ W1.heap.size ≤ b ∧ T.FarIs T.sLo ts (T.o0 (T.moms nR H) (m21, m22)) (T.moms nR H).length cs r)
  · intro HKey
    refine wp_region_held_drew (S := (fun w' => (Up w w' ∧ Up W1 w') ∧ mblk w' q0 = some (.cells (WeC H (.slice aR nR cR) (.slice aO nO cO) (.slice aP nP cP) b0 b1 b2 b3 b4 (.slice aT nT cT)) 82 (0, 0)) ∧ mblk w' q2 = some (.cells #[.int .i64 m21, .int .i64 m22] 100 (0, 0)))) (by kernel_rfl) ⟨⟨UW1.drew, (Up.refl W1).drew⟩, by rw [blk_drew]; exact kW, by rw [blk_drew]; exact kB⟩ (fun hHeld => ?_)
    refine takeH (i := 0) (d := (some 23)) (v := ?v22) rfl rfl (by kernel_rfl) (by kernel_rfl) (by kernel_rfl) (fun _ _ _ h => h) (by rfl) ?hy22 (by assumption) ?_
    case hy22 => ((intro w hSw; (try dsimp only at hSw); (try go_split_ands); go_simp); try with_reducible rfl)
    simp only [Act.put, List.setIfInBounds_toArray, List.set_cons_zero, List.set_cons_succ]
    refine takeH (i := 1) (d := (some 24)) (v := ?v23) rfl rfl (by kernel_rfl) (by kernel_rfl) (by kernel_rfl) (fun _ _ _ h => h) (by rfl) ?hy23 (by assumption) ?_
    case hy23 => ((intro w hSw; (try dsimp only at hSw); (try go_split_ands); go_simp); try with_reducible rfl)
    simp only [Act.put, List.setIfInBounds_toArray, List.set_cons_zero, List.set_cons_succ]
    refine wpAnyH_ready (rs := [2, 7]) (by kernel_rfl) (by simp) ?_
    refine AllReadyH.cons rfl (fun K hK => ?_) (AllReadyH.cons rfl (fun K hK => ?_) AllReadyH.nil)
    · go_simp
      refine (behind_any _).mono ?_
      rintro e y13 ⟨rfl, u'⟩
      have u : Up W1 y13 := ((Up.refl W1).drew).trans u'
      go_wp2_with fail
      refine hK.out _ _ ⟨⟨hHeld.1.1.trans u', hHeld.1.2.trans u'⟩, u'.blk hHeld.2.1, u'.blk hHeld.2.2⟩ (fun hHeld => ?_)
      clear hK K u u'
      refine wpAnyH_ready (rs := [3, 7]) (by kernel_rfl) (by simp) ?_
      refine AllReadyH.cons rfl (fun K hK => ?_) (AllReadyH.cons rfl (fun K hK => ?_) AllReadyH.nil)
      · go_simp
        refine (HFB.out _ hHeld.1.1).mono ?_
        rintro e y14 ⟨⟨cs, r, rfl, hF⟩, u⟩
        go_wp2_with fail
        refine hK.out _ _ ⟨⟨hHeld.1.1.trans u, hHeld.1.2.trans u⟩, u.blk hHeld.2.1, u.blk hHeld.2.2⟩ (fun hHeld => ?_)
        clear hK K u
        refine takeH (i := 4) (d := (some 22)) (v := ?v24) rfl rfl (by kernel_rfl) (by kernel_rfl) (by kernel_rfl) (fun _ _ _ h => h) (by rfl) ?hy24 (by assumption) ?_
        case hy24 => ((intro w hSw; (try dsimp only at hSw); (try go_split_ands); go_simp); try with_reducible rfl)
        simp only [Act.put, List.setIfInBounds_toArray, List.set_cons_zero, List.set_cons_succ]
        refine takeH (i := 5) (d := (some 27)) (v := ?v25) rfl rfl (by kernel_rfl) (by kernel_rfl) (by kernel_rfl) (fun _ _ _ h => h) (by rfl) ?hy25 (by assumption) ?_
        case hy25 => ((intro w hSw; (try dsimp only at hSw); (try go_split_ands); go_simp); try with_reducible rfl)
        simp only [Act.put, List.setIfInBounds_toArray, List.set_cons_zero, List.set_cons_succ]
        refine takeH (i := 6) (d := (some 28)) (v := ?v26) rfl rfl (by kernel_rfl) (by kernel_rfl) (by kernel_rfl) (fun _ _ _ h => h) (by rfl) ?hy26 (by assumption) ?_
        case hy26 => ((intro w hSw; (try dsimp only at hSw); (try go_split_ands); go_simp); try with_reducible rfl)
        simp only [Act.put, List.setIfInBounds_toArray, List.set_cons_zero, List.set_cons_succ]
        refine wpAnyH_ready (rs := [7]) (by kernel_rfl) (by simp) ?_
        refine AllReadyH.cons rfl (fun K hK => ?_) AllReadyH.nil
        go_simp
        obtain ⟨y15, hY⟩ : ∃ Y, y14.alloc (.cells OZ 87) = Y := ⟨_, rfl⟩
        obtain ⟨bz, hb⟩ : ∃ b, y14.heap.size = b := ⟨_, rfl⟩
        have kz : mblk y15 bz = some (.cells OZ 87 (0, 0)) := by rw [← hY]; exact blk_new _ _ _ hb.symm
        have hbz : W1.heap.size ≤ bz := by have := hHeld.1.2.size; omega
        have u : Up y14 y15 := by rw [← hY]; exact (Up.refl y14).alloc _
        rw [hb, hY]
        refine hK.out _ _ ⟨⟨hHeld.1.1.trans u, hHeld.1.2.trans u⟩, u.blk hHeld.2.1, u.blk hHeld.2.2⟩ (fun hHeld => ?_)
        clear hK K hY hb u
        have hsz := hF.size
        have hone := hF.one
        have hst := run_offStore_row y15 bz OZ cs kz (Lib.hid OZ_size) hone
        refine wpAnyH_ready (rs := [8]) (by kernel_rfl) (by simp) ?_
        refine AllReadyH.cons rfl (fun K hK => ?_) AllReadyH.nil
        go_simp
        obtain ⟨y16, hY⟩ : ∃ Y, y15.setRow bz cs = Y := ⟨_, rfl⟩
        have kz2 : mblk y16 bz = some (.cells cs 87 (0, 0)) := by rw [← hY]; exact blk_setRow kz cs
        have g : y15.grownBy y16 (some bz) := by rw [← hY]; exact grown_row _ _ _
        rw [hY]
        refine hK.out _ _ ⟨⟨hHeld.1.1.grown g (fun k e => by have := Option.some.inj e; have := UW1.size; omega), hHeld.1.2.grown g (fun k e => by have := Option.some.inj e; omega)⟩, grown_blk g hHeld.2.1 (fun e => by have := Option.some.inj e; omega), grown_blk g hHeld.2.2 (fun e => by have := Option.some.inj e; omega)⟩ (fun hHeld => ?_)
        clear hK K hY g hst
        refine takeH (i := 9) (d := (some 11)) (v := ?v29) rfl rfl (by kernel_rfl) (by kernel_rfl) (by kernel_rfl) (fun _ _ _ h => h) (by rfl) ?hy29 (by assumption) ?_
        case hy29 => ((intro w hSw; (try dsimp only at hSw); (try go_split_ands); go_simp); try with_reducible rfl)
        simp only [Act.put, List.setIfInBounds_toArray, List.set_cons_zero, List.set_cons_succ]
        refine wpAnyH_done (by kernel_rfl) ?_ _
        exact HKey.out _ bz cs r ⟨hHeld.1.1, hHeld.1.2, kz2, hbz, hF⟩
      · go_simp
        obtain ⟨y18, hY⟩ : ∃ Y, (y13.alloc (.cells OZ 87)) = Y := ⟨_, rfl⟩
        obtain ⟨bz, hb⟩ : ∃ b, y13.heap.size = b := ⟨_, rfl⟩
        have kz : mblk y18 bz = some (.cells OZ 87 (0, 0)) := by rw [← hY]; exact blk_new _ _ _ hb.symm
        have hbz : W1.heap.size ≤ bz := by have := hHeld.1.2.size; omega
        have u : Up y13 y18 := by rw [← hY]; exact (Up.refl y13).alloc (.cells OZ 87)
        rw [hb, hY]
        refine hK.out _ _ ⟨⟨hHeld.1.1.trans u, hHeld.1.2.trans u⟩, u.blk hHeld.2.1, u.blk hHeld.2.2⟩ (fun hHeld => ?_)
        clear hK K hY hb u
        refine wpAnyH_ready (rs := [3]) (by kernel_rfl) (by simp) ?_
        refine AllReadyH.cons rfl (fun K hK => ?_) AllReadyH.nil
        go_simp
        refine (HFB.out _ hHeld.1.1).mono ?_
        rintro e y19 ⟨⟨cs, r, rfl, hF⟩, u⟩
        replace kz := u.blk kz
        go_wp2_with fail
        refine hK.out _ _ ⟨⟨hHeld.1.1.trans u, hHeld.1.2.trans u⟩, u.blk hHeld.2.1, u.blk hHeld.2.2⟩ (fun hHeld => ?_)
        clear hK K u
        refine takeH (i := 4) (d := (some 22)) (v := ?v31) rfl rfl (by kernel_rfl) (by kernel_rfl) (by kernel_rfl) (fun _ _ _ h => h) (by rfl) ?hy31 (by assumption) ?_
        case hy31 => ((intro w hSw; (try dsimp only at hSw); (try go_split_ands); go_simp); try with_reducible rfl)
        simp only [Act.put, List.setIfInBounds_toArray, List.set_cons_zero, List.set_cons_succ]
        refine takeH (i := 5) (d := (some 27)) (v := ?v32) rfl rfl (by kernel_rfl) (by kernel_rfl) (by kernel_rfl) (fun _ _ _ h => h) (by rfl) ?hy32 (by assumption) ?_
        case hy32 => ((intro w hSw; (try dsimp only at hSw); (try go_split_ands); go_simp); try with_reducible rfl)
        simp only [Act.put, List.setIfInBounds_toArray, List.set_cons_zero, List.set_cons_succ]
        refine takeH (i := 6) (d := (some 28)) (v := ?v33) rfl rfl (by kernel_rfl) (by kernel_rfl) (by kernel_rfl) (fun _ _ _ h => h) (by rfl) ?hy33 (by assumption) ?_
        case hy33 => ((intro w hSw; (try dsimp only at hSw); (try go_split_ands); go_simp); try with_reducible rfl)
        simp only [Act.put, List.setIfInBounds_toArray, List.set_cons_zero, List.set_cons_succ]
        have hsz := hF.size
        have hone := hF.one
        have hst := run_offStore_row y19 bz OZ cs kz (Lib.hid OZ_size) hone
        refine wpAnyH_ready (rs := [8]) (by kernel_rfl) (by simp) ?_
        refine AllReadyH.cons rfl (fun K hK => ?_) AllReadyH.nil
        go_simp
        obtain ⟨y20, hY⟩ : ∃ Y, y19.setRow bz cs = Y := ⟨_, rfl⟩
        have kz2 : mblk y20 bz = some (.cells cs 87 (0, 0)) := by rw [← hY]; exact blk_setRow kz cs
        have g : y19.grownBy y20 (some bz) := by rw [← hY]; exact grown_row _ _ _
        rw [hY]
        refine hK.out _ _ ⟨⟨hHeld.1.1.grown g (fun k e => by have := Option.some.inj e; have := UW1.size; omega), hHeld.1.2.grown g (fun k e => by have := Option.some.inj e; omega)⟩, grown_blk g hHeld.2.1 (fun e => by have := Option.some.inj e; omega), grown_blk g hHeld.2.2 (fun e => by have := Option.some.inj e; omega)⟩ (fun hHeld => ?_)
        clear hK K hY g hst
        refine takeH (i := 9) (d := (some 11)) (v := ?v35) rfl rfl (by kernel_rfl) (by kernel_rfl) (by kernel_rfl) (fun _ _ _ h => h) (by rfl) ?hy35 (by assumption) ?_
        case hy35 => ((intro w hSw; (try dsimp only at hSw); (try go_split_ands); go_simp); try with_reducible rfl)
        simp only [Act.put, List.setIfInBounds_toArray, List.set_cons_zero, List.set_cons_succ]
        refine wpAnyH_done (by kernel_rfl) ?_ _
        exact HKey.out _ bz cs r ⟨hHeld.1.1, hHeld.1.2, kz2, hbz, hF⟩
    · go_simp
      obtain ⟨y21, hY⟩ : ∃ Y, (W1.alloc (.cells OZ 87)).drew = Y := ⟨_, rfl⟩
      obtain ⟨bz, hb⟩ : ∃ b, W1.heap.size = b := ⟨_, rfl⟩
      have kz : mblk y21 bz = some (.cells OZ 87 (0, 0)) := by rw [← hY, blk_drew]; exact blk_new _ _ _ hb.symm
      have hbz : W1.heap.size ≤ bz := by have := hHeld.1.2.size; rw [← hb]; exact Nat.le_refl _
      have u : Up W1.drew y21 := by rw [← hY]; exact (Up.refl W1.drew).alloc (.cells OZ 87)
      rw [hb, hY]
      refine hK.out _ _ ⟨⟨hHeld.1.1.trans u, hHeld.1.2.trans u⟩, u.blk hHeld.2.1, u.blk hHeld.2.2⟩ (fun hHeld => ?_)
      clear hK K hY hb u
      refine wpAnyH_ready (rs := [2]) (by kernel_rfl) (by simp) ?_
      refine AllReadyH.cons rfl (fun K hK => ?_) AllReadyH.nil
      go_simp
      refine (behind_any _).mono ?_
      rintro e y22 ⟨rfl, u⟩
      replace kz := u.blk kz
      go_wp2_with fail
      refine hK.out _ _ ⟨⟨hHeld.1.1.trans u, hHeld.1.2.trans u⟩, u.blk hHeld.2.1, u.blk hHeld.2.2⟩ (fun hHeld => ?_)
      clear hK K u
      refine wpAnyH_ready (rs := [3]) (by kernel_rfl) (by simp) ?_
      refine AllReadyH.cons rfl (fun K hK => ?_) AllReadyH.nil
      go_simp
      refine (HFB.out _ hHeld.1.1).mono ?_
      rintro e y23 ⟨⟨cs, r, rfl, hF⟩, u⟩
      replace kz := u.blk kz
      go_wp2_with fail
      refine hK.out _ _ ⟨⟨hHeld.1.1.trans u, hHeld.1.2.trans u⟩, u.blk hHeld.2.1, u.blk hHeld.2.2⟩ (fun hHeld => ?_)
      clear hK K u
      refine takeH (i := 4) (d := (some 22)) (v := ?v38) rfl rfl (by kernel_rfl) (by kernel_rfl) (by kernel_rfl) (fun _ _ _ h => h) (by rfl) ?hy38 (by assumption) ?_
      case hy38 => ((intro w hSw; (try dsimp only at hSw); (try go_split_ands); go_simp); try with_reducible rfl)
      simp only [Act.put, List.setIfInBounds_toArray, List.set_cons_zero, List.set_cons_succ]
      refine takeH (i := 5) (d := (some 27)) (v := ?v39) rfl rfl (by kernel_rfl) (by kernel_rfl) (by kernel_rfl) (fun _ _ _ h => h) (by rfl) ?hy39 (by assumption) ?_
      case hy39 => ((intro w hSw; (try dsimp only at hSw); (try go_split_ands); go_simp); try with_reducible rfl)
      simp only [Act.put, List.setIfInBounds_toArray, List.set_cons_zero, List.set_cons_succ]
      refine takeH (i := 6) (d := (some 28)) (v := ?v40) rfl rfl (by kernel_rfl) (by kernel_rfl) (by kernel_rfl) (fun _ _ _ h => h) (by rfl) ?hy40 (by assumption) ?_
      case hy40 => ((intro w hSw; (try dsimp only at hSw); (try go_split_ands); go_simp); try with_reducible rfl)
      simp only [Act.put, List.setIfInBounds_toArray, List.set_cons_zero, List.set_cons_succ]
      have hsz := hF.size
      have hone := hF.one
      have hst := run_offStore_row y23 bz OZ cs kz (Lib.hid OZ_size) hone
      refine wpAnyH_ready (rs := [8]) (by kernel_rfl) (by simp) ?_
      refine AllReadyH.cons rfl (fun K hK => ?_) AllReadyH.nil
      go_simp
      obtain ⟨y24, hY⟩ : ∃ Y, y23.setRow bz cs = Y := ⟨_, rfl⟩
      have kz2 : mblk y24 bz = some (.cells cs 87 (0, 0)) := by rw [← hY]; exact blk_setRow kz cs
      have g : y23.grownBy y24 (some bz) := by rw [← hY]; exact grown_row _ _ _
      rw [hY]
      refine hK.out _ _ ⟨⟨hHeld.1.1.grown g (fun k e => by have := Option.some.inj e; have := UW1.size; omega), hHeld.1.2.grown g (fun k e => by have := Option.some.inj e; omega)⟩, grown_blk g hHeld.2.1 (fun e => by have := Option.some.inj e; omega), grown_blk g hHeld.2.2 (fun e => by have := Option.some.inj e; omega)⟩ (fun hHeld => ?_)
      clear hK K hY g hst
      refine takeH (i := 9) (d := (some 11)) (v := ?v42) rfl rfl (by kernel_rfl) (by kernel_rfl) (by kernel_rfl) (fun _ _ _ h => h) (by rfl) ?hy42 (by assumption) ?_
      case hy42 => ((intro w hSw; (try dsimp only at hSw); (try go_split_ands); go_simp); try with_reducible rfl)
      simp only [Act.put, List.setIfInBounds_toArray, List.set_cons_zero, List.set_cons_succ]
      refine wpAnyH_done (by kernel_rfl) ?_ _
      exact HKey.out _ bz cs r ⟨hHeld.1.1, hHeld.1.2, kz2, hbz, hF⟩
  intro W2 bb cs' r' ⟨UW2, uB, kL, hbb, hF'⟩
  replace kA := uB.blk kA
  replace kR := uB.blk kR
  replace kS := uB.blk kS
  have l3 := blk_lt kR
  obtain ⟨hd1, hd2, hd3, hd4⟩ := HD.out
  rcases YB.out cs' r' hF' with ⟨rfl, d', ha1, ha2, ha3, ha4⟩ | ⟨rfl, _, hno⟩
  case inr => exact absurd hd1 (hno d)
  have v1 := hd3.at_ _ hin.out
  have v2 := ha3.at_ _ hin.out
  have hx := HFAR.out _ ha1
  simp only [ha2] at hx
  have HT := Lib.hid (show T.Told ts (m11, m12) (m21, m22) (-(d' (m11, m12))) (d (m11, m12)) from
    ⟨fun y hy => by have a := hd4 y hy _ H1.out; have b := ha4 y hy _ H1.out; exact ⟨by omega, by omega⟩, ⟨_, ha1, by simp only [ha2]; omega⟩, ⟨d, hd1, by rw [hd2]; omega⟩⟩)
  clear hd1 hd2 hd3 hd4 ha1 ha2 ha3 ha4 hF' HD YB HFB uB UW1 kW kB l0 l2
  obtain ⟨x, hxx⟩ : ∃ z, d' (m11, m12) = z := ⟨_, rfl⟩
  obtain ⟨y, hyy⟩ : ∃ z, d (m11, m12) = z := ⟨_, rfl⟩
  obtain ⟨p, hp⟩ : ∃ z, T.pl (m11, m12) = z := ⟨_, rfl⟩
  rw [hxx] at v2 HT hx
  rw [hyy] at v1 HT
  have HP2 := Lib.hid (fun B w => show Calls Try.prog 72 #[.pointer (some ⟨B, 0, none⟩), MoV m11 m12] w fun e w' => e = .returned (.pointer (some ⟨B, p, none⟩)) ∧ Up w w' from by rw [← hp]; exact HP.out B w)
  rw [hp] at v1 v2
  have ew : IntKind.i64.wrap (-x) = -x := IntWalk.i64_in _ (by omega)
  obtain ⟨nx, hnx⟩ : ∃ z, -x = z := ⟨_, rfl⟩
  rw [hnx] at ew HT
  clear HP hin H1 hxx hyy hp HFAR hx
  have hmx : Try.prog.follows .mixedOrders = true := by kernel_rfl
  have F1 := Lib.hid (fun w (u : Up W2 w) => show w.cell? ⟨ba, p, none⟩ = some (.int .i64 y) from (cellB (u.blk kS) p).trans v1)
  have F2 := Lib.hid (fun w (u : Up W2 w) => show w.cell? ⟨bb, p, none⟩ = some (.int .i64 x) from (cellB (u.blk kL) p).trans v2)
  have F3 := Lib.hid (fun w (u : Up W2 w) => cellB (u.blk kA))
  clear v1 v2 kA kS kL
  go_wp2_with fail
  refine (wpIn_wide (n := 5)).1 ?_
  refine wpIn_nrm ?_
  refine T.regionQ (fun w' => Up W2 w') 10 2 hmx (by kernel_rfl) (by kernel_rfl) ((Up.refl W2).drew) (fun hCl => ?_)
  refine T.qTake (i := 0) (d := (some 29)) (v := ?v43) rfl rfl (by kernel_rfl) (by decide) hCl (by kernel_rfl) (by kernel_rfl) (by kernel_rfl) (by rfl) ?hy43 (fun _ _ _ => trivial) (fun hCl' => ?_)
  case hy43 => (intro w hSw; refine T.qVal ?_ hSw; (have f1 := F1.out w hSw; have f2 := F2.out w hSw; have f3 := F3.out w hSw); go_simp; try with_reducible rfl)
  simp only [Act.put, List.setIfInBounds_toArray, List.set_cons_zero, List.set_cons_succ]
  replace hCl := hCl'; clear hCl'
  refine T.qTake (i := 5) (d := (some 34)) (v := ?v44) rfl rfl (by kernel_rfl) (by decide) hCl (by kernel_rfl) (by kernel_rfl) (by kernel_rfl) (by rfl) ?hy44 (fun _ _ _ => trivial) (fun hCl' => ?_)
  case hy44 => (intro w hSw; refine T.qVal ?_ hSw; (have f1 := F1.out w hSw; have f2 := F2.out w hSw; have f3 := F3.out w hSw); go_simp; try with_reducible rfl)
  simp only [Act.put, List.setIfInBounds_toArray, List.set_cons_zero, List.set_cons_succ]
  replace hCl := hCl'; clear hCl'
  refine T.qTake (i := 1) (d := (some 30)) (v := (.pointer (some ⟨bb, p, none⟩))) rfl rfl (by kernel_rfl) (by decide) hCl (by kernel_rfl) (by kernel_rfl) (by kernel_rfl) (by rfl) ?hy45 (fun _ _ _ => trivial) (fun hCl' => ?_)
  case hy45 => (intro w hSw; (have f1 := F1.out w hSw; have f2 := F2.out w hSw; have f3 := F3.out w hSw); go_simp; (refine (callsIn_wide.2 (HP2.out bb w)).mono ?_; rintro e w3 ⟨rfl, u3⟩; exact ⟨rfl, hSw.trans u3⟩))
  simp only [Act.put, List.setIfInBounds_toArray, List.set_cons_zero, List.set_cons_succ]
  replace hCl := hCl'; clear hCl'
  refine T.qTake (i := 2) (d := (some 31)) (v := ?v46) rfl rfl (by kernel_rfl) (by decide) hCl (by kernel_rfl) (by kernel_rfl) (by kernel_rfl) (by rfl) ?hy46 (fun _ _ _ => trivial) (fun hCl' => ?_)
  case hy46 => (intro w hSw; refine T.qVal ?_ hSw; (have f1 := F1.out w hSw; have f2 := F2.out w hSw; have f3 := F3.out w hSw); go_simp; try with_reducible rfl)
  simp only [Act.put, List.setIfInBounds_toArray, List.set_cons_zero, List.set_cons_succ]
  replace hCl := hCl'; clear hCl'
  refine T.qTake (i := 3) (d := (some 32)) (v := ?v47) rfl rfl (by kernel_rfl) (by decide) hCl (by kernel_rfl) (by kernel_rfl) (by kernel_rfl) (by rfl) ?hy47 (fun _ _ _ => trivial) (fun hCl' => ?_)
  case hy47 => (intro w hSw; refine T.qVal ?_ hSw; (have f1 := F1.out w hSw; have f2 := F2.out w hSw; have f3 := F3.out w hSw); go_simp; try with_reducible rfl)
  simp only [Act.put, List.setIfInBounds_toArray, List.set_cons_zero, List.set_cons_succ]
  replace hCl := hCl'; clear hCl'
  refine T.qTake (i := 4) (d := (some 33)) (v := ?v48) rfl rfl (by kernel_rfl) (by decide) hCl (by kernel_rfl) (by kernel_rfl) (by kernel_rfl) (by rfl) ?hy48 (fun _ _ _ => trivial) (fun hCl' => ?_)
  case hy48 => (intro w hSw; refine T.qVal ?_ hSw; (have f1 := F1.out w hSw; have f2 := F2.out w hSw; have f3 := F3.out w hSw); go_simp; try with_reducible rfl)
  simp only [Act.put, List.setIfInBounds_toArray, List.set_cons_zero, List.set_cons_succ]
  replace hCl := hCl'; clear hCl'
  refine T.qTake (i := 6) (d := (some 35)) (v := (.pointer (some ⟨ba, p, none⟩))) rfl rfl (by kernel_rfl) (by decide) hCl (by kernel_rfl) (by kernel_rfl) (by kernel_rfl) (by rfl) ?hy49 (fun _ _ _ => trivial) (fun hCl' => ?_)
  case hy49 => (intro w hSw; (have f1 := F1.out w hSw; have f2 := F2.out w hSw; have f3 := F3.out w hSw); go_simp; (refine (callsIn_wide.2 (HP2.out ba w)).mono ?_; rintro e w3 ⟨rfl, u3⟩; exact ⟨rfl, hSw.trans u3⟩))
  simp only [Act.put, List.setIfInBounds_toArray, List.set_cons_zero, List.set_cons_succ]
  replace hCl := hCl'; clear hCl'
  refine T.qTake (i := 7) (d := (some 36)) (v := ?v50) rfl rfl (by kernel_rfl) (by decide) hCl (by kernel_rfl) (by kernel_rfl) (by kernel_rfl) (by rfl) ?hy50 (fun _ _ _ => trivial) (fun hCl' => ?_)
  case hy50 => (intro w hSw; refine T.qVal ?_ hSw; (have f1 := F1.out w hSw; have f2 := F2.out w hSw; have f3 := F3.out w hSw); go_simp; try with_reducible rfl)
  simp only [Act.put, List.setIfInBounds_toArray, List.set_cons_zero, List.set_cons_succ]
  replace hCl := hCl'; clear hCl'
  refine T.qTake (i := 8) (d := (some 37)) (v := ?v51) rfl rfl (by kernel_rfl) (by decide) hCl (by kernel_rfl) (by kernel_rfl) (by kernel_rfl) (by rfl) ?hy51 (fun _ _ _ => trivial) (fun hCl' => ?_)
  case hy51 => (intro w hSw; refine T.qVal ?_ hSw; (have f1 := F1.out w hSw; have f2 := F2.out w hSw; have f3 := F3.out w hSw); go_simp; try with_reducible rfl)
  simp only [Act.put, List.setIfInBounds_toArray, List.set_cons_zero, List.set_cons_succ]
  replace hCl := hCl'; clear hCl'
  refine T.qTake (i := 9) (d := (some 38)) (v := ?v52) rfl rfl (by kernel_rfl) (by decide) hCl (by kernel_rfl) (by kernel_rfl) (by kernel_rfl) (by rfl) ?hy52 (fun _ _ _ => trivial) (fun hCl' => ?_)
  case hy52 => (intro w hSw; refine T.qVal ?_ hSw; (have f1 := F1.out w hSw; have f2 := F2.out w hSw; have f3 := F3.out w hSw); go_simp; try with_reducible rfl)
  simp only [Act.put, List.setIfInBounds_toArray, List.set_cons_zero, List.set_cons_succ]
  replace hCl := hCl'; clear hCl'
  refine T.tail_intro (by kernel_rfl) (fun Y hY => ?_)
  have kR2 := hY.blk kR
  have fR := frozB kR2
  have cR := cellB kR2
  have lY := blk_lt kR2
  refine lastG (i := 10) (by kernel_rfl) rfl (by rfl) (by decide) (fun K hK => ?_)
  go_simp
  refine hK.out _ _ ?_
  clear hK K
  refine lastG (i := 11) (by kernel_rfl) rfl (by rfl) (by decide) (fun K hK => ?_)
  go_simp
  refine hK.out _ _ ?_
  clear hK K
  refine doneG (by kernel_rfl) ?_ _
  refine S.nrm_intro ?_
  obtain ⟨Z, hZ⟩ : ∃ z, (Y.setCell ⟨q3, 0, none⟩ (.int .i64 nx)).setCell ⟨q3, 1, none⟩ (.int .i64 y) = z := ⟨_, rfl⟩
  have UZ : Up w Z := by rw [← hZ]; exact ((UW2.trans hY).set (p := ⟨q3, 0, none⟩) (by show w.heap.size ≤ q3; omega) _).set (p := ⟨q3, 1, none⟩) (by show w.heap.size ≤ q3; omega) _
  have cZ : ∀ j, Z.cell? ⟨q3, j, none⟩ = (#[Value.int .i64 nx, .int .i64 y] : Array Value)[j]? := by rw [← hZ]; exact cellB (blk_put (blk_put kR2 0 _) 1 _)
  rw [hZ]
  clear hZ fR cR kR2 kR
  go_wp2_with fail
  exact bodyPost_ret (v := .tuple #[SpV nx y, .int .i64 0]) (by simp [results, Try.results53, go_sem, cZ]) rfl ⟨.inl ⟨_, _, rfl, HT.out⟩, UZ⟩
end

end Go.Proofs.Ytcmdaiklkdeanaa
