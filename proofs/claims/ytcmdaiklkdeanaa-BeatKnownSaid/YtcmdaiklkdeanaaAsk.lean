import Derived.Test.YtcmdaiklkdeanaaApt
/- What is asked of a web: apart, offset, best. -/
namespace Go.Proofs.Ytcmdaiklkdeanaa
open Go.RowKit Go.Shelf
attribute [local go_sem] Oper.semAt_some

theorem T.oc_ex (o : Int × Int → Int) : ∃ cs, T.OC cs o := by
  refine ⟨Array.ofFn (n := 78) fun i => .int .i64 (o (T.mo i)), Array.size_ofFn, fun m hm => ?_⟩
  have hl := hm.lt
  rw [Array.getElem?_ofFn]
  rw [dif_pos hl]
  have e : T.mo (T.pl m) = m := T.pl_inj (T.mo_in hl) hm T.pl_mo
  simp only [e]
theorem T.far_ex (f : Int × Int → Int) (ts : List T.T6) (o : Int × Int → Int) (n : Nat) : ∃ cs r, T.FarIs f ts o n cs r := by
  by_cases h : ∃ j, j < n ∧ T.same (T.it f ts o (j + 1)) (T.it f ts o j)
  · obtain ⟨j, h1, h2⟩ := h
    obtain ⟨cs, hc⟩ := T.oc_ex (T.it f ts o (j + 1))
    exact ⟨cs, true, .inl ⟨rfl, j, h1, h2, hc⟩⟩
  · exact ⟨OZ, false, .inr ⟨rfl, rfl, fun j hj e => h ⟨j, hj, e⟩⟩⟩
theorem T.Told.uniq {ts : List T.T6} {m1 m2 : Int × Int} {l h l' h' : Int} (a : T.Told ts m1 m2 l h) (b : T.Told ts m1 m2 l' h') : l = l' ∧ h = h' := by
  obtain ⟨a1, ⟨x, x1, x2⟩, y, y1, y2⟩ := a
  obtain ⟨b1, ⟨u, u1, u2⟩, v, v1, v2⟩ := b
  have := a1 u u1; have := a1 v v1; have := b1 x x1; have := b1 y y1
  exact ⟨by omega, by omega⟩
/-- what is told of a difference, and the error -/
def T.Asked (ts : List T.T6) (m1 m2 : Int × Int) (l h e : Int) : Prop := (e = 0 ∧ T.Told ts m1 m2 l h) ∨ (e = 22 ∧ l = 0 ∧ h = 0 ∧ ∀ y, ¬ T.Sat T.sHi ts y)
theorem T.Asked.uniq {ts : List T.T6} {m1 m2 : Int × Int} {l h e l' h' e' : Int} (a : T.Asked ts m1 m2 l h e) (b : T.Asked ts m1 m2 l' h' e') : l = l' ∧ h = h' ∧ e = e' := by
  rcases a with ⟨rfl, a⟩ | ⟨rfl, rfl, rfl, a⟩ <;> rcases b with ⟨rfl, b⟩ | ⟨rfl, rfl, rfl, b⟩
  · exact ⟨(a.uniq b).1, (a.uniq b).2, rfl⟩
  · obtain ⟨_, ⟨y, hy, _⟩, _⟩ := a; exact absurd hy (b y)
  · obtain ⟨_, ⟨y, hy, _⟩, _⟩ := b; exact absurd hy (a y)
  · exact ⟨rfl, rfl, rfl⟩
section
variable {H : Nat} {aR aO aP aT : Option Addr} {nR cR nO cO nP cP nT cT : Nat} {b0 b1 b2 b3 b4 : Bool}
theorem T.asked_ex {ts : List T.T6} (W : T.WebOk nR H ts) (hH : H ≤ 12) (hR : nR ≤ 5) {m1 m2 : Int × Int} (h1 : m1 ∈ T.moms nR H) (h2 : m2 ∈ T.moms nR H) : ∃ l h e, T.Asked ts m1 m2 l h e := by
  obtain ⟨cs, r, hF⟩ := T.far_ex T.sHi ts (T.o0 (T.moms nR H) m2) (T.moms nR H).length
  obtain ⟨cs', r', hF'⟩ := T.far_ex T.sLo ts (T.o0 (T.moms nR H) m2) (T.moms nR H).length
  rcases W.yes hH hR h2 hF with ⟨_, d, a1, a2, _, a4⟩ | ⟨_, _, hno⟩
  · rcases W.yes' hH hR h2 hF' with ⟨_, d', c1, c2, _, c4⟩ | ⟨_, _, hno⟩
    · refine ⟨-d' m1, d m1, 0, .inl ⟨rfl, fun y hy => ?_, ⟨_, c1, by simp only [c2]; omega⟩, d, a1, by rw [a2]; omega⟩⟩
      have a := a4 y hy m1 h1; have b := c4 y hy m1 h1
      omega
    · exact absurd a1 (hno d)
  · exact ⟨0, 0, 22, .inr ⟨rfl, rfl, rfl, hno⟩⟩
theorem apart_is {w : World} (hH : H ≤ 12) (hR : nR ≤ 5) {ts : List T.T6} {m1 m2 : Int × Int} (I : Tis w (.slice aT nT cT) ts) (W : T.WebOk nR H ts) (h1 : m1 ∈ T.moms nR H) (h2 : m2 ∈ T.moms nR H) {l h e0 : Int} (q : T.Asked ts m1 m2 l h e0) :
    Calls Try.prog 53 #[WeV H (.slice aR nR cR) (.slice aO nO cO) (.slice aP nP cP) b0 b1 b2 b3 b4 (.slice aT nT cT), MoV m1.1 m1.2, MoV m2.1 m2.2] w fun e w' => e = .returned (.tuple #[SpV l h, .int .i64 e0]) ∧ Up w w' :=
  (apart_any hH hR I W h1 h2).mono fun e w' ⟨ha, u⟩ => by
    refine ⟨?_, u⟩
    rcases ha with ⟨lo, hi, rfl, ht⟩ | ⟨rfl, hno⟩
    · obtain ⟨rfl, rfl, rfl⟩ := q.uniq (.inl ⟨rfl, ht⟩); rfl
    · obtain ⟨rfl, rfl, rfl⟩ := q.uniq (.inr ⟨rfl, rfl, rfl, hno⟩); rfl
set_option maxRecDepth 100000 in
set_option maxHeartbeats 2000000 in
theorem offset_is {w : World} (hH : H ≤ 12) (hR : nR ≤ 5) {ts : List T.T6} {k h : Int} (I : Tis w (.slice aT nT cT) ts) (W : T.WebOk nR H ts) (hk : 0 ≤ k ∧ k < nR) (hh : 0 ≤ h ∧ h ≤ H) {lo hi eE : Int} (q : T.Asked ts (k, h) (-1, 0) lo hi eE) :
    Calls Try.prog 51 #[WeV H (.slice aR nR cR) (.slice aO nO cO) (.slice aP nP cP) b0 b1 b2 b3 b4 (.slice aT nT cT), .int .i64 k, .int .i64 h] w fun e w' => e = .returned (.tuple #[SpV lo hi, .int .i64 eE]) ∧ Up w w' := by
  have HA := Lib.hid (fun w' (u : Up w w') => apart_is (b0 := b0) (b1 := b1) (b2 := b2) (b3 := b3) (b4 := b4) (aR := aR) (aO := aO) (aP := aP) (nO := nO) (nP := nP) (cR := cR) (cO := cO) (cP := cP) hH hR (I.up u) W (m1 := (k, h)) (m2 := (-1, 0)) (T.mem_moms.2 (.inr ⟨hk, hh⟩)) (T.mem_moms.2 (.inl ⟨rfl, rfl⟩)) q)
  have HK := Lib.hid (fun w => at_clock k h w (by omega))
  clear I W q hk hh
  go_enter Try.func51, Try.ntmps51
  go_wp2_with fail
  obtain ⟨W0, hW0⟩ : ∃ x, (w.alloc (.cells (WeC H (.slice aR nR cR) (.slice aO nO cO) (.slice aP nP cP) b0 b1 b2 b3 b4 (.slice aT nT cT)) 82)).alloc (.cells #[.int .i64 0, .int .i64 0] 34) = x := ⟨_, rfl⟩
  obtain ⟨q0, e0⟩ : ∃ x, w.heap.size = x := ⟨_, rfl⟩
  obtain ⟨q1, e1⟩ : ∃ x, q0 + 1 = x := ⟨_, rfl⟩
  have U0 : Up w W0 := by rw [← hW0]; exact ((Up.refl w).alloc _).alloc _
  have kW : mblk W0 q0 = some (.cells (WeC H (.slice aR nR cR) (.slice aO nO cO) (.slice aP nP cP) b0 b1 b2 b3 b4 (.slice aT nT cT)) 82 (0, 0)) := by rw [← hW0]; exact blk_keep _ (blk_new _ _ _ e0.symm)
  have kR : mblk W0 q1 = some (.cells #[.int .i64 0, .int .i64 0] 34 (0, 0)) := by rw [← hW0]; exact blk_new _ _ _ (by simp; omega)
  rw [hW0, e0, e1]
  clear hW0
  have hmx : Try.prog.follows .mixedOrders = true := by kernel_rfl
  have F1 := Lib.hid (fun w (u : Up W0 w) => cellB (u.blk kW))
  refine (wpIn_wide (n := 5)).1 ?_
  refine wpIn_nrm ?_
  refine T.regionQ (fun w' => Up W0 w') 8 2 hmx (by kernel_rfl) (by kernel_rfl) ((Up.refl W0).drew) (fun hCl => ?_)
  refine T.qTake (i := 0) (d := (some 8)) (v := ?v1) rfl rfl (by kernel_rfl) (by decide) hCl (by kernel_rfl) (by kernel_rfl) (by kernel_rfl) (by rfl) ?hy1 (fun _ _ _ => trivial) (fun hCl' => ?_)
  case hy1 => (intro w hSw; refine T.qVal ?_ hSw; (have f1 := F1.out w hSw); go_simp; try with_reducible rfl)
  simp only [Act.put, List.setIfInBounds_toArray, List.set_cons_zero, List.set_cons_succ]
  replace hCl := hCl'; clear hCl'
  refine T.qTake (i := 1) (d := (some 9)) (v := ?v2) rfl rfl (by kernel_rfl) (by decide) hCl (by kernel_rfl) (by kernel_rfl) (by kernel_rfl) (by rfl) ?hy2 (fun _ _ _ => trivial) (fun hCl' => ?_)
  case hy2 => (intro w hSw; refine T.qVal ?_ hSw; (have f1 := F1.out w hSw); go_simp; try with_reducible rfl)
  simp only [Act.put, List.setIfInBounds_toArray, List.set_cons_zero, List.set_cons_succ]
  replace hCl := hCl'; clear hCl'
  refine T.qTake (i := 2) (d := (some 10)) (v := ?v3) rfl rfl (by kernel_rfl) (by decide) hCl (by kernel_rfl) (by kernel_rfl) (by kernel_rfl) (by rfl) ?hy3 (fun _ _ _ => trivial) (fun hCl' => ?_)
  case hy3 => (intro w hSw; refine T.qVal ?_ hSw; (have f1 := F1.out w hSw); go_simp; try with_reducible rfl)
  simp only [Act.put, List.setIfInBounds_toArray, List.set_cons_zero, List.set_cons_succ]
  replace hCl := hCl'; clear hCl'
  refine T.qTake (i := 3) (d := (some 11)) (v := (MoV k h)) rfl rfl (by kernel_rfl) (by decide) hCl (by kernel_rfl) (by kernel_rfl) (by kernel_rfl) (by rfl) ?hy4 (fun _ _ _ => trivial) (fun hCl' => ?_)
  case hy4 => (intro w hSw; (have f1 := F1.out w hSw); go_simp; (refine (callsIn_wide.2 (HK.out w)).mono ?_; rintro e w3 ⟨rfl, u3⟩; exact ⟨rfl, hSw.trans u3⟩))
  simp only [Act.put, List.setIfInBounds_toArray, List.set_cons_zero, List.set_cons_succ]
  replace hCl := hCl'; clear hCl'
  refine T.qTake (i := 4) (d := (some 12)) (v := (MoV (-1) 0)) rfl rfl (by kernel_rfl) (by decide) hCl (by kernel_rfl) (by kernel_rfl) (by kernel_rfl) (by rfl) ?hy5 (fun _ _ _ => trivial) (fun hCl' => ?_)
  case hy5 => (intro w hSw; (have f1 := F1.out w hSw); go_simp; (refine (callsIn_wide.2 (at_true 0 w)).mono ?_; rintro e w3 ⟨rfl, u3⟩; exact ⟨rfl, hSw.trans u3⟩))
  simp only [Act.put, List.setIfInBounds_toArray, List.set_cons_zero, List.set_cons_succ]
  replace hCl := hCl'; clear hCl'
  refine T.qTake (i := 5) (d := (some 13)) (v := (.tuple #[SpV lo hi, .int .i64 eE])) rfl rfl (by kernel_rfl) (by decide) hCl (by kernel_rfl) (by kernel_rfl) (by kernel_rfl) (by rfl) ?hy6 (fun _ _ _ => trivial) (fun hCl' => ?_)
  case hy6 => (intro w hSw; (have f1 := F1.out w hSw); go_simp; (refine (callsIn_wide.2 (HA.out w (U0.trans hSw))).mono ?_; rintro e w3 ⟨rfl, u3⟩; exact ⟨rfl, hSw.trans u3⟩))
  simp only [Act.put, List.setIfInBounds_toArray, List.set_cons_zero, List.set_cons_succ]
  replace hCl := hCl'; clear hCl'
  refine T.qTake (i := 6) (d := (some 14)) (v := ?v7) rfl rfl (by kernel_rfl) (by decide) hCl (by kernel_rfl) (by kernel_rfl) (by kernel_rfl) (by rfl) ?hy7 (fun _ _ _ => trivial) (fun hCl' => ?_)
  case hy7 => (intro w hSw; refine T.qVal ?_ hSw; (have f1 := F1.out w hSw); go_simp; try with_reducible rfl)
  simp only [Act.put, List.setIfInBounds_toArray, List.set_cons_zero, List.set_cons_succ]
  replace hCl := hCl'; clear hCl'
  refine T.qTake (i := 7) (d := (some 15)) (v := ?v8) rfl rfl (by kernel_rfl) (by decide) hCl (by kernel_rfl) (by kernel_rfl) (by kernel_rfl) (by rfl) ?hy8 (fun _ _ _ => trivial) (fun hCl' => ?_)
  case hy8 => (intro w hSw; refine T.qVal ?_ hSw; (have f1 := F1.out w hSw); go_simp; try with_reducible rfl)
  simp only [Act.put, List.setIfInBounds_toArray, List.set_cons_zero, List.set_cons_succ]
  replace hCl := hCl'; clear hCl'
  refine T.tail_intro (by kernel_rfl) (fun Y hY => ?_)
  have kR2 := hY.blk kR
  have fR := frozB kR2
  have cR := cellB kR2
  have lY := blk_lt kR2
  refine lastG (i := 8) (by kernel_rfl) rfl (by rfl) (by decide) (fun K hK => ?_)
  go_simp
  refine hK.out _ _ ?_
  clear hK K
  refine lastG (i := 9) (by kernel_rfl) rfl (by rfl) (by decide) (fun K hK => ?_)
  go_simp
  refine hK.out _ _ ?_
  clear hK K
  refine doneG (by kernel_rfl) ?_ _
  refine S.nrm_intro ?_
  obtain ⟨Z, hZ⟩ : ∃ z, (Y.setCell ⟨q1, 0, none⟩ (.int .i64 lo)).setCell ⟨q1, 1, none⟩ (.int .i64 hi) = z := ⟨_, rfl⟩
  have UZ : Up w Z := by rw [← hZ]; exact ((U0.trans hY).set (p := ⟨q1, 0, none⟩) (by show w.heap.size ≤ q1; omega) _).set (p := ⟨q1, 1, none⟩) (by show w.heap.size ≤ q1; omega) _
  have cZ : ∀ j, Z.cell? ⟨q1, j, none⟩ = (#[Value.int .i64 lo, .int .i64 hi] : Array Value)[j]? := by rw [← hZ]; exact cellB (blk_put (blk_put kR2 0 _) 1 _)
  rw [hZ]
  clear hZ fR cR kR2 kR
  go_wp2_with fail
  exact bodyPost_ret (v := .tuple #[SpV lo hi, .int .i64 eE]) (by simp [results, Try.results51, go_sem, cZ]) rfl ⟨rfl, UZ⟩
end

end Go.Proofs.Ytcmdaiklkdeanaa
