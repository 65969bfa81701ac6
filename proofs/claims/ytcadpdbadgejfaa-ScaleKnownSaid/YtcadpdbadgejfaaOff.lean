import Derived.Test.YtcadpdbadgejfaaNar
/- The contract of offsets. -/
namespace Go.Proofs.Ytcadpdbadgejfaa
open Go.RowKit Go.Shelf
theorem zero_off : Try.zeroCells108 = OZ := by kernel_rfl
attribute [local go_sem] zero_off

theorem S.OC.congr {cs : Array Value} {o o' : S.Ofs} (h : S.OC cs o) (he : ∀ i, i < 61 → o i = o' i) : S.OC cs o' :=
  ⟨h.size, fun i hi => by rw [← he i hi]; exact h.lo i hi, fun i hi => by rw [← he i hi]; exact h.hi i hi⟩
theorem OZ_oc : S.OC OZ (fun _ => (0, 0)) := ⟨OZ_size, fun i hi => OZ_at _ (by omega), fun i hi => OZ_at _ (by omega)⟩
theorem S.Bk.Left.same {b : S.Bk} {o o' : S.Ofs} (h : b.Left o o') (ht : b.ticks ≤ 60) (he : ∀ i, i < 61 → o' i = o i) : o' = o := by
  funext i
  by_cases hi : i < 61
  · exact he i hi
  · exact h.past i (by omega)

section
variable {f s j : Int} {a a' : Option Addr} {n1 c n2 c' : Nat}
set_option maxRecDepth 100000 in
set_option maxHeartbeats 4000000 in
theorem offsets_any {b : S.Bk} (hb : b.Good) {w : World} (I : Ints w (.slice a n1 c) b.steer) (I' : Lks w (.slice a' n2 c') b.looks) :
    Calls Try.prog 75 #[BV f s j b.lo b.hi b.ticks (.slice a n1 c) (.slice a' n2 c')] w fun e w' => Up w w' ∧ ((∃ cs o, e = .returned (.tuple #[.agg cs, .int .i64 0]) ∧ S.OC cs o ∧ S.Fine o ∧ b.Fix o ∧ b.Holds o) ∨ (e = .returned (.tuple #[.agg OZ, .int .i64 42]) ∧ ∀ v, ¬ b.Tru v)) := by
  have HNr := Lib.hid (fun (o : S.Ofs) (hF : S.Fine o) (cs : Array Value) (hcs : S.OC cs o) w' (u : Up w w') => narrow_any (f := f) (s := s) (j := j) hb hF hcs (I.up u) (I'.up u))
  have t60 := hb.t2
  clear hb I I'
  have U0 := (((Up.refl w).alloc (.cells (BC f s j b.lo b.hi b.ticks (.slice a n1 c) (.slice a' n2 c')) 104)).alloc (.cells OZ 108)).alloc (.cells OZ 108)
  have k1 := blk_keep (.cells OZ 108) (blk_keep (.cells OZ 108) (blk_new w (.cells (BC f s j b.lo b.hi b.ticks (.slice a n1 c) (.slice a' n2 c')) 104) w.heap.size rfl))
  have k2 := blk_keep (.cells OZ 108) (blk_new (w.alloc (.cells (BC f s j b.lo b.hi b.ticks (.slice a n1 c) (.slice a' n2 c')) 104)) (.cells OZ 108) (w.heap.size + 1) (by simp))
  have k4 := blk_new ((w.alloc (.cells (BC f s j b.lo b.hi b.ticks (.slice a n1 c) (.slice a' n2 c')) 104)).alloc (.cells OZ 108)) (.cells OZ 108) (w.heap.size + 1 + 1) (by simp)
  go_enter Try.func75, Try.ntmps75
  go_wp2_with fail
  go_loopw [8] (fun i wr => ∃ (k : Nat) (ck : Array Value) (ok : S.Ofs), k ≤ 61 ∧ i = .int .i64 k ∧ mblk wr w.heap.size = some (.cells (BC f s j b.lo b.hi b.ticks (.slice a n1 c) (.slice a' n2 c')) 104 (0, 0)) ∧ mblk wr (w.heap.size + 1) = some (.cells OZ 108 (0, 0)) ∧ mblk wr (w.heap.size + 1 + 1) = some (.cells ck 108 (0, 0)) ∧ S.OC ck ok ∧ (∀ i, i < k → ok i = (-20000, 20000)) ∧ Up w wr) (fun i _ => 61 - (intOf i).toNat)
  case atStart => exact ⟨0, OZ, _, Nat.zero_le _, rfl, k1, k2, k4, OZ_oc, fun i hi => absurd hi (Nat.not_lt_zero _), U0⟩
  case round =>
    clear k1 k2 k4 U0
    obtain ⟨k, ck, ok, hk, rfl, k1, k2, k4, hoc, hd, U⟩ := hrel
    by_cases hlt : k < 61
    · have k61 : (k : Int) < 61 := by omega
      have z4 := frozB k4
      have c4 := cellB k4
      have d1 := hoc.lo k hlt
      have d2 := hoc.hi k hlt
      have h2 := Lib.hid (hoc.put hlt (-20000) 20000)
      obtain ⟨cr, hcr⟩ : ∃ cr, (ck.setIfInBounds (k * 2) (.int .i64 (-20000))).setIfInBounds (k * 2 + 1) (.int .i64 20000) = cr := ⟨_, rfl⟩
      rw [hcr] at h2
      obtain ⟨W2, hW2⟩ : ∃ W2, (wr.setCell ⟨w.heap.size + 1 + 1, k * 2, none⟩ (.int .i64 (-20000))).setCell ⟨w.heap.size + 1 + 1, k * 2 + 1, none⟩ (.int .i64 20000) = W2 := ⟨_, rfl⟩
      have p4 : mblk W2 (w.heap.size + 1 + 1) = some (.cells cr 108 (0, 0)) := by rw [← hW2, ← hcr]; exact blk_put (blk_put k4 _ _) _ _
      have po : ∀ bb, bb ≠ w.heap.size + 1 + 1 → mblk W2 bb = mblk wr bb := fun bb hn => by rw [← hW2, blk_set _ _ _ _ hn, blk_set _ _ _ _ hn]
      have hU2 : Up w W2 := by rw [← hW2]; exact (U.set (by show w.heap.size ≤ w.heap.size + 1 + 1; omega) _).set (by show w.heap.size ≤ w.heap.size + 1 + 1; omega) _
      have hd2 : ∀ i, i < k + 1 → S.put ok k (-20000, 20000) i = (-20000, 20000) := fun i hi => by
        by_cases e : i = k
        · subst e; exact S.put_self _ _ _
        · rw [S.put_ne _ _ e]; exact hd i (by omega)
      have p1 := (po _ (by omega)).trans k1
      have p2 := (po _ (by omega)).trans k2
      clear hcr hd hoc po
      go_wp2
      go_roundw
      case rel => exact ⟨k + 1, cr, _, by omega, by go_num, p1, p2, p4, h2.out, hd2, hU2⟩
      case measure => simp [intOf]; omega
    · obtain rfl : k = 61 := by omega
      have hoc0 : S.OC ck S.ofs0 := hoc.congr hd
      clear hd hlt hk hoc
      go_wp2_with fail
      go_loopg [] (S.width S.ofs0 61) (fun gg wr => ∃ (ck : Array Value) (o : S.Ofs), gg = S.width o 61 ∧ mblk wr w.heap.size = some (.cells (BC f s j b.lo b.hi b.ticks (.slice a n1 c) (.slice a' n2 c')) 104 (0, 0)) ∧ mblk wr (w.heap.size + 1) = some (.cells OZ 108 (0, 0)) ∧ mblk wr (w.heap.size + 1 + 1) = some (.cells ck 108 (0, 0)) ∧ S.OC ck o ∧ S.Fine o ∧ b.Holds o ∧ Up w wr)
      case atStart => exact ⟨ck, S.ofs0, rfl, k1, k2, k4, hoc0, S.fine0, b.holds0, U⟩
      case round =>
        clear k1 k2 k4 hoc0 U
        obtain ⟨ck, o, rfl, k1, k2, k4, hoc, hF, hH, U⟩ := hrel
        have hs := Lib.hid hoc.size
        have hok := hoc.one
        have zok := OZ_ok
        have zsz := Lib.hid OZ_size
        go_wp2_with fail
        refine (HNr.out o hF ck hoc _ U).mono ?_
        rintro e w1 ⟨cn, on, r, rfl, hcn, u1, hy, hn⟩
        have l1 := u1.blk k1
        have l2 := u1.blk k2
        have l4 := u1.blk k4
        have V := U.trans u1
        have hs2 := Lib.hid hcn.size
        have hok2 := hcn.one
        clear k1 k2 k4 u1 U
        cases r with
        | false =>
          have hnone := Lib.hid (hn rfl hH)
          have m2 := blk_keep (.cells cn 108) l2
          have lt2 := blk_lt l2
          have V2 := V.alloc (.cells cn 108)
          have hst := run_offStore_row _ (w.heap.size + 1) OZ OZ m2 zsz zok
          clear hy hn
          go_wp2
          exact bodyPost_ret (results_off rfl _ _ (w.heap.size + 1) OZ rfl (blk_setRow m2 _) OZ_size) rfl ⟨V2.setRow (by omega) _, .inr ⟨rfl, hnone.out⟩⟩
        | true =>
          have hL := hy rfl
          obtain ⟨q, hq, hE⟩ := eqOff hcn hoc hL.fine hF
          have m1 := blk_keep (.cells cn 108) l1
          have m2 := blk_keep (.cells cn 108) l2
          have m4 := blk_keep (.cells cn 108) l4
          have m6 := blk_new w1 (.cells cn 108) _ rfl
          have V2 := V.alloc (.cells cn 108)
          have lt4 := blk_lt l4
          obtain ⟨W2, hW2⟩ : ∃ W2, w1.alloc (.cells cn 108) = W2 := ⟨_, rfl⟩
          obtain ⟨b6, hb6⟩ : ∃ b6, w1.heap.size = b6 := ⟨_, rfl⟩
          rw [hW2] at m1 m2 m4 m6 V2
          rw [hb6] at m6 lt4
          have HL := Lib.hid hL
          have HQ := Lib.hid hq
          clear hy hn l1 l2 l4 V hL hq
          cases q with
          | true =>
            have hsame : on = o := HL.out.same t60 (HQ.out.1 rfl)
            have hfix := Lib.hid (HL.out.fix hsame)
            have hst := run_offStore_row W2 (w.heap.size + 1) OZ ck m2 zsz hok
            go_wp2
            exact bodyPost_ret (results_off rfl _ _ (w.heap.size + 1) ck rfl (blk_setRow m2 _) hs.out) rfl ⟨V2.setRow (by omega) _, .inl ⟨ck, o, rfl, hoc, hF, hfix.out, hH⟩⟩
          | false =>
            have hne : ∃ i, i < 61 ∧ on i ≠ o i := by
              by_cases h : ∀ i, i < 61 → on i = o i
              · have := HQ.out.2 h; cases this
              · obtain ⟨i, hi⟩ := Classical.not_forall.1 h
                exact ⟨i, Classical.not_imp.1 hi⟩
            obtain ⟨i, hi, hni⟩ := hne
            have hlt := S.width_lt HL.out.sub HL.out.fine hi hni
            have hH2 := HL.out.holds hH
            have hF2 := HL.out.fine
            have pk : ∀ bb, bb ≠ w.heap.size + 1 + 1 → mblk (W2.setRow (w.heap.size + 1 + 1) cn) bb = mblk W2 bb := fun bb hn => by
              show (World.setRow _ _ _).heap[bb]? = _
              simp only [World.setRow, Array.getElem?_modify]
              rw [if_neg (Ne.symm hn)]
              rfl
            have p1 := (pk _ (by omega)).trans m1
            have p2 := (pk _ (by omega)).trans m2
            have p4 : mblk (W2.setRow (w.heap.size + 1 + 1) cn) (w.heap.size + 1 + 1) = some (.cells cn 108 (0, 0)) := blk_setRow m4 _
            have V5 : Up w (W2.setRow (w.heap.size + 1 + 1) cn) := V2.setRow (by omega) _
            have hst := run_offStore_row W2 (w.heap.size + 1 + 1) ck cn m4 hs hok2
            clear pk HL HQ hni hH hF
            go_wp2
            go_roundg (S.width on 61)
            case measure => exact hlt
            case rel => exact ⟨cn, on, rfl, p1, p2, p4, hcn, hF2, hH2, V5⟩
end

end Go.Proofs.Ytcadpdbadgejfaa
