import Derived.Test.YtcmdaiklkdeanaaAsk
/- The contract of best. -/
namespace Go.Proofs.Ytcmdaiklkdeanaa
open Go.RowKit Go.Shelf
attribute [local go_sem] Oper.semAt_some

/-- the first of the least of so many -/
def T.bst (wd : Nat → Int) : Nat → Nat × Int
  | 0 => (0, 0)
  | k + 1 => if k = 0 ∨ wd k < (T.bst wd k).2 then (k, wd k) else T.bst wd k
theorem T.bst_lt (wd : Nat → Int) : ∀ k, (T.bst wd k).1 ≤ k
  | 0 => Nat.le_refl _
  | k + 1 => by
    unfold T.bst
    split
    · show k ≤ k + 1; omega
    · have := T.bst_lt wd k; omega
section
variable {H : Nat} {aR aO aP aT : Option Addr} {nR cR nO cO nP cP nT cT : Nat} {b0 b1 b2 b3 b4 : Bool}
set_option maxRecDepth 100000 in
set_option maxHeartbeats 2000000 in
theorem best_yes {w : World} (hH : H ≤ 12) (hR : nR ≤ 5) {ts : List T.T6} {h : Int} (I : Tis w (.slice aT nT cT) ts) (W : T.WebOk nR H ts) (hh : 0 ≤ h ∧ h ≤ H) {Lo Hi : Nat → Int} (q : ∀ k : Nat, k < nR → T.Told ts ((k : Int), h) (-1, 0) (Lo k) (Hi k)) :
    Calls Try.prog 63 #[WeV H (.slice aR nR cR) (.slice aO nO cO) (.slice aP nP cP) b0 b1 b2 b3 b4 (.slice aT nT cT), .int .i64 h] w fun e w' => e = .returned (.tuple #[.int .i64 (T.bst (fun k => Hi k - Lo k) nR).1, .int .i64 (T.bst (fun k => Hi k - Lo k) nR).2, .int .i64 0]) ∧ Up w w' := by
  have HA := Lib.hid (fun w' (u : Up w w') (k : Nat) (hk : k < nR) => offset_is (b0 := b0) (b1 := b1) (b2 := b2) (b3 := b3) (b4 := b4) (aR := aR) (aO := aO) (aP := aP) (nO := nO) (nP := nP) (cR := cR) (cO := cO) (cP := cP) hH hR (I.up u) W (k := (k : Int)) (h := h) ⟨by omega, by omega⟩ hh (.inl ⟨rfl, q k hk⟩))
  have HB := Lib.hid (show ∀ k, k < nR → -200000 ≤ Lo k ∧ Lo k ≤ Hi k ∧ Hi k ≤ 200000 from fun k hk => by
    obtain ⟨a, ⟨y, y1, y2⟩, z, z1, z2⟩ := q k hk
    have m1 : ((k : Int), h) ∈ T.moms nR H := T.mem_moms.2 (.inr ⟨⟨by omega, by omega⟩, hh⟩)
    have m2 : ((-1 : Int), (0 : Int)) ∈ T.moms nR H := T.mem_moms.2 (.inl ⟨rfl, rfl⟩)
    have := W.far y y1 _ m2 _ m1
    have := W.far z z1 _ m1 _ m2
    have := a z z1
    omega)
  clear I W q
  go_enter Try.func63, Try.ntmps63
  go_wp2_with fail
  obtain ⟨W0, hW0⟩ : ∃ x, w.alloc (.cells (WeC H (.slice aR nR cR) (.slice aO nO cO) (.slice aP nP cP) b0 b1 b2 b3 b4 (.slice aT nT cT)) 82) = x := ⟨_, rfl⟩
  obtain ⟨q0, e0⟩ : ∃ x, w.heap.size = x := ⟨_, rfl⟩
  have U0 : Up w W0 := by rw [← hW0]; exact (Up.refl w).alloc _
  have kW : mblk W0 q0 = some (.cells (WeC H (.slice aR nR cR) (.slice aO nO cO) (.slice aP nP cP) b0 b1 b2 b3 b4 (.slice aT nT cT)) 82 (0, 0)) := by rw [← hW0]; exact blk_new _ _ _ e0.symm
  rw [hW0, e0]
  clear hW0
  go_loopw [7, 8, 18] (fun b l i wr => ∃ k : Nat, k ≤ nR ∧ i = .int .i64 k ∧ b = .int .i64 (T.bst (fun k => Hi k - Lo k) k).1 ∧ l = .int .i64 (T.bst (fun k => Hi k - Lo k) k).2 ∧ Up w wr ∧ mblk wr q0 = some (.cells (WeC H (.slice aR nR cR) (.slice aO nO cO) (.slice aP nP cP) b0 b1 b2 b3 b4 (.slice aT nT cT)) 82 (0, 0))) (fun _ _ i _ => nR - (intOf i).toNat)
  case atStart => exact ⟨0, Nat.zero_le _, rfl, rfl, rfl, U0, kW⟩
  case round =>
    clear U0 kW
    obtain ⟨k, hk, rfl, rfl, rfl, V, kW⟩ := hrel
    by_cases hlt : k < nR
    · have lW := blk_lt kW
      have bb := HB.out k hlt
      have HN := Lib.hid (show T.bst (fun k => Hi k - Lo k) (k + 1) = if k = 0 ∨ Hi k - Lo k < (T.bst (fun k => Hi k - Lo k) k).2 then (k, Hi k - Lo k) else T.bst (fun k => Hi k - Lo k) k from rfl)
      have hC := HA.out wr V k hlt
      generalize hst : T.bst (fun k => Hi k - Lo k) k = st at *
      obtain ⟨b, l⟩ := st
      generalize Lo k = lo at *
      generalize Hi k = hi at *
      have ew : IntKind.i64.wrap (hi - lo) = hi - lo := IntWalk.i64_in _ (by omega)
      clear hst bb
      go_wp2_with fail
      refine hC.mono ?_
      rintro e w1 ⟨rfl, u1⟩
      replace kW := u1.blk kW
      replace V := V.trans u1
      have lW1 := blk_lt kW
      clear hC u1
      have V2 := V.alloc (.cells #[.int .i64 lo, .int .i64 hi] 34)
      have kW2 := blk_keep (.cells #[.int .i64 lo, .int .i64 hi] 34) kW
      by_cases h0 : k = 0
      · have hz : ((k : Int) == 0) = true := by rw [beq_iff_eq]; omega
        have hx : (k = 0 ∨ hi - lo < l) := .inl h0
        rw [if_pos hx] at HN
        have h0' : (k : Int) = 0 := by omega
        go_wp2
        go_round
        case rel => exact ⟨k + 1, by omega, by go_num, by rw [HN.out]; simp [h0], by rw [HN.out], V2, kW2⟩
        case measure => simp [intOf]; omega
      · have hz : ((k : Int) == 0) = false := by rw [beq_eq_false_iff_ne]; omega
        have h0' : ¬ (k : Int) = 0 := by omega
        by_cases hl : hi - lo < l
        · rw [if_pos (.inr hl)] at HN
          go_wp2
          go_round
          case rel => exact ⟨k + 1, by omega, by go_num, by rw [HN.out], by rw [HN.out], V2, kW2⟩
          case measure => simp [intOf]; omega
        · rw [if_neg (by omega)] at HN
          go_wp2
          go_round
          case rel => exact ⟨k + 1, by omega, by go_num, by rw [HN.out], by rw [HN.out], V2, kW2⟩
          case measure => simp [intOf]; omega
    · obtain rfl : k = nR := by omega
      go_wp2
      go_ret3
      exact ⟨rfl, V⟩
set_option maxRecDepth 100000 in
set_option maxHeartbeats 2000000 in
theorem best_no {w : World} (hH : H ≤ 12) (hR : nR ≤ 5) (h0 : 1 ≤ nR) {ts : List T.T6} {h : Int} (I : Tis w (.slice aT nT cT) ts) (W : T.WebOk nR H ts) (hh : 0 ≤ h ∧ h ≤ H) (q : ∀ y, ¬ T.Sat T.sHi ts y) :
    Calls Try.prog 63 #[WeV H (.slice aR nR cR) (.slice aO nO cO) (.slice aP nP cP) b0 b1 b2 b3 b4 (.slice aT nT cT), .int .i64 h] w fun e w' => e = .returned (.tuple #[.int .i64 0, .int .i64 0, .int .i64 22]) ∧ Up w w' := by
  have HA := Lib.hid (fun w' (u : Up w w') => offset_is (b0 := b0) (b1 := b1) (b2 := b2) (b3 := b3) (b4 := b4) (aR := aR) (aO := aO) (aP := aP) (nO := nO) (nP := nP) (cR := cR) (cO := cO) (cP := cP) hH hR (I.up u) W (k := 0) (h := h) ⟨by omega, by omega⟩ hh (.inr ⟨rfl, rfl, rfl, q⟩))
  clear I W q
  have UA := (Up.refl w).alloc (.cells (WeC H (.slice aR nR cR) (.slice aO nO cO) (.slice aP nP cP) b0 b1 b2 b3 b4 (.slice aT nT cT)) 82)
  have lt : (0 : Int) < (nR : Int) := by omega
  go_enter Try.func63, Try.ntmps63
  go_wp2_with fail
  obtain ⟨W0, hW0⟩ : ∃ x, w.alloc (.cells (WeC H (.slice aR nR cR) (.slice aO nO cO) (.slice aP nP cP) b0 b1 b2 b3 b4 (.slice aT nT cT)) 82) = x := ⟨_, rfl⟩
  obtain ⟨q0, e0⟩ : ∃ x, w.heap.size = x := ⟨_, rfl⟩
  have U0 : Up w W0 := by rw [← hW0]; exact (Up.refl w).alloc _
  have kW : mblk W0 q0 = some (.cells (WeC H (.slice aR nR cR) (.slice aO nO cO) (.slice aP nP cP) b0 b1 b2 b3 b4 (.slice aT nT cT)) 82 (0, 0)) := by rw [← hW0]; exact blk_new _ _ _ e0.symm
  rw [hW0, e0]
  clear hW0 UA
  go_loopw [7, 8, 18] (fun b l i wr => i = .int .i64 0 ∧ Up w wr ∧ mblk wr q0 = some (.cells (WeC H (.slice aR nR cR) (.slice aO nO cO) (.slice aP nP cP) b0 b1 b2 b3 b4 (.slice aT nT cT)) 82 (0, 0))) (fun _ _ _ _ => 0)
  case atStart => exact ⟨rfl, U0, kW⟩
  case round =>
    clear U0 kW
    obtain ⟨rfl, V, kW⟩ := hrel
    have lW := blk_lt kW
    have hC := HA.out wr V
    go_wp2_with fail
    refine hC.mono ?_
    rintro e w1 ⟨rfl, u1⟩
    replace V := V.trans u1
    have V2 := V.alloc (.cells #[.int .i64 0, .int .i64 0] 34)
    clear hC u1 kW
    go_wp2
    go_ret3
    exact ⟨rfl, V2⟩
end

end Go.Proofs.Ytcmdaiklkdeanaa
