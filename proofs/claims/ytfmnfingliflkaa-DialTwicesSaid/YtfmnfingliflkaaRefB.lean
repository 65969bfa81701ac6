import Derived.Test.YtfmnfingliflkaaLawI
/- The contract of the reference's Check. -/
namespace Go.Proofs.Ytfmnfingliflkaa
open Go.RowKit
attribute [local go_sem] cell_CAL

theorem D.climb_incr {d : Int} (d2 : d ≤ 10) (d1 : 1 ≤ d) (l : List Int) (z : Int) (z0 : 0 ≤ z) : D.climb d z l = D.incr (fun k => inB k 0 (d - 1)) (z - 1) l := by
  induction l generalizing z with
  | nil => rfl
  | cons t l ih =>
    rw [D.climb, D.incr, wrap64_in (z := d - 1) (by omega)]
    by_cases g : z ≤ t ∧ t ≤ d - 1
    · rw [wrap64_in (z := t + 1) (by omega), ih (t + 1) (by omega), show t + 1 - 1 = t by omega]
      have g1 : inB t z (d - 1) = true := inB_yes g.1 g.2
      have g2 : inB t 0 (d - 1) = true := inB_yes (by omega) g.2
      have g3 : decide (z - 1 < t) = true := by simp; omega
      rw [g1, g3]
      simp only [g2, Bool.and_true]
    · have g1 : inB t z (d - 1) = false := inB_no g
      rw [g1, Bool.false_and]
      by_cases g4 : z - 1 < t
      · have g2 : inB t 0 (d - 1) = false := inB_no (by omega)
        simp only [g2, Bool.and_false, Bool.false_and]
      · have g3 : decide (z - 1 < t) = false := by simp; omega
        simp only [g3, Bool.false_and]
theorem D.ownSl {w : World} {base k : Nat} {v : Value} {xs : List Int} (h : w.ownsRow base 3 1 v k (xs.map (Value.int .i64))) (hl : k = xs.length) (h6 : k ≤ 1000000) : D.Sl w v xs := by
  subst hl
  obtain ⟨_, ⟨rfl, h0⟩ | ⟨g, cap, cur, rfl, hb, hg, h3, h4, h5, h7⟩⟩ := h
  · exact ⟨none, 0, by rw [h0], h6, fun hp => by omega⟩
  · refine ⟨_, cap, rfl, h6, fun hp => ⟨g, rfl, blk_lt (b := g) hg, fun j hj => ?_⟩⟩
    have e : (cur.toList.take (xs.length * 1))[j]? = (xs.map (Value.int .i64))[j]? := by rw [h7]
    rw [List.getElem?_take_of_lt (by omega), List.getElem?_map, List.getElem?_eq_getElem hj] at e
    rw [cellB (w := w) hg, List.getD_eq_getElem?_getD, List.getElem?_eq_getElem hj]
    simpa using e

set_option maxRecDepth 100000 in
set_option maxHeartbeats 1000000 in
theorem r_Check_0 {h m s d : Int} {a : Option Addr} {n c : Nat} {L : List (Int × Bool)} {w : World} (A : CalArg w a n c L) (hn : n ≤ 17592186044000) (b0 : inB h 1 24 = false) :
    Calls Try.prog 19 #[.agg #[.int .i64 h, .int .i64 m, .int .i64 s, .int .i64 d, .slice a n c]] w fun e w' => e = .returned (.int .i64 10) ∧ Up w w' := by
  obtain ⟨i0, hin, hz0, hz1, hz2⟩ := info_parts Try.infoInt
  have HA := Lib.hid (fun w' (u : Up w w') => (A.up u).mem)
  have HN := Lib.hid A.len
  have K0 := Lib.hid (l_Lies_any h 1 24)
  rw [b0] at K0
  clear A b0
  go_enter Try.func19, Try.ntmps19
  go_wp2_with fail
  refine (K0.out _).mono ?_
  rintro e w1 ⟨rfl, rfl⟩
  go_wp2_with fail
  go_loopw [4, 5] (fun l i wr => ∃ k : Nat, k ≤ n ∧ i = .int .i64 k ∧ wr.ownsRow (w.heap.size + 1) 3 1 l k (((L.take k).map (·.1)).map (Value.int .i64)) ∧ mblk wr w.heap.size = some (.cells #[.int .i64 h, .int .i64 m, .int .i64 s, .int .i64 d, .slice a n c] 24 (0, 0)) ∧ Up w wr) (fun _ i _ => n - (intOf i).toNat)
  case atStart => exact ⟨0, Nat.zero_le _, rfl, by simpa using World.ownsRow_nil _ _ _ _, blk_new _ _ _ rfl, (Up.refl _).alloc _⟩
  case round =>
    obtain ⟨k, hk, rfl, hown, ck, Uk⟩ := hrel
    have fk := cellB ck
    have lk := blk_lt ck
    by_cases hlt : k < n
    · obtain ⟨b, off, rfl, hD⟩ := HA.out _ Uk (by omega)
      have y1 := hD.day k (by rw [← HN.out]; exact hlt)
      have hbl := hD.lt
      have hkL : k < L.length := by rw [← HN.out]; exact hlt
      have hz : L.getD k (0, false) = L[k] := by rw [List.getD_eq_getElem?_getD, List.getElem?_eq_getElem hkL]; rfl
      have hts := Lib.hid (show (L.take (k + 1)).map (·.1) = (L.take k).map (·.1) ++ [(L.getD k (0, false)).1] by rw [List.take_succ_eq_append_getElem hkL, List.map_append, hz]; rfl)
      generalize (L.getD k (0, false)).1 = q at *
      clear hz hkL hD
      go_wp2_with (at_builtin; refine wpList_append_own _ rfl (.tmp 37) (.tmp 44) 49 rfl (w.heap.size + 1) 3 i0 (.int .i64 0) 1 8 Try.underlying49 hin hz0 hz1 hz2 rfl (by decide) _ k _ rfl (hown.alloc _) ⟨wr.heap.size, 0, none⟩ 1 1 [.int .i64 q] rfl rfl (cell_one_at _ _ _ _ rfl) (by simp [Value.oneCell']) (by unfold maxLen; omega) (by omega) (by simp; omega) ?_; intro v' w3 hown3 hgrow3 _)
      have k3 := grown_blk hgrow3 (blk_keep _ ck) (own_ne hown (by omega))
      have U3 := (Uk.alloc _).grown hgrow3 (fun j hj => by have := own_block hown hj; omega)
      clear hgrow3 hown y1 Uk ck
      go_wp2
      go_roundw
      case rel => exact ⟨k + 1, by omega, by go_num, by rw [hts.out, List.map_append]; exact hown3, k3, U3⟩
      case measure => simp [intOf]; omega
    · obtain rfl : k = n := by omega
      clear HA hown
      go_wp2
      go_ret
      exact ⟨rfl, Uk⟩

set_option maxRecDepth 100000 in
set_option maxHeartbeats 1000000 in
theorem r_Check_1 {h m s d : Int} {a : Option Addr} {n c : Nat} {L : List (Int × Bool)} {w : World} (A : CalArg w a n c L) (hn : n ≤ 17592186044000) (b0 : inB h 1 24 = true) (b1 : inB m 1 60 = false) :
    Calls Try.prog 19 #[.agg #[.int .i64 h, .int .i64 m, .int .i64 s, .int .i64 d, .slice a n c]] w fun e w' => e = .returned (.int .i64 10) ∧ Up w w' := by
  obtain ⟨i0, hin, hz0, hz1, hz2⟩ := info_parts Try.infoInt
  have HA := Lib.hid (fun w' (u : Up w w') => (A.up u).mem)
  have HN := Lib.hid A.len
  have K0 := Lib.hid (l_Lies_any h 1 24)
  rw [b0] at K0
  have K1 := Lib.hid (l_Lies_any m 1 60)
  rw [b1] at K1
  clear A b0 b1
  go_enter Try.func19, Try.ntmps19
  go_wp2_with fail
  refine (K0.out _).mono ?_
  rintro e w1 ⟨rfl, rfl⟩
  go_wp2_with fail
  refine (K1.out _).mono ?_
  rintro e w1 ⟨rfl, rfl⟩
  go_wp2_with fail
  go_loopw [4, 5] (fun l i wr => ∃ k : Nat, k ≤ n ∧ i = .int .i64 k ∧ wr.ownsRow (w.heap.size + 1) 3 1 l k (((L.take k).map (·.1)).map (Value.int .i64)) ∧ mblk wr w.heap.size = some (.cells #[.int .i64 h, .int .i64 m, .int .i64 s, .int .i64 d, .slice a n c] 24 (0, 0)) ∧ Up w wr) (fun _ i _ => n - (intOf i).toNat)
  case atStart => exact ⟨0, Nat.zero_le _, rfl, by simpa using World.ownsRow_nil _ _ _ _, blk_new _ _ _ rfl, (Up.refl _).alloc _⟩
  case round =>
    obtain ⟨k, hk, rfl, hown, ck, Uk⟩ := hrel
    have fk := cellB ck
    have lk := blk_lt ck
    by_cases hlt : k < n
    · obtain ⟨b, off, rfl, hD⟩ := HA.out _ Uk (by omega)
      have y1 := hD.day k (by rw [← HN.out]; exact hlt)
      have hbl := hD.lt
      have hkL : k < L.length := by rw [← HN.out]; exact hlt
      have hz : L.getD k (0, false) = L[k] := by rw [List.getD_eq_getElem?_getD, List.getElem?_eq_getElem hkL]; rfl
      have hts := Lib.hid (show (L.take (k + 1)).map (·.1) = (L.take k).map (·.1) ++ [(L.getD k (0, false)).1] by rw [List.take_succ_eq_append_getElem hkL, List.map_append, hz]; rfl)
      generalize (L.getD k (0, false)).1 = q at *
      clear hz hkL hD
      go_wp2_with (at_builtin; refine wpList_append_own _ rfl (.tmp 37) (.tmp 44) 49 rfl (w.heap.size + 1) 3 i0 (.int .i64 0) 1 8 Try.underlying49 hin hz0 hz1 hz2 rfl (by decide) _ k _ rfl (hown.alloc _) ⟨wr.heap.size, 0, none⟩ 1 1 [.int .i64 q] rfl rfl (cell_one_at _ _ _ _ rfl) (by simp [Value.oneCell']) (by unfold maxLen; omega) (by omega) (by simp; omega) ?_; intro v' w3 hown3 hgrow3 _)
      have k3 := grown_blk hgrow3 (blk_keep _ ck) (own_ne hown (by omega))
      have U3 := (Uk.alloc _).grown hgrow3 (fun j hj => by have := own_block hown hj; omega)
      clear hgrow3 hown y1 Uk ck
      go_wp2
      go_roundw
      case rel => exact ⟨k + 1, by omega, by go_num, by rw [hts.out, List.map_append]; exact hown3, k3, U3⟩
      case measure => simp [intOf]; omega
    · obtain rfl : k = n := by omega
      clear HA hown
      go_wp2
      go_ret
      exact ⟨rfl, Uk⟩

set_option maxRecDepth 100000 in
set_option maxHeartbeats 1000000 in
theorem r_Check_2 {h m s d : Int} {a : Option Addr} {n c : Nat} {L : List (Int × Bool)} {w : World} (A : CalArg w a n c L) (hn : n ≤ 17592186044000) (b0 : inB h 1 24 = true) (b1 : inB m 1 60 = true) (b2 : inB s 2 60 = false) :
    Calls Try.prog 19 #[.agg #[.int .i64 h, .int .i64 m, .int .i64 s, .int .i64 d, .slice a n c]] w fun e w' => e = .returned (.int .i64 10) ∧ Up w w' := by
  obtain ⟨i0, hin, hz0, hz1, hz2⟩ := info_parts Try.infoInt
  have HA := Lib.hid (fun w' (u : Up w w') => (A.up u).mem)
  have HN := Lib.hid A.len
  have K0 := Lib.hid (l_Lies_any h 1 24)
  rw [b0] at K0
  have K1 := Lib.hid (l_Lies_any m 1 60)
  rw [b1] at K1
  have K2 := Lib.hid (l_Lies_any s 2 60)
  rw [b2] at K2
  clear A b0 b1 b2
  go_enter Try.func19, Try.ntmps19
  go_wp2_with fail
  refine (K0.out _).mono ?_
  rintro e w1 ⟨rfl, rfl⟩
  go_wp2_with fail
  refine (K1.out _).mono ?_
  rintro e w1 ⟨rfl, rfl⟩
  go_wp2_with fail
  refine (K2.out _).mono ?_
  rintro e w1 ⟨rfl, rfl⟩
  go_wp2_with fail
  go_loopw [4, 5] (fun l i wr => ∃ k : Nat, k ≤ n ∧ i = .int .i64 k ∧ wr.ownsRow (w.heap.size + 1) 3 1 l k (((L.take k).map (·.1)).map (Value.int .i64)) ∧ mblk wr w.heap.size = some (.cells #[.int .i64 h, .int .i64 m, .int .i64 s, .int .i64 d, .slice a n c] 24 (0, 0)) ∧ Up w wr) (fun _ i _ => n - (intOf i).toNat)
  case atStart => exact ⟨0, Nat.zero_le _, rfl, by simpa using World.ownsRow_nil _ _ _ _, blk_new _ _ _ rfl, (Up.refl _).alloc _⟩
  case round =>
    obtain ⟨k, hk, rfl, hown, ck, Uk⟩ := hrel
    have fk := cellB ck
    have lk := blk_lt ck
    by_cases hlt : k < n
    · obtain ⟨b, off, rfl, hD⟩ := HA.out _ Uk (by omega)
      have y1 := hD.day k (by rw [← HN.out]; exact hlt)
      have hbl := hD.lt
      have hkL : k < L.length := by rw [← HN.out]; exact hlt
      have hz : L.getD k (0, false) = L[k] := by rw [List.getD_eq_getElem?_getD, List.getElem?_eq_getElem hkL]; rfl
      have hts := Lib.hid (show (L.take (k + 1)).map (·.1) = (L.take k).map (·.1) ++ [(L.getD k (0, false)).1] by rw [List.take_succ_eq_append_getElem hkL, List.map_append, hz]; rfl)
      generalize (L.getD k (0, false)).1 = q at *
      clear hz hkL hD
      go_wp2_with (at_builtin; refine wpList_append_own _ rfl (.tmp 37) (.tmp 44) 49 rfl (w.heap.size + 1) 3 i0 (.int .i64 0) 1 8 Try.underlying49 hin hz0 hz1 hz2 rfl (by decide) _ k _ rfl (hown.alloc _) ⟨wr.heap.size, 0, none⟩ 1 1 [.int .i64 q] rfl rfl (cell_one_at _ _ _ _ rfl) (by simp [Value.oneCell']) (by unfold maxLen; omega) (by omega) (by simp; omega) ?_; intro v' w3 hown3 hgrow3 _)
      have k3 := grown_blk hgrow3 (blk_keep _ ck) (own_ne hown (by omega))
      have U3 := (Uk.alloc _).grown hgrow3 (fun j hj => by have := own_block hown hj; omega)
      clear hgrow3 hown y1 Uk ck
      go_wp2
      go_roundw
      case rel => exact ⟨k + 1, by omega, by go_num, by rw [hts.out, List.map_append]; exact hown3, k3, U3⟩
      case measure => simp [intOf]; omega
    · obtain rfl : k = n := by omega
      clear HA hown
      go_wp2
      go_ret
      exact ⟨rfl, Uk⟩

set_option maxRecDepth 100000 in
set_option maxHeartbeats 1000000 in
theorem r_Check_3 {h m s d : Int} {a : Option Addr} {n c : Nat} {L : List (Int × Bool)} {w : World} (A : CalArg w a n c L) (hn : n ≤ 17592186044000) (b0 : inB h 1 24 = true) (b1 : inB m 1 60 = true) (b2 : inB s 2 60 = true) (b3 : inB d 1 10 = false) :
    Calls Try.prog 19 #[.agg #[.int .i64 h, .int .i64 m, .int .i64 s, .int .i64 d, .slice a n c]] w fun e w' => e = .returned (.int .i64 10) ∧ Up w w' := by
  obtain ⟨i0, hin, hz0, hz1, hz2⟩ := info_parts Try.infoInt
  have HA := Lib.hid (fun w' (u : Up w w') => (A.up u).mem)
  have HN := Lib.hid A.len
  have K0 := Lib.hid (l_Lies_any h 1 24)
  rw [b0] at K0
  have K1 := Lib.hid (l_Lies_any m 1 60)
  rw [b1] at K1
  have K2 := Lib.hid (l_Lies_any s 2 60)
  rw [b2] at K2
  have K3 := Lib.hid (l_Lies_any d 1 10)
  rw [b3] at K3
  clear A b0 b1 b2 b3
  go_enter Try.func19, Try.ntmps19
  go_wp2_with fail
  refine (K0.out _).mono ?_
  rintro e w1 ⟨rfl, rfl⟩
  go_wp2_with fail
  refine (K1.out _).mono ?_
  rintro e w1 ⟨rfl, rfl⟩
  go_wp2_with fail
  refine (K2.out _).mono ?_
  rintro e w1 ⟨rfl, rfl⟩
  go_wp2_with fail
  refine (K3.out _).mono ?_
  rintro e w1 ⟨rfl, rfl⟩
  go_wp2_with fail
  go_loopw [4, 5] (fun l i wr => ∃ k : Nat, k ≤ n ∧ i = .int .i64 k ∧ wr.ownsRow (w.heap.size + 1) 3 1 l k (((L.take k).map (·.1)).map (Value.int .i64)) ∧ mblk wr w.heap.size = some (.cells #[.int .i64 h, .int .i64 m, .int .i64 s, .int .i64 d, .slice a n c] 24 (0, 0)) ∧ Up w wr) (fun _ i _ => n - (intOf i).toNat)
  case atStart => exact ⟨0, Nat.zero_le _, rfl, by simpa using World.ownsRow_nil _ _ _ _, blk_new _ _ _ rfl, (Up.refl _).alloc _⟩
  case round =>
    obtain ⟨k, hk, rfl, hown, ck, Uk⟩ := hrel
    have fk := cellB ck
    have lk := blk_lt ck
    by_cases hlt : k < n
    · obtain ⟨b, off, rfl, hD⟩ := HA.out _ Uk (by omega)
      have y1 := hD.day k (by rw [← HN.out]; exact hlt)
      have hbl := hD.lt
      have hkL : k < L.length := by rw [← HN.out]; exact hlt
      have hz : L.getD k (0, false) = L[k] := by rw [List.getD_eq_getElem?_getD, List.getElem?_eq_getElem hkL]; rfl
      have hts := Lib.hid (show (L.take (k + 1)).map (·.1) = (L.take k).map (·.1) ++ [(L.getD k (0, false)).1] by rw [List.take_succ_eq_append_getElem hkL, List.map_append, hz]; rfl)
      generalize (L.getD k (0, false)).1 = q at *
      clear hz hkL hD
      go_wp2_with (at_builtin; refine wpList_append_own _ rfl (.tmp 37) (.tmp 44) 49 rfl (w.heap.size + 1) 3 i0 (.int .i64 0) 1 8 Try.underlying49 hin hz0 hz1 hz2 rfl (by decide) _ k _ rfl (hown.alloc _) ⟨wr.heap.size, 0, none⟩ 1 1 [.int .i64 q] rfl rfl (cell_one_at _ _ _ _ rfl) (by simp [Value.oneCell']) (by unfold maxLen; omega) (by omega) (by simp; omega) ?_; intro v' w3 hown3 hgrow3 _)
      have k3 := grown_blk hgrow3 (blk_keep _ ck) (own_ne hown (by omega))
      have U3 := (Uk.alloc _).grown hgrow3 (fun j hj => by have := own_block hown hj; omega)
      clear hgrow3 hown y1 Uk ck
      go_wp2
      go_roundw
      case rel => exact ⟨k + 1, by omega, by go_num, by rw [hts.out, List.map_append]; exact hown3, k3, U3⟩
      case measure => simp [intOf]; omega
    · obtain rfl : k = n := by omega
      clear HA hown
      go_wp2
      go_ret
      exact ⟨rfl, Uk⟩

set_option maxRecDepth 100000 in
set_option maxHeartbeats 1000000 in
theorem r_Check_4 {h m s d : Int} {a : Option Addr} {n c : Nat} {L : List (Int × Bool)} {w : World} (A : CalArg w a n c L) (hn : n ≤ 17592186044000) (b0 : inB h 1 24 = true) (b1 : inB m 1 60 = true) (b2 : inB s 2 60 = true) (b3 : inB d 1 10 = true) (b4 : ¬ n ≤ 10) :
    Calls Try.prog 19 #[.agg #[.int .i64 h, .int .i64 m, .int .i64 s, .int .i64 d, .slice a n c]] w fun e w' => e = .returned (.int .i64 10) ∧ Up w w' := by
  obtain ⟨i0, hin, hz0, hz1, hz2⟩ := info_parts Try.infoInt
  have HA := Lib.hid (fun w' (u : Up w w') => (A.up u).mem)
  have HN := Lib.hid A.len
  have K0 := Lib.hid (l_Lies_any h 1 24)
  rw [b0] at K0
  have K1 := Lib.hid (l_Lies_any m 1 60)
  rw [b1] at K1
  have K2 := Lib.hid (l_Lies_any s 2 60)
  rw [b2] at K2
  have K3 := Lib.hid (l_Lies_any d 1 10)
  rw [b3] at K3
  have n10 : ¬ ((n : Int) ≤ 10) := by omega
  clear A b0 b1 b2 b3
  go_enter Try.func19, Try.ntmps19
  go_wp2_with fail
  refine (K0.out _).mono ?_
  rintro e w1 ⟨rfl, rfl⟩
  go_wp2_with fail
  refine (K1.out _).mono ?_
  rintro e w1 ⟨rfl, rfl⟩
  go_wp2_with fail
  refine (K2.out _).mono ?_
  rintro e w1 ⟨rfl, rfl⟩
  go_wp2_with fail
  refine (K3.out _).mono ?_
  rintro e w1 ⟨rfl, rfl⟩
  go_wp2_with fail
  go_loopw [4, 5] (fun l i wr => ∃ k : Nat, k ≤ n ∧ i = .int .i64 k ∧ wr.ownsRow (w.heap.size + 1) 3 1 l k (((L.take k).map (·.1)).map (Value.int .i64)) ∧ mblk wr w.heap.size = some (.cells #[.int .i64 h, .int .i64 m, .int .i64 s, .int .i64 d, .slice a n c] 24 (0, 0)) ∧ Up w wr) (fun _ i _ => n - (intOf i).toNat)
  case atStart => exact ⟨0, Nat.zero_le _, rfl, by simpa using World.ownsRow_nil _ _ _ _, blk_new _ _ _ rfl, (Up.refl _).alloc _⟩
  case round =>
    obtain ⟨k, hk, rfl, hown, ck, Uk⟩ := hrel
    have fk := cellB ck
    have lk := blk_lt ck
    by_cases hlt : k < n
    · obtain ⟨b, off, rfl, hD⟩ := HA.out _ Uk (by omega)
      have y1 := hD.day k (by rw [← HN.out]; exact hlt)
      have hbl := hD.lt
      have hkL : k < L.length := by rw [← HN.out]; exact hlt
      have hz : L.getD k (0, false) = L[k] := by rw [List.getD_eq_getElem?_getD, List.getElem?_eq_getElem hkL]; rfl
      have hts := Lib.hid (show (L.take (k + 1)).map (·.1) = (L.take k).map (·.1) ++ [(L.getD k (0, false)).1] by rw [List.take_succ_eq_append_getElem hkL, List.map_append, hz]; rfl)
      generalize (L.getD k (0, false)).1 = q at *
      clear hz hkL hD
      go_wp2_with (at_builtin; refine wpList_append_own _ rfl (.tmp 37) (.tmp 44) 49 rfl (w.heap.size + 1) 3 i0 (.int .i64 0) 1 8 Try.underlying49 hin hz0 hz1 hz2 rfl (by decide) _ k _ rfl (hown.alloc _) ⟨wr.heap.size, 0, none⟩ 1 1 [.int .i64 q] rfl rfl (cell_one_at _ _ _ _ rfl) (by simp [Value.oneCell']) (by unfold maxLen; omega) (by omega) (by simp; omega) ?_; intro v' w3 hown3 hgrow3 _)
      have k3 := grown_blk hgrow3 (blk_keep _ ck) (own_ne hown (by omega))
      have U3 := (Uk.alloc _).grown hgrow3 (fun j hj => by have := own_block hown hj; omega)
      clear hgrow3 hown y1 Uk ck
      go_wp2
      go_roundw
      case rel => exact ⟨k + 1, by omega, by go_num, by rw [hts.out, List.map_append]; exact hown3, k3, U3⟩
      case measure => simp [intOf]; omega
    · obtain rfl : k = n := by omega
      clear HA hown
      go_wp2
      go_ret
      exact ⟨rfl, Uk⟩

set_option maxRecDepth 100000 in
set_option maxHeartbeats 1000000 in
theorem r_Check_5 {h m s d : Int} {a : Option Addr} {n c : Nat} {L : List (Int × Bool)} {w : World} (A : CalArg w a n c L) (hn : n ≤ 17592186044000) (b0 : inB h 1 24 = true) (b1 : inB m 1 60 = true) (b2 : inB s 2 60 = true) (b3 : inB d 1 10 = true) (b4 : n ≤ 10) (cl : Bool) (hcl : D.climb d 0 (L.map (·.1)) = cl) :
    Calls Try.prog 19 #[.agg #[.int .i64 h, .int .i64 m, .int .i64 s, .int .i64 d, .slice a n c]] w fun e w' => e = .returned (.int .i64 (if cl = true then 0 else 10)) ∧ Up w w' := by
  obtain ⟨i0, hin, hz0, hz1, hz2⟩ := info_parts Try.infoInt
  have HA := Lib.hid (fun w' (u : Up w w') => (A.up u).mem)
  have HN := Lib.hid A.len
  have K0 := Lib.hid (l_Lies_any h 1 24)
  rw [b0] at K0
  have K1 := Lib.hid (l_Lies_any m 1 60)
  rw [b1] at K1
  have K2 := Lib.hid (l_Lies_any s 2 60)
  rw [b2] at K2
  have K3 := Lib.hid (l_Lies_any d 1 10)
  rw [b3] at K3
  have n10 : ((n : Int) ≤ 10) := by omega
  clear A b0 b1 b2 b3
  go_enter Try.func19, Try.ntmps19
  go_wp2_with fail
  refine (K0.out _).mono ?_
  rintro e w1 ⟨rfl, rfl⟩
  go_wp2_with fail
  refine (K1.out _).mono ?_
  rintro e w1 ⟨rfl, rfl⟩
  go_wp2_with fail
  refine (K2.out _).mono ?_
  rintro e w1 ⟨rfl, rfl⟩
  go_wp2_with fail
  refine (K3.out _).mono ?_
  rintro e w1 ⟨rfl, rfl⟩
  go_wp2_with fail
  go_loopw [4, 5] (fun l i wr => ∃ k : Nat, k ≤ n ∧ i = .int .i64 k ∧ wr.ownsRow (w.heap.size + 1) 3 1 l k (((L.take k).map (·.1)).map (Value.int .i64)) ∧ mblk wr w.heap.size = some (.cells #[.int .i64 h, .int .i64 m, .int .i64 s, .int .i64 d, .slice a n c] 24 (0, 0)) ∧ Up w wr) (fun _ i _ => n - (intOf i).toNat)
  case atStart => exact ⟨0, Nat.zero_le _, rfl, by simpa using World.ownsRow_nil _ _ _ _, blk_new _ _ _ rfl, (Up.refl _).alloc _⟩
  case round =>
    obtain ⟨k, hk, rfl, hown, ck, Uk⟩ := hrel
    have fk := cellB ck
    have lk := blk_lt ck
    by_cases hlt : k < n
    · obtain ⟨b, off, rfl, hD⟩ := HA.out _ Uk (by omega)
      have y1 := hD.day k (by rw [← HN.out]; exact hlt)
      have hbl := hD.lt
      have hkL : k < L.length := by rw [← HN.out]; exact hlt
      have hz : L.getD k (0, false) = L[k] := by rw [List.getD_eq_getElem?_getD, List.getElem?_eq_getElem hkL]; rfl
      have hts := Lib.hid (show (L.take (k + 1)).map (·.1) = (L.take k).map (·.1) ++ [(L.getD k (0, false)).1] by rw [List.take_succ_eq_append_getElem hkL, List.map_append, hz]; rfl)
      generalize (L.getD k (0, false)).1 = q at *
      clear hz hkL hD
      go_wp2_with (at_builtin; refine wpList_append_own _ rfl (.tmp 37) (.tmp 44) 49 rfl (w.heap.size + 1) 3 i0 (.int .i64 0) 1 8 Try.underlying49 hin hz0 hz1 hz2 rfl (by decide) _ k _ rfl (hown.alloc _) ⟨wr.heap.size, 0, none⟩ 1 1 [.int .i64 q] rfl rfl (cell_one_at _ _ _ _ rfl) (by simp [Value.oneCell']) (by unfold maxLen; omega) (by omega) (by simp; omega) ?_; intro v' w3 hown3 hgrow3 _)
      have k3 := grown_blk hgrow3 (blk_keep _ ck) (own_ne hown (by omega))
      have U3 := (Uk.alloc _).grown hgrow3 (fun j hj => by have := own_block hown hj; omega)
      clear hgrow3 hown y1 Uk ck
      go_wp2
      go_roundw
      case rel => exact ⟨k + 1, by omega, by go_num, by rw [hts.out, List.map_append]; exact hown3, k3, U3⟩
      case measure => simp [intOf]; omega
    · obtain rfl : k = n := by omega
      have hT : L.take k = L := by rw [HN.out, List.take_length]
      rw [hT] at hown
      have SL := D.ownSl hown (by rw [List.length_map]; exact HN.out) (by omega)
      clear hT
      have KC := Lib.hid (l_Climbs_any SL d)
      rw [hcl] at KC
      have hc2 := hcl
      cases cl
      · clear HA hown SL hcl hc2
        go_wp2_with fail
        refine KC.out.mono ?_
        rintro e w5 ⟨rfl, u5⟩
        go_wp2
        go_ret
        exact ⟨rfl, Uk.trans u5⟩
      · clear HA hown SL hcl hc2
        go_wp2_with fail
        refine KC.out.mono ?_
        rintro e w5 ⟨rfl, u5⟩
        go_wp2
        go_ret
        exact ⟨rfl, Uk.trans u5⟩

theorem r_Check_any {h m s d : Int} {a : Option Addr} {n c : Nat} {L : List (Int × Bool)} {w : World} (A : CalArg w a n c L) (hn : n ≤ 17592186044000) :
    Calls Try.prog 19 #[.agg #[.int .i64 h, .int .i64 m, .int .i64 s, .int .i64 d, .slice a n c]] w fun e w' => e = .returned (.int .i64 (if D.valid h m s d L = true then 0 else 10)) ∧ Up w w' := by
  have hl := A.len
  have E : ∀ b : Bool, D.valid h m s d L = b → (if D.valid h m s d L = true then (0 : Int) else 10) = if b = true then 0 else 10 := fun b e => by rw [e]
  cases b0 : inB h 1 24
  · rw [E false (by simp [D.valid, D.sizes, b0])]; exact r_Check_0 A hn b0
  cases b1 : inB m 1 60
  · rw [E false (by simp [D.valid, D.sizes, b1])]; exact r_Check_1 A hn b0 b1
  cases b2 : inB s 2 60
  · rw [E false (by simp [D.valid, D.sizes, b2])]; exact r_Check_2 A hn b0 b1 b2
  cases b3 : inB d 1 10
  · rw [E false (by simp [D.valid, D.sizes, b3])]; exact r_Check_3 A hn b0 b1 b2 b3
  by_cases b4 : n ≤ 10
  · have hd := inB_iff.1 b3
    have ev : D.valid h m s d L = D.climb d 0 (L.map (·.1)) := by
      rw [D.climb_incr hd.2 hd.1 _ 0 (Int.le_refl _)]
      simp only [D.valid, D.sizes, b0, b1, b2, b3, Bool.true_and, Int.zero_sub]
      rw [decide_eq_true (by omega), Bool.true_and]
    rw [E _ ev]
    exact r_Check_5 A hn b0 b1 b2 b3 b4 _ rfl
  · have ev : D.valid h m s d L = false := by
      simp only [D.valid]
      rw [decide_eq_false (by omega), Bool.false_and, Bool.and_false]
    rw [E false ev]; exact r_Check_4 A hn b0 b1 b2 b3 b4

end Go.Proofs.Ytfmnfingliflkaa
