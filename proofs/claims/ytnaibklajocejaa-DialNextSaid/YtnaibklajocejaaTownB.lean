import Derived.Test.YtnaibklajocejaaTownA
/- The contract of dial's isTown. -/
namespace Go.Proofs.Ytnaibklajocejaa
open Go.RowKit

/-- the changes as they lie in memory -/
structure Chgs (w : World) (b off : Nat) (M : List (Int × Int)) : Prop where
  lt : b < w.heap.size
  tick : ∀ k, k < M.length → w.cell? ⟨b, off + k * 2, none⟩ = some (.int .i64 (M.getD k (0, 0)).1)
  ahead : ∀ k, k < M.length → w.cell? ⟨b, off + k * 2 + 1, none⟩ = some (.int .i64 (M.getD k (0, 0)).2)
theorem Chgs.up {w w' : World} {b off : Nat} {M : List (Int × Int)} (h : Chgs w b off M) (u : Up w w') : Chgs w' b off M :=
  ⟨Nat.lt_of_lt_of_le h.lt u.size, fun k hk => (u.facts.1 b _ h.lt).trans (h.tick k hk), fun k hk => (u.facts.1 b _ h.lt).trans (h.ahead k hk)⟩

/-- are all changes' minutes as they may be? -/
def D.aheads (M : List (Int × Int)) : Bool := M.all fun z => inB z.2 (-1440) 1440

theorem isTown_ahead {cs : Array Value} (hsz : cs.size = 15) (ah : Int) (a : Option Addr) (n c : Nat) (w : World) (hv : inB ah (-1440) 1440 = false) :
    Calls Try.prog 90 #[.agg cs, .agg #[.int .i64 ah, .slice a n c]] w fun e w' => e = .returned (.bool false) ∧ Up w w' := by
  have hs := Lib.hid hsz
  have K := fun w => isAhead_any ah w
  rw [hv] at K
  have HK := Lib.hid K
  clear K hv hsz
  go_enter Try.func90, Try.ntmps90
  go_wp2_with fail
  refine (HK.out _).mono ?_
  rintro e w1 ⟨rfl, rfl⟩
  go_wp2
  go_ret
  exact ⟨rfl, ((Up.refl _).alloc _).alloc _⟩

theorem isTown_many {cs : Array Value} (hsz : cs.size = 15) (ah : Int) (a : Option Addr) (n c : Nat) (w : World) (hv : inB ah (-1440) 1440 = true) (hn : 6 < n) (hn2 : n ≤ 9223372036854775807) :
    Calls Try.prog 90 #[.agg cs, .agg #[.int .i64 ah, .slice a n c]] w fun e w' => e = .returned (.bool false) ∧ Up w w' := by
  have hs := Lib.hid hsz
  have g : (6 : Int) < (n : Int) := by omega
  have K := fun w => isAhead_any ah w
  rw [hv] at K
  have HK := Lib.hid K
  clear K hv hsz
  go_enter Try.func90, Try.ntmps90
  go_wp2_with fail
  refine (HK.out _).mono ?_
  rintro e w1 ⟨rfl, rfl⟩
  go_wp2
  go_ret
  exact ⟨rfl, ((Up.refl _).alloc _).alloc _⟩

set_option maxRecDepth 100000 in
theorem isTown_nil {cs : Array Value} (hsz : cs.size = 15) (ah : Int) (a : Option Addr) (c : Nat) (w : World) (hv : inB ah (-1440) 1440 = true) :
    Calls Try.prog 90 #[.agg cs, .agg #[.int .i64 ah, .slice a 0 c]] w fun e w' => e = .returned (.bool true) ∧ Up w w' := by
  have hs := Lib.hid hsz
  have K := fun w => isAhead_any ah w
  rw [hv] at K
  have HK := Lib.hid K
  clear K hv hsz
  go_enter Try.func90, Try.ntmps90
  go_wp2_with fail
  refine (HK.out _).mono ?_
  rintro e w1 ⟨rfl, rfl⟩
  go_wp2_with fail
  refine wp_loop_rounds 1 ?_
  rw [rounds_succ]
  go_wp2_with fail
  refine (increasing_nil _ _ _).mono ?_
  rintro e w1 ⟨rfl, u1⟩
  go_wp2
  go_ret
  exact ⟨rfl, (((Up.refl _).alloc _).alloc _).trans u1⟩

set_option maxRecDepth 100000 in
set_option maxHeartbeats 1000000 in
theorem isTown_any {cs : Array Value} (hsz : cs.size = 15) (p : Int → Bool) (hF : ∀ n w, Calls Try.prog 58 #[.agg cs, .int .i64 n] w fun e w' => e = .returned (.bool (p n)) ∧ Up w w')
    (ah : Int) (b off c : Nat) (M : List (Int × Int)) (hn0 : 0 < M.length) (hn : M.length ≤ 6) (w : World) (hD : Chgs w b off M) (hv : inB ah (-1440) 1440 = true) :
    Calls Try.prog 90 #[.agg cs, .agg #[.int .i64 ah, .slice (some ⟨b, off, none⟩) M.length c]] w fun e w' => e = .returned (.bool (D.aheads M && D.incr p 0 (M.map (·.1)))) ∧ Up w w' := by
  have hs := Lib.hid hsz
  obtain ⟨i0, hi, hz0, hz1, hz2⟩ := info_parts Try.infoInt
  have g : ¬ (6 : Int) < (M.length : Int) := by omega
  have HD := Lib.hid hD
  have HF := Lib.hid hF
  have K := fun w => isAhead_any ah w
  rw [hv] at K
  have HK := Lib.hid K
  clear K hv hsz hD hF
  go_enter Try.func90, Try.ntmps90
  go_wp2_with fail
  refine (HK.out _).mono ?_
  rintro e w1 ⟨rfl, rfl⟩
  clear HK
  go_wp2_with fail
  go_loopw [5, 7, 21] (fun l _ i wr => ∃ k : Nat, k ≤ M.length ∧ i = .int .i64 k ∧ wr.ownsRow (w.heap.size + 1 + 1) 3 1 l k (((M.take k).map (·.1)).map (Value.int .i64)) ∧ mblk wr w.heap.size = some (.cells cs 87) ∧ Up w wr ∧ Hid (D.aheads (M.take k) = true)) (fun _ _ i _ => M.length - (intOf i).toNat)
  case atStart => exact ⟨0, Nat.zero_le _, rfl, by simpa using World.ownsRow_nil _ _ _ _, blk_keep _ (blk_new _ _ _ rfl), ((Up.refl _).alloc _).alloc _, rfl⟩
  case round =>
    obtain ⟨k, hk, rfl, hown, k1, U1, hA⟩ := hrel
    have l1 := blk_lt k1
    by_cases hlt : k < M.length
    · have dd := HD.out.up U1
      have e1 := dd.tick k hlt
      have e2 := dd.ahead k hlt
      have e3 := dd.lt
      have hmem : M.getD k (0, 0) ∈ M := by
        rw [List.getD_eq_getElem?_getD, List.getElem?_eq_getElem hlt]; exact List.getElem_mem hlt
      have hal : D.aheads (M.take (k + 1)) = (D.aheads (M.take k) && inB (M.getD k (0, 0)).2 (-1440) 1440) := by
        rw [D.aheads, List.take_succ_eq_append_getElem hlt, List.all_append, List.getD_eq_getElem?_getD, List.getElem?_eq_getElem hlt]; simp [D.aheads]
      rw [hA.out, Bool.true_and] at hal
      have hno : inB (M.getD k (0, 0)).2 (-1440) 1440 = false → D.aheads M = false := by
        intro q
        rw [D.aheads, List.all_eq_false]
        exact ⟨_, hmem, by rw [q]; simp⟩
      have HN := Lib.hid hno
      have HL := Lib.hid hal
      generalize hz : M.getD k (0, 0) = z at *
      have hts := Lib.hid (show (M.take (k + 1)).map (·.1) = (M.take k).map (·.1) ++ [z.1] by
        rw [List.take_succ_eq_append_getElem hlt, List.map_append, ← hz, List.getD_eq_getElem?_getD, List.getElem?_eq_getElem hlt]; rfl)
      have KA := fun w => isAhead_any z.2 w
      clear hz dd hno hal hmem hA
      cases hb : inB z.2 (-1440) 1440
      · rw [hb] at KA
        have HZ := Lib.hid (HN.out hb)
        have HKA := Lib.hid KA
        clear KA HN HL hb
        go_wp2_with fail
        refine (HKA.out _).mono ?_
        rintro e w2 ⟨rfl, rfl⟩
        go_wp2
        go_ret
        exact ⟨by rw [HZ.out]; rfl, U1.alloc _⟩
      · rw [hb] at KA
        rw [hb] at HL
        have HKA := Lib.hid KA
        clear KA HN hb
        go_wp2_with fail
        refine (HKA.out _).mono ?_
        rintro e w2 ⟨rfl, rfl⟩
        clear HKA
        go_wp2_with (at_builtin; refine wpList_append_own _ rfl (.tmp 29) (.tmp 32) 49 rfl (w.heap.size + 1 + 1) 3 i0 (.int .i64 0) 1 8 Try.underlying49 hi hz0 hz1 hz2 rfl (by decide) _ k _ rfl ((hown.alloc _).alloc _) ⟨wr.heap.size + 1, 0, none⟩ 1 1 [.int .i64 z.1] rfl rfl (cell_one_at _ _ _ _ (by simp)) (by simp [Value.oneCell']) (by unfold maxLen; omega) (by omega) (by have := U1.size; simp; omega) ?_; intro v' w3 hown3 hgrow3 _)
        have k3 := grown_blk hgrow3 (blk_keep _ (blk_keep _ k1)) (own_ne hown (by omega))
        have U3 := ((U1.alloc _).alloc _).grown hgrow3 (fun j hj => by have := own_block hown hj; omega)
        clear hgrow3 hown e1 e2 e3 U1 k1
        go_wp2
        go_roundw
        case rel => exact ⟨k + 1, by omega, by go_num, by rw [hts.out, List.map_append]; exact hown3, k3, U3, HL.out⟩
        case measure => simp [intOf]; omega
    · obtain rfl : k = M.length := by omega
      obtain ⟨g', cap, rfl⟩ := Joins.ownsRow_form hown hn0
      rw [List.take_length] at hown hA
      have KI := increasing_hasReading p cs HF.out 0 g' cap (M.map (·.1)) wr (by rw [List.length_map]; omega)
        (fun _ => by
          have := hown.cellAt 0 (by omega)
          rw [List.getElem?_eq_getElem (by simp; omega)] at this
          exact World.block_lt_of_cell? _ _ this)
        (fun k hk => by
          rw [List.length_map] at hk
          rw [hown.cellAt k (by omega), List.getElem?_map, List.getD_eq_getElem?_getD, List.getElem?_eq_getElem (by rw [List.length_map]; exact hk)]
          rfl)
      rw [List.length_map] at KI
      have HK := Lib.hid KI
      clear KI hown
      go_wp2_with fail
      refine HK.out.mono ?_
      rintro e w3 ⟨rfl, u3⟩
      go_wp2
      go_ret
      exact ⟨by rw [hA.out]; rfl, U1.trans u3⟩

end Go.Proofs.Ytnaibklajocejaa
