import Derived.Test.YtghelfbigbdkkaaCalN
/- A town's cells: how they are built, stored and read; and the contracts of isAhead and isTown. -/
namespace Go.Proofs.Ytghelfbigbdkkaa
open Go.RowKit

/-- a town's cells: its calendar's, and its own two -/
def twn (cs : Array Value) (ah : Int) (a : Option Addr) (n c : Nat) : Array Value := cs ++ #[.int .i64 ah, .slice a n c]
theorem twn_size {cs : Array Value} (h : cs.size = 15) (ah : Int) (a : Option Addr) (n c : Nat) : (twn cs ah a n c).size = 17 := by simp [twn, h]
theorem twn_15 {cs : Array Value} (h : cs.size = 15) (ah : Int) (a : Option Addr) (n c : Nat) : (twn cs ah a n c)[15]? = some (.int .i64 ah) := by
  rw [twn, Array.getElem?_append_right (by omega), h]; rfl
theorem twn_16 {cs : Array Value} (h : cs.size = 15) (ah : Int) (a : Option Addr) (n c : Nat) : (twn cs ah a n c)[16]? = some (.slice a n c) := by
  rw [twn, Array.getElem?_append_right (by omega), h]; rfl
theorem twn_lo {cs : Array Value} (h : cs.size = 15) (ah : Int) (a : Option Addr) (n c : Nat) (i : Nat) (hi : i < 15) : (twn cs ah a n c)[i]? = cs[i]? := by
  rw [twn, Array.getElem?_append_left (by omega)]
theorem twn_all {cs : Array Value} (h : cs.all (·.oneCell') = true) (ah : Int) (a : Option Addr) (n c : Nat) : (twn cs ah a n c).all (·.oneCell') = true := by
  simp only [twn, Array.all_append, h, Bool.true_and]
  simp [Value.oneCell']
theorem cells15 {cs : Array Value} (h : cs.size = 15) : ∃ v0 v1 v2 v3 v4 v5 v6 v7 v8 v9 v10 v11 v12 v13 v14 : Value, cs = #[v0, v1, v2, v3, v4, v5, v6, v7, v8, v9, v10, v11, v12, v13, v14] := by
  obtain ⟨l⟩ := cs
  match l, h with
  | [v0, v1, v2, v3, v4, v5, v6, v7, v8, v9, v10, v11, v12, v13, v14], _ => exact ⟨v0, v1, v2, v3, v4, v5, v6, v7, v8, v9, v10, v11, v12, v13, v14, rfl⟩

/-- a whole town is read, stored, built -/
def townLoad (v : Value) : Sem Value := Instr.loadAt 74 v
theorem townLoad_eq (v : Value) : Instr.loadAt 74 v = townLoad v := rfl
theorem Try.infoTown : (Try.prog.info? 74).map (·.size) = some 17 := by kernel_rfl
theorem run_townLoad (w : World) (b : Nat) (cs : Array Value) (hg : mblk w b = some (.cells cs 74 (0, 0))) (hs : Hid (cs.size = 17)) : (townLoad (.pointer (some ⟨b, 0, none⟩))).run Try.prog w = .ok (.agg cs) w := by
  have q := run_loadVar_row w b 74 74 cs (0, 0) _ hg Try.underlying74 rfl (by rw [Try.infoTown, hs.out])
  simp only [townLoad, Instr.loadAt, Instr.sureAddr, Sem.run_bind, Sem.run_pure, Result.andThen_ok, q]
def Ok17 (cs : Array Value) : Prop := cs.size = 17 ∧ cs.all (·.oneCell') = true
def townStore (p v : Value) : Sem Unit := Instr.storeAt 74 p v
theorem townStore_eq (p v : Value) : Instr.storeAt 74 p v = townStore p v := rfl
theorem run_townStore (w : World) (c cs : Array Value) (n : Nat) (hn : n = w.heap.size) (hc : c.size = 17) (hs : Ok17 cs) :
    (townStore (.pointer (some ⟨n, 0, none⟩)) (.agg cs)).run Try.prog (w.alloc (.cells c 74)) = .ok () (w.alloc (.cells cs 74)) := by
  subst hn
  have q := run_storeVar_new (P := Try.prog) w 74 c cs (by rw [Try.infoTown, hs.1]) (by rw [hc, hs.1]) hs.2
  simp only [townStore, Instr.storeAt, Instr.sureAddr, Sem.run_bind, Sem.run_pure, Result.andThen_ok, q]
theorem run_townStore_row (w : World) (b : Nat) (old cs : Array Value) (hg : mblk w b = some (.cells old 74 (0, 0))) (ho : Hid (old.size = 17)) (hs : Ok17 cs) :
    (townStore (.pointer (some ⟨b, 0, none⟩)) (.agg cs)).run Try.prog w = .ok () (w.setRow b cs) := by
  have q := run_storeVar_row (P := Try.prog) w b 74 74 old cs hg (by rw [Try.infoTown, hs.1]) (by rw [ho.out, hs.1]) hs.2
  simp only [townStore, Instr.storeAt, Instr.sureAddr, Sem.run_bind, Sem.run_pure, Result.andThen_ok, q]
def townBuild (ps : Array (Nat × Value)) : Sem Value := Instr.build 74 ps
theorem townBuild_eq (ps : Array (Nat × Value)) : Instr.build 74 ps = townBuild ps := rfl
theorem run_townBuild_lit (v0 v1 v2 v3 v4 v5 v6 v7 v8 v9 v10 v11 v12 v13 v14 : Value) (ah : Int) (a : Option Addr) (n c : Nat) (w : World) : (Instr.build 74 #[(0, .agg #[v0, v1, v2, v3, v4, v5, v6, v7, v8, v9, v10, v11, v12, v13, v14]), (1, .agg #[.int .i64 ah, .slice a n c])]).run Try.prog w = .ok (.agg #[v0, v1, v2, v3, v4, v5, v6, v7, v8, v9, v10, v11, v12, v13, v14, .int .i64 ah, .slice a n c]) w := by kernel_rfl
theorem run_townBuild (cs : Array Value) (ah : Int) (a : Option Addr) (n c : Nat) (w : World) (hs : Hid (cs.size = 15)) : (townBuild #[(0, .agg cs), (1, .agg #[.int .i64 ah, .slice a n c])]).run Try.prog w = .ok (.agg (twn cs ah a n c)) w := by
  obtain ⟨v0, v1, v2, v3, v4, v5, v6, v7, v8, v9, v10, v11, v12, v13, v14, rfl⟩ := cells15 hs.out
  exact run_townBuild_lit v0 v1 v2 v3 v4 v5 v6 v7 v8 v9 v10 v11 v12 v13 v14 ah a n c w
/-- the cells of no town -/
def D.townN : Array Value := #[.int .i64 0, .int .i64 0, .int .i64 0, .int .i64 0, .slice none 0 0, .int .i64 0, .int .i64 0, .int .i64 0, .int .i64 0, .int .i64 0, .int .i64 0, .int .i64 0, .int .i64 0, .int .i64 0, .int .i64 0, .int .i64 0, .slice none 0 0]
theorem run_townBuild_no (w : World) : (townBuild #[]).run Try.prog w = .ok (.agg D.townN) w := by kernel_rfl
theorem townN_ok : Ok17 D.townN := ⟨rfl, by simp [D.townN, Value.oneCell']⟩
/-- a town's cells, and its calendar's -/
structure Town (ts cs : Array Value) (ah : Int) (a : Option Addr) (n c : Nat) : Prop where
  size : cs.size = 15
  all : ts = twn cs ah a n c
/-- the calendar's cells in a town's -/
def calOf (ts : Array Value) : Array Value := ts.extract 0 15
theorem run_calLoad_town (w : World) (b : Nat) (ts : Array Value) (hg : mblk w b = some (.cells ts 74 (0, 0))) (hz : Hid (ts.size = 17)) : (calLoad (.pointer (some ⟨b, 0, none⟩))).run Try.prog w = .ok (.agg (calOf ts)) w := by
  have hc : (calOf ts).size = 15 := by simp [calOf, hz.out]
  have hl : (loadCells ⟨b, 0, none⟩ (calOf ts).toList.length).run Try.prog w = .ok (calOf ts).toList.toArray w :=
    run_loadCells_list (P := Try.prog) w ⟨b, 0, none⟩ (calOf ts).toList (fun j v hv => by
      have hj : j < 15 := by
        have h1 := (List.getElem?_eq_some_iff.1 hv).1
        rw [Array.length_toList, hc] at h1
        exact h1
      have hadd : (⟨b, 0, none⟩ : Addr).add j = ⟨b, j, none⟩ := by unfold Addr.add; split <;> simp_all
      rw [hadd, cellB hg]
      rw [Array.getElem?_toList, calOf, Array.getElem?_extract, hz.out] at hv
      simpa [hj] using hv)
  have e : (Try.prog.info? 62).map (·.size) = some 15 := by kernel_rfl
  cases hq : Try.prog.info? 62 with
  | none => simp [hq] at e
  | some i =>
    have hi : i.size = (calOf ts).size := by rw [hc]; simpa [hq] using e
    have hagg : (isAgg 62).run Try.prog w = .ok true w := by
      unfold isAgg
      rw [Sem.run_bind, run_underlying Try.underlying62 w]
      rfl
    simp only [Array.length_toList, Array.toArray_toList] at hl
    simp only [calLoad, Instr.loadAt, Instr.sureAddr, Sem.run_bind, Sem.run_pure, Result.andThen_ok]
    simp [loadVar, Sem.run_bind, hagg, sizeOf, typeInfo, hq, hi, hl]
theorem cell_town {w : World} {b : Nat} {ts : Array Value} (h : mblk w b = some (.cells ts 74 (0, 0))) (j : Nat) : w.cell? ⟨b, j, none⟩ = ts[j]? := cellB h j
theorem Town.is (cs : Array Value) (h : cs.size = 15) (ah : Int) (a : Option Addr) (n c : Nat) : Town (twn cs ah a n c) cs ah a n c := ⟨h, rfl⟩
theorem Town.t15 {ts cs : Array Value} {ah : Int} {a : Option Addr} {n c : Nat} (T : Town ts cs ah a n c) : ts[15]? = some (.int .i64 ah) := by rw [T.all]; exact twn_15 T.size ah a n c
theorem Town.t16 {ts cs : Array Value} {ah : Int} {a : Option Addr} {n c : Nat} (T : Town ts cs ah a n c) : ts[16]? = some (.slice a n c) := by rw [T.all]; exact twn_16 T.size ah a n c
theorem Town.sz {ts cs : Array Value} {ah : Int} {a : Option Addr} {n c : Nat} (T : Town ts cs ah a n c) : ts.size = 17 := by rw [T.all]; exact twn_size T.size ah a n c
theorem Town.cal {ts cs : Array Value} {ah : Int} {a : Option Addr} {n c : Nat} (T : Town ts cs ah a n c) : calOf ts = cs := by rw [T.all, calOf, twn, ← T.size, Array.extract_append]; simp
attribute [go_sem ↓] townLoad_eq townStore_eq townBuild_eq
attribute [go_sem] run_townLoad run_townStore run_townBuild run_townBuild_no run_calLoad_town cell_town

theorem isAhead_any (k : Int) (w : World) : Calls Try.prog 60 #[.int .i64 k] w fun e w' => e = .returned (.bool (inB k (-1440) 1440)) ∧ w = w' := by
  go_enter Try.func60, Try.ntmps60
  go_wp2_with fail
  refine (within_any _ _ _ _).mono ?_
  rintro e w1 ⟨rfl, rfl⟩
  go_wp2
  go_ret
  exact ⟨rfl, rfl⟩

end Go.Proofs.Ytghelfbigbdkkaa

/- The contract of dial's isTown. -/
namespace Go.Proofs.Ytghelfbigbdkkaa
open Go.RowKit

/-- the changes as they lie in memory -/
structure Chgs (w : World) (b off : Nat) (M : List (Int × Int)) : Prop where
  lt : b < w.heap.size
  tick : ∀ k, k < M.length → w.cell? ⟨b, off + k * 2, none⟩ = some (.int .i64 (M.getD k (0, 0)).1)
  ahead : ∀ k, k < M.length → w.cell? ⟨b, off + k * 2 + 1, none⟩ = some (.int .i64 (M.getD k (0, 0)).2)
theorem Chgs.up {w w' : World} {b off : Nat} {M : List (Int × Int)} (h : Chgs w b off M) (u : Up w w') : Chgs w' b off M :=
  ⟨Nat.lt_of_lt_of_le h.lt u.size, fun k hk => (u.facts.1 b _ h.lt).trans (h.tick k hk), fun k hk => (u.facts.1 b _ h.lt).trans (h.ahead k hk)⟩

/-- are all changes' minutes as they may be? -/
def D.aheads (M : List (Int × Int)) : Bool := M.all fun z => inB z.2 (-1440) 1440

theorem isTown_ahead {cs : Array Value} (hsz : cs.size = 15) (ah : Int) (a : Option Addr) (n c : Nat) (w : World) (hv : inB ah (-1440) 1440 = false) :
    Calls Try.prog 46 #[.agg cs, .agg #[.int .i64 ah, .slice a n c]] w fun e w' => e = .returned (.bool false) ∧ Up w w' := by
  have hs := Lib.hid hsz
  have K := fun w => isAhead_any ah w
  rw [hv] at K
  have HK := Lib.hid K
  clear K hv hsz
  go_enter Try.func46, Try.ntmps46
  go_wp2_with fail
  refine (HK.out _).mono ?_
  rintro e w1 ⟨rfl, rfl⟩
  go_wp2
  go_ret
  exact ⟨rfl, ((Up.refl _).alloc _).alloc _⟩

theorem isTown_many {cs : Array Value} (hsz : cs.size = 15) (ah : Int) (a : Option Addr) (n c : Nat) (w : World) (hv : inB ah (-1440) 1440 = true) (hn : 6 < n) (hn2 : n ≤ 9223372036854775807) :
    Calls Try.prog 46 #[.agg cs, .agg #[.int .i64 ah, .slice a n c]] w fun e w' => e = .returned (.bool false) ∧ Up w w' := by
  have hs := Lib.hid hsz
  have g : (6 : Int) < (n : Int) := by omega
  have K := fun w => isAhead_any ah w
  rw [hv] at K
  have HK := Lib.hid K
  clear K hv hsz
  go_enter Try.func46, Try.ntmps46
  go_wp2_with fail
  refine (HK.out _).mono ?_
  rintro e w1 ⟨rfl, rfl⟩
  go_wp2
  go_ret
  exact ⟨rfl, ((Up.refl _).alloc _).alloc _⟩

set_option maxRecDepth 100000 in
theorem isTown_nil {cs : Array Value} (hsz : cs.size = 15) (ah : Int) (a : Option Addr) (c : Nat) (w : World) (hv : inB ah (-1440) 1440 = true) :
    Calls Try.prog 46 #[.agg cs, .agg #[.int .i64 ah, .slice a 0 c]] w fun e w' => e = .returned (.bool true) ∧ Up w w' := by
  have hs := Lib.hid hsz
  have K := fun w => isAhead_any ah w
  rw [hv] at K
  have HK := Lib.hid K
  clear K hv hsz
  go_enter Try.func46, Try.ntmps46
  go_wp2_with fail
  refine (HK.out _).mono ?_
  rintro e w1 ⟨rfl, rfl⟩
  go_wp2_with fail
  refine wp_loop_rounds 1 ?_
  rw [rounds_succ]
  go_wp2_with fail
  refine (increasing_nil _ _ _).mono ?_
  rintro e w1 ⟨rfl, u1⟩
  go_wp2
  go_ret
  exact ⟨rfl, (((Up.refl _).alloc _).alloc _).trans u1⟩

set_option maxRecDepth 100000 in
set_option maxHeartbeats 1000000 in
theorem isTown_any {cs : Array Value} (hsz : cs.size = 15) (p : Int → Bool) (hF : ∀ n w, Calls Try.prog 24 #[.agg cs, .int .i64 n] w fun e w' => e = .returned (.bool (p n)) ∧ Up w w')
    (ah : Int) (b off c : Nat) (M : List (Int × Int)) (hn0 : 0 < M.length) (hn : M.length ≤ 6) (w : World) (hD : Chgs w b off M) (hv : inB ah (-1440) 1440 = true) :
    Calls Try.prog 46 #[.agg cs, .agg #[.int .i64 ah, .slice (some ⟨b, off, none⟩) M.length c]] w fun e w' => e = .returned (.bool (D.aheads M && D.incr p 0 (M.map (·.1)))) ∧ Up w w' := by
  have hs := Lib.hid hsz
  obtain ⟨i0, hi, hz0, hz1, hz2⟩ := info_parts Try.infoInt
  have g : ¬ (6 : Int) < (M.length : Int) := by omega
  have HD := Lib.hid hD
  have HF := Lib.hid hF
  have K := fun w => isAhead_any ah w
  rw [hv] at K
  have HK := Lib.hid K
  clear K hv hsz hD hF
  go_enter Try.func46, Try.ntmps46
  go_wp2_with fail
  refine (HK.out _).mono ?_
  rintro e w1 ⟨rfl, rfl⟩
  clear HK
  go_wp2_with fail
  go_loopw [5, 7, 21] (fun l _ i wr => ∃ k : Nat, k ≤ M.length ∧ i = .int .i64 k ∧ wr.ownsRow (w.heap.size + 1 + 1) 3 1 l k (((M.take k).map (·.1)).map (Value.int .i64)) ∧ mblk wr w.heap.size = some (.cells cs 62) ∧ Up w wr ∧ Hid (D.aheads (M.take k) = true)) (fun _ _ i _ => M.length - (intOf i).toNat)
  case atStart => exact ⟨0, Nat.zero_le _, rfl, by simpa using World.ownsRow_nil _ _ _ _, blk_keep _ (blk_new _ _ _ rfl), ((Up.refl _).alloc _).alloc _, rfl⟩
  case round =>
    obtain ⟨k, hk, rfl, hown, k1, U1, hA⟩ := hrel
    have l1 := blk_lt k1
    by_cases hlt : k < M.length
    · have dd := HD.out.up U1
      have e1 := dd.tick k hlt
      have e2 := dd.ahead k hlt
      have e3 := dd.lt
      have hmem : M.getD k (0, 0) ∈ M := by
        rw [List.getD_eq_getElem?_getD, List.getElem?_eq_getElem hlt]; exact List.getElem_mem hlt
      have hal : D.aheads (M.take (k + 1)) = (D.aheads (M.take k) && inB (M.getD k (0, 0)).2 (-1440) 1440) := by
        rw [D.aheads, List.take_succ_eq_append_getElem hlt, List.all_append, List.getD_eq_getElem?_getD, List.getElem?_eq_getElem hlt]; simp [D.aheads]
      rw [hA.out, Bool.true_and] at hal
      have hno : inB (M.getD k (0, 0)).2 (-1440) 1440 = false → D.aheads M = false := by
        intro q
        rw [D.aheads, List.all_eq_false]
        exact ⟨_, hmem, by rw [q]; simp⟩
      have HN := Lib.hid hno
      have HL := Lib.hid hal
      generalize hz : M.getD k (0, 0) = z at *
      have hts := Lib.hid (show (M.take (k + 1)).map (·.1) = (M.take k).map (·.1) ++ [z.1] by
        rw [List.take_succ_eq_append_getElem hlt, List.map_append, ← hz, List.getD_eq_getElem?_getD, List.getElem?_eq_getElem hlt]; rfl)
      have KA := fun w => isAhead_any z.2 w
      clear hz dd hno hal hmem hA
      cases hb : inB z.2 (-1440) 1440
      · rw [hb] at KA
        have HZ := Lib.hid (HN.out hb)
        have HKA := Lib.hid KA
        clear KA HN HL hb
        go_wp2_with fail
        refine (HKA.out _).mono ?_
        rintro e w2 ⟨rfl, rfl⟩
        go_wp2
        go_ret
        exact ⟨by rw [HZ.out]; rfl, U1.alloc _⟩
      · rw [hb] at KA
        rw [hb] at HL
        have HKA := Lib.hid KA
        clear KA HN hb
        go_wp2_with fail
        refine (HKA.out _).mono ?_
        rintro e w2 ⟨rfl, rfl⟩
        clear HKA
        go_wp2_with (at_builtin; refine wpList_append_own _ rfl (.tmp 29) (.tmp 32) 45 rfl (w.heap.size + 1 + 1) 3 i0 (.int .i64 0) 1 8 Try.underlying45 hi hz0 hz1 hz2 rfl (by decide) _ k _ rfl ((hown.alloc _).alloc _) ⟨wr.heap.size + 1, 0, none⟩ 1 1 [.int .i64 z.1] rfl rfl (cell_one_at _ _ _ _ (by simp)) (by simp [Value.oneCell']) (by unfold maxLen; omega) (by omega) (by have := U1.size; simp; omega) ?_; intro v' w3 hown3 hgrow3 _)
        have k3 := grown_blk hgrow3 (blk_keep _ (blk_keep _ k1)) (own_ne hown (by omega))
        have U3 := ((U1.alloc _).alloc _).grown hgrow3 (fun j hj => by have := own_block hown hj; omega)
        clear hgrow3 hown e1 e2 e3 U1 k1
        go_wp2
        go_roundw
        case rel => exact ⟨k + 1, by omega, by go_num, by rw [hts.out, List.map_append]; exact hown3, k3, U3, HL.out⟩
        case measure => simp [intOf]; omega
    · obtain rfl : k = M.length := by omega
      obtain ⟨g', cap, rfl⟩ := Joins.ownsRow_form hown hn0
      rw [List.take_length] at hown hA
      have KI := increasing_hasReading p cs HF.out 0 g' cap (M.map (·.1)) wr (by rw [List.length_map]; omega)
        (fun _ => by
          have := hown.cellAt 0 (by omega)
          rw [List.getElem?_eq_getElem (by simp; omega)] at this
          exact World.block_lt_of_cell? _ _ this)
        (fun k hk => by
          rw [List.length_map] at hk
          rw [hown.cellAt k (by omega), List.getElem?_map, List.getD_eq_getElem?_getD, List.getElem?_eq_getElem (by rw [List.length_map]; exact hk)]
          rfl)
      rw [List.length_map] at KI
      have HK := Lib.hid KI
      clear KI hown
      go_wp2_with fail
      refine HK.out.mono ?_
      rintro e w3 ⟨rfl, u3⟩
      go_wp2
      go_ret
      exact ⟨by rw [hA.out]; rfl, U1.trans u3⟩

end Go.Proofs.Ytghelfbigbdkkaa

/- The contracts of dial's newTown and CheckTown. -/
namespace Go.Proofs.Ytghelfbigbdkkaa
open Go.RowKit

/-- a town's changes, as an argument has them -/
structure TownArg (w : World) (a : Option Addr) (n c : Nat) (M : List (Int × Int)) : Prop where
  len : n = M.length
  max : n ≤ 9223372036854775807
  mem : 0 < n → ∃ b off, a = some ⟨b, off, none⟩ ∧ Chgs w b off M
theorem TownArg.up {w w' : World} {a : Option Addr} {n c : Nat} {M : List (Int × Int)} (A : TownArg w a n c M) (u : Up w w') : TownArg w' a n c M :=
  ⟨A.len, A.max, fun h => by obtain ⟨b, off, ha, hD⟩ := A.mem h; exact ⟨b, off, ha, hD.up u⟩⟩

/-- is a town of a calendar of so many ticks valid? -/
def D.townOk (T ah : Int) (M : List (Int × Int)) : Bool := inB ah (-1440) 1440 && (decide (M.length ≤ 6) && (D.aheads M && D.incr (fun t => inB t 0 (T - 1)) 0 (M.map (·.1))))

theorem isTown_is {cs : Array Value} {h m s : Int} {n : Nat} {x : Nat → Int} (V : CalV cs h m s n x) (ah : Int) {a' : Option Addr} {n' c' : Nat} {M : List (Int × Int)} {w : World} (B : TownArg w a' n' c' M) :
    Calls Try.prog 46 #[.agg cs, .agg #[.int .i64 ah, .slice a' n' c']] w fun e w' => e = .returned (.bool (D.townOk (D.beg h m s x n) ah M)) ∧ Up w w' := by
  have hl := B.len
  cases hv : inB ah (-1440) 1440
  · have e : D.townOk (D.beg h m s x n) ah M = false := by simp [D.townOk, hv]
    rw [e]; exact isTown_ahead V.cal.size ah a' n' c' w hv
  · by_cases h6 : 6 < n'
    · have e : D.townOk (D.beg h m s x n) ah M = false := by
        have : decide (M.length ≤ 6) = false := by simp; omega
        simp [D.townOk, this]
      rw [e]; exact isTown_many V.cal.size ah a' n' c' w hv h6 B.max
    · have e : D.townOk (D.beg h m s x n) ah M = (D.aheads M && D.incr (fun t => inB t 0 (D.beg h m s x n - 1)) 0 (M.map (·.1))) := by
        have : decide (M.length ≤ 6) = true := by simp; omega
        simp [D.townOk, this, hv]
      rw [e]
      subst hl
      by_cases h0 : 0 < M.length
      · obtain ⟨b, off, rfl, hD⟩ := B.mem h0
        exact isTown_any V.cal.size _ (fun t w => hasReading_any V.cal t w V.h1 V.h2 V.m1 V.m2 V.s1 V.s2 V.d2) ah b off c' M h0 (by omega) w hD hv
      · have : M = [] := List.eq_nil_of_length_eq_zero (by omega)
        subst this
        exact isTown_nil V.cal.size ah a' c' w hv

theorem results_town {fn : Func} {p u : Tmp} (h : fn.results = #[.cell p 74, .tmp u]) (tmps : Array Value) (w : World) (g : Nat) (cs : Array Value) (hp : tmps.getD p undef = .pointer (some ⟨g, 0, none⟩)) (hg : mblk w g = some (.cells cs 74 (0, 0))) (hs : cs.size = 17) :
    (results fn tmps).run Try.prog w = .ok (.tuple #[.agg cs, tmps.getD u undef]) w := by
  rw [results_cell_tmp h, hp]
  simp only [asAddr, Sem.run_pure, Result.andThen_ok, run_loadVar_row w g 74 74 cs (0, 0) _ hg Try.underlying74 rfl (by rw [Try.infoTown, hs])]
theorem twn_ok {cs : Array Value} {h m s : Int} {n : Nat} {x : Nat → Int} (V : CalV cs h m s n x) (ah : Int) (a : Option Addr) (k c : Nat) : Ok17 (twn cs ah a k c) := ⟨twn_size V.cal.size ah a k c, twn_all V.one ah a k c⟩
theorem townN_size : Hid (D.townN.size = 17) := rfl
attribute [local go_sem] run_townStore_row

set_option maxRecDepth 100000 in
set_option maxHeartbeats 1000000 in
theorem newTown_cal {h m s d : Int} {a : Option Addr} {n c : Nat} {L : List (Int × Bool)} {ah : Int} {a' : Option Addr} {n' c' : Nat} {w : World} (A : CalArg w a n c L) (hv : D.valid h m s d L = false) :
    Calls Try.prog 29 #[.agg #[.int .i64 h, .int .i64 m, .int .i64 s, .int .i64 d, .slice a n c], .agg #[.int .i64 ah, .slice a' n' c']] w fun e w' => e = .returned (.tuple #[.agg D.townN, .int .i64 10]) ∧ Up w w' := by
  have K := Lib.hid (newCal_no (A.up (((Up.refl w).alloc (.cells #[.int .i64 h, .int .i64 m, .int .i64 s, .int .i64 d, .slice a n c] 24)).alloc (.cells #[.int .i64 ah, .slice a' n' c'] 44) |>.alloc (.cells D.townN 74))) hv)
  obtain ⟨N, hN⟩ : ∃ N, N = D.calN := ⟨_, rfl⟩
  rw [← hN] at K
  have hs : Hid (N.size = 15) := by rw [hN]; exact calN_size
  have ho : Ok15 N := by rw [hN]; exact calN_ok
  have hto := townN_ok
  have hts := townN_size
  clear hN hv
  go_enter Try.func29, Try.ntmps29
  go_wp2_with fail
  refine K.out.mono ?_
  rintro e w1 ⟨rfl, u1⟩
  have y3 := u1.blk (b := w.heap.size + 1 + 1) (o := .cells D.townN 74) (by rw [blk_new _ _ _ (by simp)])
  have U1 := ((((Up.refl w).alloc _).alloc _).alloc _).trans u1
  clear u1
  go_wp2
  exact bodyPost_ret (results_town rfl _ _ (w.heap.size + 1 + 1) D.townN rfl (blk_setRow (blk_keep _ y3) _) rfl) rfl ⟨rfl, (U1.alloc _).setRow (by omega) _⟩

set_option maxRecDepth 100000 in
set_option maxHeartbeats 1000000 in
theorem newTown_no {h m s d : Int} {a : Option Addr} {n c : Nat} {L : List (Int × Bool)} {ah : Int} {a' : Option Addr} {n' c' : Nat} {M : List (Int × Int)} {w : World} (A : CalArg w a n c L) (B : TownArg w a' n' c' M) (hv : D.valid h m s d L = true) (ht : D.townOk (D.beg h m s (D.deeds L L.length) d.toNat) ah M = false) :
    Calls Try.prog 29 #[.agg #[.int .i64 h, .int .i64 m, .int .i64 s, .int .i64 d, .slice a n c], .agg #[.int .i64 ah, .slice a' n' c']] w fun e w' => e = .returned (.tuple #[.agg D.townN, .int .i64 12]) ∧ Up w w' := by
  obtain ⟨cs, N, rfl, V, K⟩ := newCal_yes (A.up (((Up.refl w).alloc (.cells #[.int .i64 h, .int .i64 m, .int .i64 s, .int .i64 d, .slice a n c] 24)).alloc (.cells #[.int .i64 ah, .slice a' n' c'] 44) |>.alloc (.cells D.townN 74))) hv
  rw [Int.toNat_natCast] at ht
  have HK := Lib.hid K
  have hs := Lib.hid V.cal.size
  have ho : Ok15 cs := ⟨V.cal.size, V.one⟩
  have HT := Lib.hid (fun w' (u : Up w w') => (isTown_is V ah (B.up u)).mono (R' := fun e w'' => e = .returned (.bool false) ∧ Up w' w'') fun e w'' ⟨he, hu⟩ => ⟨by rw [he, ht], hu⟩)
  have hto := townN_ok
  have hts := townN_size
  clear hv K ht
  go_enter Try.func29, Try.ntmps29
  go_wp2_with fail
  refine HK.out.mono ?_
  rintro e w1 ⟨rfl, u1⟩
  have y2 := u1.blk (b := w.heap.size + 1) (o := (.cells #[.int .i64 ah, .slice a' n' c'] 44)) (by rw [blk_past _ _ _ (by simp), blk_new _ _ _ (by simp)])
  have y3 := u1.blk (b := w.heap.size + 1 + 1) (o := .cells D.townN 74) (by rw [blk_new _ _ _ (by simp)])
  have c2 := cellB y2
  have l2 := blk_lt y2
  have U1 := ((((Up.refl w).alloc _).alloc _).alloc _).trans u1
  clear u1
  go_wp2_with fail
  refine (HT.out _ (U1.alloc _)).mono ?_
  rintro e w2 ⟨rfl, u2⟩
  have z3 := u2.blk (blk_keep _ y3)
  have U2 := (U1.alloc _).trans u2
  clear u2 c2 y2 y3 U1
  go_wp2
  exact bodyPost_ret (results_town rfl _ _ (w.heap.size + 1 + 1) D.townN rfl (blk_setRow z3 _) rfl) rfl ⟨rfl, U2.setRow (by omega) _⟩

set_option maxRecDepth 100000 in
set_option maxHeartbeats 1000000 in
theorem newTown_ok {h m s d : Int} {a : Option Addr} {n c : Nat} {L : List (Int × Bool)} {ah : Int} {a' : Option Addr} {n' c' : Nat} {M : List (Int × Int)} {w : World} (A : CalArg w a n c L) (B : TownArg w a' n' c' M) (hv : D.valid h m s d L = true) (ht : D.townOk (D.beg h m s (D.deeds L L.length) d.toNat) ah M = true) :
    ∃ (cs : Array Value) (N : Nat), d = (N : Int) ∧ CalV cs h m s N (D.deeds L L.length) ∧
    Calls Try.prog 29 #[.agg #[.int .i64 h, .int .i64 m, .int .i64 s, .int .i64 d, .slice a n c], .agg #[.int .i64 ah, .slice a' n' c']] w fun e w' => e = .returned (.tuple #[.agg (twn cs ah a' n' c'), .int .i64 0]) ∧ Up w w' := by
  obtain ⟨cs, N, rfl, V, K⟩ := newCal_yes (A.up (((Up.refl w).alloc (.cells #[.int .i64 h, .int .i64 m, .int .i64 s, .int .i64 d, .slice a n c] 24)).alloc (.cells #[.int .i64 ah, .slice a' n' c'] 44) |>.alloc (.cells D.townN 74))) hv
  refine ⟨cs, N, rfl, V, ?_⟩
  rw [Int.toNat_natCast] at ht
  have HK := Lib.hid K
  have hs := Lib.hid V.cal.size
  have ho : Ok15 cs := ⟨V.cal.size, V.one⟩
  have HT := Lib.hid (fun w' (u : Up w w') => (isTown_is V ah (B.up u)).mono (R' := fun e w'' => e = .returned (.bool true) ∧ Up w' w'') fun e w'' ⟨he, hu⟩ => ⟨by rw [he, ht], hu⟩)
  have hto := twn_ok V ah a' n' c'
  have hts := townN_size
  clear hv K ht
  go_enter Try.func29, Try.ntmps29
  go_wp2_with fail
  refine HK.out.mono ?_
  rintro e w1 ⟨rfl, u1⟩
  have y2 := u1.blk (b := w.heap.size + 1) (o := (.cells #[.int .i64 ah, .slice a' n' c'] 44)) (by rw [blk_past _ _ _ (by simp), blk_new _ _ _ (by simp)])
  have y3 := u1.blk (b := w.heap.size + 1 + 1) (o := .cells D.townN 74) (by rw [blk_new _ _ _ (by simp)])
  have c2 := cellB y2
  have l2 := blk_lt y2
  have U1 := ((((Up.refl w).alloc _).alloc _).alloc _).trans u1
  clear u1
  go_wp2_with fail
  refine (HT.out _ (U1.alloc _)).mono ?_
  rintro e w2 ⟨rfl, u2⟩
  have z2 := u2.blk (blk_keep _ y2)
  have z3 := u2.blk (blk_keep _ y3)
  have z4 := u2.blk (blk_new _ _ _ rfl)
  have d2 := cellB z2
  have U2 := (U1.alloc _).trans u2
  clear u2 c2 y2 y3 U1
  go_wp2
  exact bodyPost_ret (results_town rfl _ _ (w.heap.size + 1 + 1) _ rfl (blk_setRow z3 _) hto.1) rfl ⟨rfl, U2.setRow (by omega) _⟩

end Go.Proofs.Ytghelfbigbdkkaa
