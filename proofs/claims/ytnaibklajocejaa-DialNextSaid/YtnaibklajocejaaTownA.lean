import Derived.Test.YtnaibklajocejaaCalP
/- A town's cells: how they are built, stored and read; and the contracts of isAhead and isTown. -/
namespace Go.Proofs.Ytnaibklajocejaa
open Go.RowKit

/-- a town's cells: its calendar's, and its own two -/
def twn (cs : Array Value) (ah : Int) (a : Option Addr) (n c : Nat) : Array Value := cs ++ #[.int .i64 ah, .slice a n c]
theorem twn_size {cs : Array Value} (h : cs.size = 15) (ah : Int) (a : Option Addr) (n c : Nat) : (twn cs ah a n c).size = 17 := by simp [twn, h]
theorem twn_15 {cs : Array Value} (h : cs.size = 15) (ah : Int) (a : Option Addr) (n c : Nat) : (twn cs ah a n c)[15]? = some (.int .i64 ah) := by
  rw [twn, Array.getElem?_append_right (by omega), h]; rfl
theorem twn_16 {cs : Array Value} (h : cs.size = 15) (ah : Int) (a : Option Addr) (n c : Nat) : (twn cs ah a n c)[16]? = some (.slice a n c) := by
  rw [twn, Array.getElem?_append_right (by omega), h]; rfl
theorem twn_lo {cs : Array Value} (h : cs.size = 15) (ah : Int) (a : Option Addr) (n c : Nat) (i : Nat) (hi : i < 15) : (twn cs ah a n c)[i]? = cs[i]? := by
  rw [twn, Array.getElem?_append_left (by omega)]
theorem twn_all {cs : Array Value} (h : cs.all (·.oneCell') = true) (ah : Int) (a : Option Addr) (n c : Nat) : (twn cs ah a n c).all (·.oneCell') = true := by
  simp only [twn, Array.all_append, h, Bool.true_and]
  simp [Value.oneCell']
theorem cells15 {cs : Array Value} (h : cs.size = 15) : ∃ v0 v1 v2 v3 v4 v5 v6 v7 v8 v9 v10 v11 v12 v13 v14 : Value, cs = #[v0, v1, v2, v3, v4, v5, v6, v7, v8, v9, v10, v11, v12, v13, v14] := by
  obtain ⟨l⟩ := cs
  match l, h with
  | [v0, v1, v2, v3, v4, v5, v6, v7, v8, v9, v10, v11, v12, v13, v14], _ => exact ⟨v0, v1, v2, v3, v4, v5, v6, v7, v8, v9, v10, v11, v12, v13, v14, rfl⟩

/-- a whole town is read, stored, built -/
def townLoad (v : Value) : Sem Value := Instr.loadAt 101 v
theorem townLoad_eq (v : Value) : Instr.loadAt 101 v = townLoad v := rfl
theorem Try.infoTown : (Try.prog.info? 101).map (·.size) = some 17 := by kernel_rfl
theorem run_townLoad (w : World) (b : Nat) (cs : Array Value) (hg : mblk w b = some (.cells cs 101 (0, 0))) (hs : Hid (cs.size = 17)) : (townLoad (.pointer (some ⟨b, 0, none⟩))).run Try.prog w = .ok (.agg cs) w := by
  have q := run_loadVar_row w b 101 101 cs (0, 0) _ hg Try.underlying101 rfl (by rw [Try.infoTown, hs.out])
  simp only [townLoad, Instr.loadAt, Instr.sureAddr, Sem.run_bind, Sem.run_pure, Result.andThen_ok, q]
def Ok17 (cs : Array Value) : Prop := cs.size = 17 ∧ cs.all (·.oneCell') = true
def townStore (p v : Value) : Sem Unit := Instr.storeAt 101 p v
theorem townStore_eq (p v : Value) : Instr.storeAt 101 p v = townStore p v := rfl
theorem run_townStore (w : World) (c cs : Array Value) (n : Nat) (hn : n = w.heap.size) (hc : c.size = 17) (hs : Ok17 cs) :
    (townStore (.pointer (some ⟨n, 0, none⟩)) (.agg cs)).run Try.prog (w.alloc (.cells c 101)) = .ok () (w.alloc (.cells cs 101)) := by
  subst hn
  have q := run_storeVar_new (P := Try.prog) w 101 c cs (by rw [Try.infoTown, hs.1]) (by rw [hc, hs.1]) hs.2
  simp only [townStore, Instr.storeAt, Instr.sureAddr, Sem.run_bind, Sem.run_pure, Result.andThen_ok, q]
theorem run_townStore_row (w : World) (b : Nat) (old cs : Array Value) (hg : mblk w b = some (.cells old 101 (0, 0))) (ho : Hid (old.size = 17)) (hs : Ok17 cs) :
    (townStore (.pointer (some ⟨b, 0, none⟩)) (.agg cs)).run Try.prog w = .ok () (w.setRow b cs) := by
  have q := run_storeVar_row (P := Try.prog) w b 101 101 old cs hg (by rw [Try.infoTown, hs.1]) (by rw [ho.out, hs.1]) hs.2
  simp only [townStore, Instr.storeAt, Instr.sureAddr, Sem.run_bind, Sem.run_pure, Result.andThen_ok, q]
def townBuild (ps : Array (Nat × Value)) : Sem Value := Instr.build 101 ps
theorem townBuild_eq (ps : Array (Nat × Value)) : Instr.build 101 ps = townBuild ps := rfl
theorem run_townBuild_lit (v0 v1 v2 v3 v4 v5 v6 v7 v8 v9 v10 v11 v12 v13 v14 : Value) (ah : Int) (a : Option Addr) (n c : Nat) (w : World) : (Instr.build 101 #[(0, .agg #[v0, v1, v2, v3, v4, v5, v6, v7, v8, v9, v10, v11, v12, v13, v14]), (1, .agg #[.int .i64 ah, .slice a n c])]).run Try.prog w = .ok (.agg #[v0, v1, v2, v3, v4, v5, v6, v7, v8, v9, v10, v11, v12, v13, v14, .int .i64 ah, .slice a n c]) w := by kernel_rfl
theorem run_townBuild (cs : Array Value) (ah : Int) (a : Option Addr) (n c : Nat) (w : World) (hs : Hid (cs.size = 15)) : (townBuild #[(0, .agg cs), (1, .agg #[.int .i64 ah, .slice a n c])]).run Try.prog w = .ok (.agg (twn cs ah a n c)) w := by
  obtain ⟨v0, v1, v2, v3, v4, v5, v6, v7, v8, v9, v10, v11, v12, v13, v14, rfl⟩ := cells15 hs.out
  exact run_townBuild_lit v0 v1 v2 v3 v4 v5 v6 v7 v8 v9 v10 v11 v12 v13 v14 ah a n c w
/-- the cells of no town -/
def D.townN : Array Value := #[.int .i64 0, .int .i64 0, .int .i64 0, .int .i64 0, .slice none 0 0, .int .i64 0, .int .i64 0, .int .i64 0, .int .i64 0, .int .i64 0, .int .i64 0, .int .i64 0, .int .i64 0, .int .i64 0, .int .i64 0, .int .i64 0, .slice none 0 0]
theorem run_townBuild_no (w : World) : (townBuild #[]).run Try.prog w = .ok (.agg D.townN) w := by kernel_rfl
theorem townN_ok : Ok17 D.townN := ⟨rfl, by simp [D.townN, Value.oneCell']⟩
/-- a town's cells, and its calendar's -/
structure Town (ts cs : Array Value) (ah : Int) (a : Option Addr) (n c : Nat) : Prop where
  size : cs.size = 15
  all : ts = twn cs ah a n c
/-- the calendar's cells in a town's -/
def calOf (ts : Array Value) : Array Value := ts.extract 0 15
theorem run_calLoad_town (w : World) (b : Nat) (ts : Array Value) (hg : mblk w b = some (.cells ts 101 (0, 0))) (hz : Hid (ts.size = 17)) : (calLoad (.pointer (some ⟨b, 0, none⟩))).run Try.prog w = .ok (.agg (calOf ts)) w := by
  have hc : (calOf ts).size = 15 := by simp [calOf, hz.out]
  have hl : (loadCells ⟨b, 0, none⟩ (calOf ts).toList.length).run Try.prog w = .ok (calOf ts).toList.toArray w :=
    run_loadCells_list (P := Try.prog) w ⟨b, 0, none⟩ (calOf ts).toList (fun j v hv => by
      have hj : j < 15 := by
        have h1 := (List.getElem?_eq_some_iff.1 hv).1
        rw [Array.length_toList, hc] at h1
        exact h1
      have hadd : (⟨b, 0, none⟩ : Addr).add j = ⟨b, j, none⟩ := by unfold Addr.add; split <;> simp_all
      rw [hadd, cellB hg]
      rw [Array.getElem?_toList, calOf, Array.getElem?_extract, hz.out] at hv
      simpa [hj] using hv)
  have e : (Try.prog.info? 87).map (·.size) = some 15 := by kernel_rfl
  cases hq : Try.prog.info? 87 with
  | none => simp [hq] at e
  | some i =>
    have hi : i.size = (calOf ts).size := by rw [hc]; simpa [hq] using e
    have hagg : (isAgg 87).run Try.prog w = .ok true w := by
      unfold isAgg
      rw [Sem.run_bind, run_underlying Try.underlying87 w]
      rfl
    simp only [Array.length_toList, Array.toArray_toList] at hl
    simp only [calLoad, Instr.loadAt, Instr.sureAddr, Sem.run_bind, Sem.run_pure, Result.andThen_ok]
    simp [loadVar, Sem.run_bind, hagg, sizeOf, typeInfo, hq, hi, hl]
theorem cell_town {w : World} {b : Nat} {ts : Array Value} (h : mblk w b = some (.cells ts 101 (0, 0))) (j : Nat) : w.cell? ⟨b, j, none⟩ = ts[j]? := cellB h j
theorem Town.is (cs : Array Value) (h : cs.size = 15) (ah : Int) (a : Option Addr) (n c : Nat) : Town (twn cs ah a n c) cs ah a n c := ⟨h, rfl⟩
theorem Town.t15 {ts cs : Array Value} {ah : Int} {a : Option Addr} {n c : Nat} (T : Town ts cs ah a n c) : ts[15]? = some (.int .i64 ah) := by rw [T.all]; exact twn_15 T.size ah a n c
theorem Town.t16 {ts cs : Array Value} {ah : Int} {a : Option Addr} {n c : Nat} (T : Town ts cs ah a n c) : ts[16]? = some (.slice a n c) := by rw [T.all]; exact twn_16 T.size ah a n c
theorem Town.sz {ts cs : Array Value} {ah : Int} {a : Option Addr} {n c : Nat} (T : Town ts cs ah a n c) : ts.size = 17 := by rw [T.all]; exact twn_size T.size ah a n c
theorem Town.cal {ts cs : Array Value} {ah : Int} {a : Option Addr} {n c : Nat} (T : Town ts cs ah a n c) : calOf ts = cs := by rw [T.all, calOf, twn, ← T.size, Array.extract_append]; simp
attribute [go_sem ↓] townLoad_eq townStore_eq townBuild_eq
attribute [go_sem] run_townLoad run_townStore run_townBuild run_townBuild_no run_calLoad_town cell_town

theorem isAhead_any (k : Int) (w : World) : Calls Try.prog 106 #[.int .i64 k] w fun e w' => e = .returned (.bool (inB k (-1440) 1440)) ∧ w = w' := by
  go_enter Try.func106, Try.ntmps106
  go_wp2_with fail
  refine (within_any _ _ _ _).mono ?_
  rintro e w1 ⟨rfl, rfl⟩
  go_wp2
  go_ret
  exact ⟨rfl, rfl⟩

end Go.Proofs.Ytnaibklajocejaa
