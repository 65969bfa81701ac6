import Derived.Test.YtnaibklajocejaaCalJ
import Derived.Laws.ResultCell
import Derived.Deep.WholeRow
/- The contract of dial's newCalendar. -/
namespace Go.Proofs.Ytnaibklajocejaa
open Go.RowKit

/-- are the sizes of a calendar as they may be? -/
def D.sizes (h m s d : Int) : Bool := ((inB h 1 24 && inB m 1 60) && inB s 2 60) && inB d 1 10

theorem hasSizes_no {cs : Array Value} {h m s d : Int} {x : Nat → Int} (C : Cal cs h m s d x) (w : World) (hv : D.sizes h m s d = false) : Calls Try.prog 78 #[.agg cs] w fun e w' => e = .returned (.bool false) ∧ Up w w' := by
  have q0 := C.c0
  have q1 := C.c1
  have q2 := C.c2
  have q3 := C.c3
  by_cases g1 : 1 ≤ h ∧ h ≤ 24
  · by_cases g2 : 1 ≤ m ∧ m ≤ 60
    · by_cases g3 : 2 ≤ s ∧ s ≤ 60
      · by_cases g4 : 1 ≤ d ∧ d ≤ 10
        · rw [D.sizes, inB_yes g1.1 g1.2, inB_yes g2.1 g2.2, inB_yes g3.1 g3.2, inB_yes g4.1 g4.2] at hv
          cases hv
        · clear hv
          go_enter Try.func78, Try.ntmps78
          go_wp2_with fail
          refine (within_yes _ _ _ _ g1.1 g1.2).mono ?_
          rintro e w1 ⟨rfl, rfl⟩
          go_wp2_with fail
          refine (within_yes _ _ _ _ g2.1 g2.2).mono ?_
          rintro e w1 ⟨rfl, rfl⟩
          go_wp2_with fail
          refine (within_yes _ _ _ _ g3.1 g3.2).mono ?_
          rintro e w1 ⟨rfl, rfl⟩
          go_wp2_with fail
          refine (within_no _ _ _ _ g4).mono ?_
          rintro e w1 ⟨rfl, rfl⟩
          go_wp2
          go_ret
          exact ⟨rfl, (Up.refl _).alloc _⟩
      · clear hv
        go_enter Try.func78, Try.ntmps78
        go_wp2_with fail
        refine (within_yes _ _ _ _ g1.1 g1.2).mono ?_
        rintro e w1 ⟨rfl, rfl⟩
        go_wp2_with fail
        refine (within_yes _ _ _ _ g2.1 g2.2).mono ?_
        rintro e w1 ⟨rfl, rfl⟩
        go_wp2_with fail
        refine (within_no _ _ _ _ g3).mono ?_
        rintro e w1 ⟨rfl, rfl⟩
        go_wp2
        go_ret
        exact ⟨rfl, (Up.refl _).alloc _⟩
    · clear hv
      go_enter Try.func78, Try.ntmps78
      go_wp2_with fail
      refine (within_yes _ _ _ _ g1.1 g1.2).mono ?_
      rintro e w1 ⟨rfl, rfl⟩
      go_wp2_with fail
      refine (within_no _ _ _ _ g2).mono ?_
      rintro e w1 ⟨rfl, rfl⟩
      go_wp2
      go_ret
      exact ⟨rfl, (Up.refl _).alloc _⟩
  · clear hv
    go_enter Try.func78, Try.ntmps78
    go_wp2_with fail
    refine (within_no _ _ _ _ g1).mono ?_
    rintro e w1 ⟨rfl, rfl⟩
    go_wp2
    go_ret
    exact ⟨rfl, (Up.refl _).alloc _⟩

/-- a calendar's cells before its decrees have been looked at -/
abbrev D.cal0 (h m s d : Int) (a : Option Addr) (n c : Nat) : Array Value := #[.int .i64 h, .int .i64 m, .int .i64 s, .int .i64 d, .slice a n c, .int .i64 0, .int .i64 0, .int .i64 0, .int .i64 0, .int .i64 0, .int .i64 0, .int .i64 0, .int .i64 0, .int .i64 0, .int .i64 0]
theorem D.cal0_cal (h m s d : Int) (a : Option Addr) (n c : Nat) : Cal (D.cal0 h m s d a n c) h m s d (fun _ => 0) :=
  ⟨rfl, rfl, rfl, rfl, rfl, fun k hk => by
    have : k = 0 ∨ k = 1 ∨ k = 2 ∨ k = 3 ∨ k = 4 ∨ k = 5 ∨ k = 6 ∨ k = 7 ∨ k = 8 ∨ k = 9 := by omega
    rcases this with rfl | rfl | rfl | rfl | rfl | rfl | rfl | rfl | rfl | rfl <;> rfl⟩
/-- the cells of no calendar -/
abbrev D.calN : Array Value := #[.int .i64 0, .int .i64 0, .int .i64 0, .int .i64 0, .slice none 0 0, .int .i64 0, .int .i64 0, .int .i64 0, .int .i64 0, .int .i64 0, .int .i64 0, .int .i64 0, .int .i64 0, .int .i64 0, .int .i64 0]

theorem D.calN_one : D.calN.all (·.oneCell') = true := by simp [Value.oneCell']
theorem Up.setRow {w w' : World} (h : Up w w') {g : Nat} (hg : w.heap.size ≤ g) (cs : Array Value) : Up w (w'.setRow g cs) where
  os := h.os
  tape := h.tape
  output := h.output
  size := by
    have := h.size
    simpa [World.setRow] using this
  block k hk := by
    have e : (w'.setRow g cs).heap[k]? = w'.heap[k]? := by
      simp only [World.setRow, Array.getElem?_modify]
      rw [if_neg (by omega)]
    rw [e]
    exact Below.block h k hk
theorem blk_setRow {w : World} {g : Nat} {old : Array Value} {t : TypeId} {fr : Nat × Nat} (h : mblk w g = some (.cells old t fr)) (cs : Array Value) : mblk (w.setRow g cs) g = some (.cells cs t fr) := setRow_heap w g old cs t fr h
theorem results_cal {fn : Func} {p u : Tmp} (h : fn.results = #[.cell p 87, .tmp u]) (tmps : Array Value) (w : World) (g : Nat) (cs : Array Value) (hp : tmps.getD p undef = .pointer (some ⟨g, 0, none⟩)) (hg : mblk w g = some (.cells cs 87 (0, 0))) (hs : cs.size = 15) :
    (results fn tmps).run Try.prog w = .ok (.tuple #[.agg cs, tmps.getD u undef]) w := by
  have e : (Try.prog.info? 87).map (·.size) = some 15 := by kernel_rfl
  rw [results_cell_tmp h, hp]
  simp only [asAddr, Sem.run_pure, Result.andThen_ok, run_loadVar_row w g 87 87 cs (0, 0) _ hg Try.underlying87 rfl (by rw [e, hs])]
theorem Try.infoCal : (Try.prog.info? 87).map (·.size) = some 15 := by kernel_rfl

set_option maxRecDepth 100000 in
theorem newCalendar_sizes (h m s d : Int) (a : Option Addr) (n c : Nat) (w : World) (hv : D.sizes h m s d = false) :
    Calls Try.prog 52 #[.agg #[.int .i64 h, .int .i64 m, .int .i64 s, .int .i64 d, .slice a n c]] w fun e w' => e = .returned (.tuple #[.agg D.calN, .int .i64 10]) ∧ Up w w' := by
  have KS := Lib.hid (fun w => hasSizes_no (D.cal0_cal h m s d a n c) w hv)
  have hT : Hid True := trivial
  have hi := Lib.hid Try.infoCal
  go_enter Try.func52, Try.ntmps52
  go_wp2_with fail
  refine (KS.out _).mono ?_
  rintro e w1 ⟨rfl, u1⟩
  have y2 := Lib.hid (u1.blk (b := w.heap.size + 1) (o := .cells D.calN 87) (by rw [blk_past _ _ _ (by simp), blk_new _ _ _ (by simp)]))
  go_wp2_with (go_loud (refine wpList_store_row rfl 87 _ _ rfl (w.heap.size + 1) D.calN rfl rfl 87 _ y2.out hi.out rfl D.calN_one ?_))
  exact bodyPost_ret (results_cal rfl _ _ (w.heap.size + 1) D.calN rfl (blk_setRow y2.out _) rfl) rfl ⟨rfl, ((((Up.refl w).alloc _).alloc _ |>.alloc _).trans u1).setRow (by omega) _⟩

set_option maxRecDepth 100000 in
theorem newCalendar_decrees (h m s d : Int) (a : Option Addr) (n c : Nat) (w : World) (h1 : 1 ≤ h) (h2 : h ≤ 24) (m1 : 1 ≤ m) (m2 : m ≤ 60) (s1 : 2 ≤ s) (s2 : s ≤ 60) (d1 : 1 ≤ d) (d2 : d ≤ 10)
    (hv : ∀ w', Up w w' → Calls Try.prog 79 #[.agg #[.int .i64 h, .int .i64 m, .int .i64 s, .int .i64 d, .slice a n c, .int .i64 0, .int .i64 0, .int .i64 0, .int .i64 0, .int .i64 0, .int .i64 0, .int .i64 0, .int .i64 0, .int .i64 0, .int .i64 0]] w' fun e w'' => e = .returned (.bool false) ∧ Up w' w'') :
    Calls Try.prog 52 #[.agg #[.int .i64 h, .int .i64 m, .int .i64 s, .int .i64 d, .slice a n c]] w fun e w' => e = .returned (.tuple #[.agg D.calN, .int .i64 10]) ∧ Up w w' := by
  have hT : Hid True := trivial
  have hi := Lib.hid Try.infoCal
  have HV := Lib.hid hv
  clear hv
  go_enter Try.func52, Try.ntmps52
  go_wp2_with fail
  refine (hasSizes_yes (D.cal0_cal h m s d a n c) _ h1 h2 m1 m2 s1 s2 d1 d2).mono ?_
  rintro e w1 ⟨rfl, u1⟩
  have y2 := u1.blk (b := w.heap.size + 1) (o := .cells D.calN 87) (by rw [blk_past _ _ _ (by simp), blk_new _ _ _ (by simp)])
  have y3 := u1.blk (b := w.heap.size + 1 + 1) (o := .cells #[.int .i64 h, .int .i64 m, .int .i64 s, .int .i64 d, .slice a n c, .int .i64 0, .int .i64 0, .int .i64 0, .int .i64 0, .int .i64 0, .int .i64 0, .int .i64 0, .int .i64 0, .int .i64 0, .int .i64 0] 87) (by rw [blk_new _ _ _ (by simp)])
  have U1 := ((((Up.refl w).alloc _).alloc _ |>.alloc _).trans u1)
  clear u1
  go_wp2_with fail
  refine (HV.out _ U1).mono ?_
  rintro e w2 ⟨rfl, u2⟩
  have z2 := Lib.hid (u2.blk y2)
  have U2 := U1.trans u2
  clear y2 y3 U1 u2
  go_wp2_with (go_loud (refine wpList_store_row rfl 87 _ _ rfl (w.heap.size + 1) D.calN rfl rfl 87 _ z2.out hi.out rfl D.calN_one ?_))
  exact bodyPost_ret (results_cal rfl _ _ (w.heap.size + 1) D.calN rfl (blk_setRow z2.out _) rfl) rfl ⟨rfl, U2.setRow (by omega) _⟩

end Go.Proofs.Ytnaibklajocejaa
