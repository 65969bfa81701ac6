import Derived.Test.YtghelfbigbdkkaaCalI
import Derived.Laws.ResultCell
import Derived.Deep.WholeRow
/- The contract of dial's newCalendar. -/
namespace Go.Proofs.Ytghelfbigbdkkaa
open Go.RowKit

/-- are the sizes of a calendar as they may be? -/
def D.sizes (h m s d : Int) : Bool := ((inB h 1 24 && inB m 1 60) && inB s 2 60) && inB d 1 10

theorem hasSizes_no {cs : Array Value} {h m s d : Int} {x : Nat → Int} (C : Cal cs h m s d x) (w : World) (hv : D.sizes h m s d = false) : Calls Try.prog 35 #[.agg cs] w fun e w' => e = .returned (.bool false) ∧ Up w w' := by
  have q0 := C.c0
  have q1 := C.c1
  have q2 := C.c2
  have q3 := C.c3
  by_cases g1 : 1 ≤ h ∧ h ≤ 24
  · by_cases g2 : 1 ≤ m ∧ m ≤ 60
    · by_cases g3 : 2 ≤ s ∧ s ≤ 60
      · by_cases g4 : 1 ≤ d ∧ d ≤ 10
        · rw [D.sizes, inB_yes g1.1 g1.2, inB_yes g2.1 g2.2, inB_yes g3.1 g3.2, inB_yes g4.1 g4.2] at hv
          cases hv
        · clear hv
          go_enter Try.func35, Try.ntmps35
          go_wp2_with fail
          refine (within_yes _ _ _ _ g1.1 g1.2).mono ?_
          rintro e w1 ⟨rfl, rfl⟩
          go_wp2_with fail
          refine (within_yes _ _ _ _ g2.1 g2.2).mono ?_
          rintro e w1 ⟨rfl, rfl⟩
          go_wp2_with fail
          refine (within_yes _ _ _ _ g3.1 g3.2).mono ?_
          rintro e w1 ⟨rfl, rfl⟩
          go_wp2_with fail
          refine (within_no _ _ _ _ g4).mono ?_
          rintro e w1 ⟨rfl, rfl⟩
          go_wp2
          go_ret
          exact ⟨rfl, (Up.refl _).alloc _⟩
      · clear hv
        go_enter Try.func35, Try.ntmps35
        go_wp2_with fail
        refine (within_yes _ _ _ _ g1.1 g1.2).mono ?_
        rintro e w1 ⟨rfl, rfl⟩
        go_wp2_with fail
        refine (within_yes _ _ _ _ g2.1 g2.2).mono ?_
        rintro e w1 ⟨rfl, rfl⟩
        go_wp2_with fail
        refine (within_no _ _ _ _ g3).mono ?_
        rintro e w1 ⟨rfl, rfl⟩
        go_wp2
        go_ret
        exact ⟨rfl, (Up.refl _).alloc _⟩
    · clear hv
      go_enter Try.func35, Try.ntmps35
      go_wp2_with fail
      refine (within_yes _ _ _ _ g1.1 g1.2).mono ?_
      rintro e w1 ⟨rfl, rfl⟩
      go_wp2_with fail
      refine (within_no _ _ _ _ g2).mono ?_
      rintro e w1 ⟨rfl, rfl⟩
      go_wp2
      go_ret
      exact ⟨rfl, (Up.refl _).alloc _⟩
  · clear hv
    go_enter Try.func35, Try.ntmps35
    go_wp2_with fail
    refine (within_no _ _ _ _ g1).mono ?_
    rintro e w1 ⟨rfl, rfl⟩
    go_wp2
    go_ret
    exact ⟨rfl, (Up.refl _).alloc _⟩

/-- a calendar's cells before its decrees have been looked at -/
abbrev D.cal0 (h m s d : Int) (a : Option Addr) (n c : Nat) : Array Value := #[.int .i64 h, .int .i64 m, .int .i64 s, .int .i64 d, .slice a n c, .int .i64 0, .int .i64 0, .int .i64 0, .int .i64 0, .int .i64 0, .int .i64 0, .int .i64 0, .int .i64 0, .int .i64 0, .int .i64 0]
theorem D.cal0_cal (h m s d : Int) (a : Option Addr) (n c : Nat) : Cal (D.cal0 h m s d a n c) h m s d (fun _ => 0) :=
  ⟨rfl, rfl, rfl, rfl, rfl, fun k hk => by
    have : k = 0 ∨ k = 1 ∨ k = 2 ∨ k = 3 ∨ k = 4 ∨ k = 5 ∨ k = 6 ∨ k = 7 ∨ k = 8 ∨ k = 9 := by omega
    rcases this with rfl | rfl | rfl | rfl | rfl | rfl | rfl | rfl | rfl | rfl <;> rfl⟩
/-- the cells of no calendar -/
abbrev D.calN : Array Value := #[.int .i64 0, .int .i64 0, .int .i64 0, .int .i64 0, .slice none 0 0, .int .i64 0, .int .i64 0, .int .i64 0, .int .i64 0, .int .i64 0, .int .i64 0, .int .i64 0, .int .i64 0, .int .i64 0, .int .i64 0]

theorem D.calN_one : D.calN.all (·.oneCell') = true := by simp [Value.oneCell']
theorem Up.setRow {w w' : World} (h : Up w w') {g : Nat} (hg : w.heap.size ≤ g) (cs : Array Value) : Up w (w'.setRow g cs) where
  os := h.os
  tape := h.tape
  output := h.output
  size := by
    have := h.size
    simpa [World.setRow] using this
  block k hk := by
    have e : (w'.setRow g cs).heap[k]? = w'.heap[k]? := by
      simp only [World.setRow, Array.getElem?_modify]
      rw [if_neg (by omega)]
    rw [e]
    exact Below.block h k hk
theorem blk_setRow {w : World} {g : Nat} {old : Array Value} {t : TypeId} {fr : Nat × Nat} (h : mblk w g = some (.cells old t fr)) (cs : Array Value) : mblk (w.setRow g cs) g = some (.cells cs t fr) := setRow_heap w g old cs t fr h
theorem results_cal {fn : Func} {p u : Tmp} (h : fn.results = #[.cell p 62, .tmp u]) (tmps : Array Value) (w : World) (g : Nat) (cs : Array Value) (hp : tmps.getD p undef = .pointer (some ⟨g, 0, none⟩)) (hg : mblk w g = some (.cells cs 62 (0, 0))) (hs : cs.size = 15) :
    (results fn tmps).run Try.prog w = .ok (.tuple #[.agg cs, tmps.getD u undef]) w := by
  have e : (Try.prog.info? 62).map (·.size) = some 15 := by kernel_rfl
  rw [results_cell_tmp h, hp]
  simp only [asAddr, Sem.run_pure, Result.andThen_ok, run_loadVar_row w g 62 62 cs (0, 0) _ hg Try.underlying62 rfl (by rw [e, hs])]
theorem Try.infoCal : (Try.prog.info? 62).map (·.size) = some 15 := by kernel_rfl

set_option maxRecDepth 100000 in
theorem newCalendar_sizes (h m s d : Int) (a : Option Addr) (n c : Nat) (w : World) (hv : D.sizes h m s d = false) :
    Calls Try.prog 20 #[.agg #[.int .i64 h, .int .i64 m, .int .i64 s, .int .i64 d, .slice a n c]] w fun e w' => e = .returned (.tuple #[.agg D.calN, .int .i64 10]) ∧ Up w w' := by
  have KS := Lib.hid (fun w => hasSizes_no (D.cal0_cal h m s d a n c) w hv)
  have hT : Hid True := trivial
  have hi := Lib.hid Try.infoCal
  go_enter Try.func20, Try.ntmps20
  go_wp2_with fail
  refine (KS.out _).mono ?_
  rintro e w1 ⟨rfl, u1⟩
  have y2 := Lib.hid (u1.blk (b := w.heap.size + 1) (o := .cells D.calN 62) (by rw [blk_past _ _ _ (by simp), blk_new _ _ _ (by simp)]))
  go_wp2_with (go_loud (refine wpList_store_row rfl 62 _ _ rfl (w.heap.size + 1) D.calN rfl rfl 62 _ y2.out hi.out rfl D.calN_one ?_))
  exact bodyPost_ret (results_cal rfl _ _ (w.heap.size + 1) D.calN rfl (blk_setRow y2.out _) rfl) rfl ⟨rfl, ((((Up.refl w).alloc _).alloc _ |>.alloc _).trans u1).setRow (by omega) _⟩

set_option maxRecDepth 100000 in
theorem newCalendar_decrees (h m s d : Int) (a : Option Addr) (n c : Nat) (w : World) (h1 : 1 ≤ h) (h2 : h ≤ 24) (m1 : 1 ≤ m) (m2 : m ≤ 60) (s1 : 2 ≤ s) (s2 : s ≤ 60) (d1 : 1 ≤ d) (d2 : d ≤ 10)
    (hv : ∀ w', Up w w' → Calls Try.prog 36 #[.agg #[.int .i64 h, .int .i64 m, .int .i64 s, .int .i64 d, .slice a n c, .int .i64 0, .int .i64 0, .int .i64 0, .int .i64 0, .int .i64 0, .int .i64 0, .int .i64 0, .int .i64 0, .int .i64 0, .int .i64 0]] w' fun e w'' => e = .returned (.bool false) ∧ Up w' w'') :
    Calls Try.prog 20 #[.agg #[.int .i64 h, .int .i64 m, .int .i64 s, .int .i64 d, .slice a n c]] w fun e w' => e = .returned (.tuple #[.agg D.calN, .int .i64 10]) ∧ Up w w' := by
  have hT : Hid True := trivial
  have hi := Lib.hid Try.infoCal
  have HV := Lib.hid hv
  clear hv
  go_enter Try.func20, Try.ntmps20
  go_wp2_with fail
  refine (hasSizes_yes (D.cal0_cal h m s d a n c) _ h1 h2 m1 m2 s1 s2 d1 d2).mono ?_
  rintro e w1 ⟨rfl, u1⟩
  have y2 := u1.blk (b := w.heap.size + 1) (o := .cells D.calN 62) (by rw [blk_past _ _ _ (by simp), blk_new _ _ _ (by simp)])
  have y3 := u1.blk (b := w.heap.size + 1 + 1) (o := .cells #[.int .i64 h, .int .i64 m, .int .i64 s, .int .i64 d, .slice a n c, .int .i64 0, .int .i64 0, .int .i64 0, .int .i64 0, .int .i64 0, .int .i64 0, .int .i64 0, .int .i64 0, .int .i64 0, .int .i64 0] 62) (by rw [blk_new _ _ _ (by simp)])
  have U1 := ((((Up.refl w).alloc _).alloc _ |>.alloc _).trans u1)
  clear u1
  go_wp2_with fail
  refine (HV.out _ U1).mono ?_
  rintro e w2 ⟨rfl, u2⟩
  have z2 := Lib.hid (u2.blk y2)
  have U2 := U1.trans u2
  clear y2 y3 U1 u2
  go_wp2_with (go_loud (refine wpList_store_row rfl 62 _ _ rfl (w.heap.size + 1) D.calN rfl rfl 62 _ z2.out hi.out rfl D.calN_one ?_))
  exact bodyPost_ret (results_cal rfl _ _ (w.heap.size + 1) D.calN rfl (blk_setRow z2.out _) rfl) rfl ⟨rfl, U2.setRow (by omega) _⟩

end Go.Proofs.Ytghelfbigbdkkaa

/- The contract of dial's newCalendar, of a valid calendar. -/
namespace Go.Proofs.Ytghelfbigbdkkaa
open Go.RowKit

/-- what the first decrees do to each day -/
def D.deeds (L : List (Int × Bool)) : Nat → Nat → Int
  | 0, _ => 0
  | k + 1, j => if (j : Int) = (L.getD k (0, false)).1 then (if (L.getD k (0, false)).2 = true then 1 else 2) else D.deeds L k j
theorem D.deeds_bd (L : List (Int × Bool)) (k j : Nat) : 0 ≤ D.deeds L k j ∧ D.deeds L k j ≤ 2 := by
  induction k with
  | zero => simp [D.deeds]
  | succ k ih =>
    unfold D.deeds
    split
    · split <;> omega
    · exact ih

theorem Cal.put {cs : Array Value} {h m s d : Int} {x : Nat → Int} (C : Cal cs h m s d x) (j : Nat) (hj : j < 10) (v : Int) : Cal (cs.setIfInBounds (5 + j) (.int .i64 v)) h m s d (fun i => if i = j then v else x i) where
  size := by simp [C.size]
  c0 := by rw [Array.getElem?_setIfInBounds_ne (by omega)]; exact C.c0
  c1 := by rw [Array.getElem?_setIfInBounds_ne (by omega)]; exact C.c1
  c2 := by rw [Array.getElem?_setIfInBounds_ne (by omega)]; exact C.c2
  c3 := by rw [Array.getElem?_setIfInBounds_ne (by omega)]; exact C.c3
  cx := fun k hk => by
    by_cases e : k = j
    · subst e
      rw [Array.getElem?_setIfInBounds_self_of_lt (by rw [C.size]; omega), if_pos rfl]
    · rw [Array.getElem?_setIfInBounds_ne (by omega), if_neg e]
      exact C.cx k hk
theorem one_put {cs : Array Value} (h : cs.all (·.oneCell') = true) (i : Nat) (v : Int) : (cs.setIfInBounds i (.int .i64 v)).all (·.oneCell') = true := by
  rw [Array.all_eq_true_iff_forall_mem] at h ⊢
  intro x hx
  rcases Array.mem_or_eq_of_mem_setIfInBounds hx with h1 | h1
  · exact h x h1
  · subst h1; rfl

/-- a valid calendar in the calculation -/
structure CalV (cs : Array Value) (h m s : Int) (n : Nat) (x : Nat → Int) : Prop where
  cal : Cal cs h m s n x
  one : cs.all (·.oneCell') = true
  h1 : 1 ≤ h
  h2 : h ≤ 24
  m1 : 1 ≤ m
  m2 : m ≤ 60
  s1 : 2 ≤ s
  s2 : s ≤ 60
  d1 : 1 ≤ n
  d2 : n ≤ 10
  hx : ∀ k, k < 10 → 0 ≤ x k ∧ x k ≤ 2

set_option maxRecDepth 100000 in
set_option maxHeartbeats 1000000 in
theorem newCalendar_ok (h m s d : Int) (a : Option Addr) (n c : Nat) (L : List (Int × Bool)) (b off : Nat) (hL : n = L.length) (ha : 0 < n → a = some ⟨b, off, none⟩) (w : World) (hD : 0 < n → Decs w b off L) (hn : n ≤ 10) (h1 : 1 ≤ h) (h2 : h ≤ 24) (m1 : 1 ≤ m) (m2 : m ≤ 60) (s1 : 2 ≤ s) (s2 : s ≤ 60) (d1 : 1 ≤ d) (d2 : d ≤ 10)
    (hr : ∀ k, k < n → 0 ≤ (L.getD k (0, false)).1 ∧ (L.getD k (0, false)).1 < d)
    (hv : ∀ w', Up w w' → Calls Try.prog 36 #[.agg #[.int .i64 h, .int .i64 m, .int .i64 s, .int .i64 d, .slice a n c, .int .i64 0, .int .i64 0, .int .i64 0, .int .i64 0, .int .i64 0, .int .i64 0, .int .i64 0, .int .i64 0, .int .i64 0, .int .i64 0]] w' fun e w'' => e = .returned (.bool true) ∧ Up w' w'') :
    ∃ cs, Cal cs h m s d (D.deeds L n) ∧ cs.all (·.oneCell') = true ∧ Calls Try.prog 20 #[.agg #[.int .i64 h, .int .i64 m, .int .i64 s, .int .i64 d, .slice a n c]] w fun e w' => e = .returned (.tuple #[.agg cs, .int .i64 0]) ∧ Up w w' := by
  obtain ⟨f, hf0, hfs⟩ : ∃ f : Nat → Array Value, f 0 = #[.int .i64 h, .int .i64 m, .int .i64 s, .int .i64 d, .slice a n c, .int .i64 0, .int .i64 0, .int .i64 0, .int .i64 0, .int .i64 0, .int .i64 0, .int .i64 0, .int .i64 0, .int .i64 0, .int .i64 0] ∧ ∀ k, f (k + 1) = (f k).setIfInBounds (5 + (L.getD k (0, false)).1.toNat) (.int .i64 (if (L.getD k (0, false)).2 = true then 1 else 2)) :=
    ⟨fun k => Nat.rec #[.int .i64 h, .int .i64 m, .int .i64 s, .int .i64 d, .slice a n c, .int .i64 0, .int .i64 0, .int .i64 0, .int .i64 0, .int .i64 0, .int .i64 0, .int .i64 0, .int .i64 0, .int .i64 0, .int .i64 0] (fun k cs => cs.setIfInBounds (5 + (L.getD k (0, false)).1.toNat) (.int .i64 (if (L.getD k (0, false)).2 = true then 1 else 2))) k, rfl, fun _ => rfl⟩
  have hfc : ∀ k, k ≤ n → Cal (f k) h m s d (D.deeds L k) ∧ (f k).all (·.oneCell') = true := by
    intro k hk
    induction k with
    | zero => rw [hf0]; exact ⟨D.cal0_cal h m s d a n c, by simp [Value.oneCell']⟩
    | succ k ih =>
      obtain ⟨i1, i2⟩ := ih (by omega)
      have r := hr k (by omega)
      rw [hfs]
      refine ⟨?_, one_put i2 _ _⟩
      have q := i1.put (L.getD k (0, false)).1.toNat (by omega) (if (L.getD k (0, false)).2 = true then 1 else 2)
      have e : (fun i : Nat => if i = (L.getD k (0, false)).1.toNat then (if (L.getD k (0, false)).2 = true then (1 : Int) else 2) else D.deeds L k i) = D.deeds L (k + 1) := by
        funext i
        rw [D.deeds]
        by_cases g : i = (L.getD k (0, false)).1.toNat
        · have g' : (i : Int) = (L.getD k (0, false)).1 := by omega
          rw [if_pos g, if_pos g']
        · have g' : ¬ (i : Int) = (L.getD k (0, false)).1 := by omega
          rw [if_neg g, if_neg g']
      rw [e] at q
      exact q
  refine ⟨f n, (hfc n (Nat.le_refl _)).1, (hfc n (Nat.le_refl _)).2, ?_⟩
  have HL := Lib.hid hL
  have HF := Lib.hid hfc
  have HS := Lib.hid hfs
  have HR := Lib.hid hr
  have HD := Lib.hid hD
  have HA := Lib.hid ha
  have H0 := Lib.hid hf0
  have HV := Lib.hid hv
  have hT : Hid True := trivial
  have hi := Lib.hid Try.infoCal
  clear hfc hfs hr hD hv hf0 ha hL
  go_enter Try.func20, Try.ntmps20
  go_wp2_with fail
  refine (hasSizes_yes (D.cal0_cal h m s d a n c) _ h1 h2 m1 m2 s1 s2 d1 d2).mono ?_
  rintro e w1 ⟨rfl, u1⟩
  have y1 := u1.blk (b := w.heap.size) (o := .cells #[.int .i64 h, .int .i64 m, .int .i64 s, .int .i64 d, .slice a n c] 24) (by rw [blk_past _ _ _ (by simp; omega), blk_past _ _ _ (by simp), blk_new _ _ _ rfl])
  have y2 := u1.blk (b := w.heap.size + 1) (o := .cells D.calN 62) (by rw [blk_past _ _ _ (by simp), blk_new _ _ _ (by simp)])
  have y3 := u1.blk (b := w.heap.size + 1 + 1) (o := .cells #[.int .i64 h, .int .i64 m, .int .i64 s, .int .i64 d, .slice a n c, .int .i64 0, .int .i64 0, .int .i64 0, .int .i64 0, .int .i64 0, .int .i64 0, .int .i64 0, .int .i64 0, .int .i64 0, .int .i64 0] 62) (by rw [blk_new _ _ _ (by simp)])
  have U1 := ((((Up.refl w).alloc _).alloc _ |>.alloc _).trans u1)
  clear u1
  go_wp2_with fail
  refine (HV.out _ U1).mono ?_
  rintro e w2 ⟨rfl, u2⟩
  have z1 := u2.blk y1
  have z2 := u2.blk y2
  have z3 := u2.blk y3
  have U2 := U1.trans u2
  have c1 := cellB z1
  clear y1 y2 y3 U1 u2 HV
  go_wp2_with fail
  go_loopw [6, 21] (fun _ i wr => ∃ k : Nat, k ≤ n ∧ i = .int .i64 k ∧ mblk wr (w.heap.size + 1) = some (.cells D.calN 62) ∧ mblk wr (w.heap.size + 1 + 1) = some (.cells (f k) 62) ∧ Up w wr) (fun _ i _ => n - (intOf i).toNat)
  case atStart => exact ⟨0, Nat.zero_le _, rfl, z2, by rw [H0.out]; exact z3, U2⟩
  case round =>
    obtain ⟨k, hk, rfl, k2, k3, U⟩ := hrel
    by_cases hlt : k < n
    · obtain rfl := HA.out (by omega)
      have dd := (HD.out (by omega)).up U
      have e1 := dd.day k (by rw [← HL.out]; exact hlt)
      have e2 := dd.plus k (by rw [← HL.out]; exact hlt)
      have e3 := dd.lt
      have hs1 := HS.out k
      have hr1 := HR.out k hlt
      generalize L.getD k (0, false) = z at *
      obtain ⟨zd, zp⟩ := z
      obtain ⟨j, rfl⟩ := Int.eq_ofNat_of_zero_le hr1.1
      simp only [Int.toNat_natCast] at hs1
      obtain ⟨v, hv⟩ : ∃ v, v = (if zp = true then (1 : Int) else 2) := ⟨_, rfl⟩
      have HDO := Lib.hid (fun i w => (deedOf_any i zp w).mono (R' := fun e w' => e = .returned (.int .i64 v) ∧ Up w w') fun e w' ⟨he, hu⟩ => ⟨by rw [he, hv], hu⟩)
      rw [← hv] at hs1
      have HS1 := Lib.hid hs1
      clear hv
      have hj : j < 10 := by have := hr1.2; simp only at this; omega
      clear hs1 hr1 dd c1 z1 z2 z3
      have hj0 : (0 : Int) ≤ (j : Int) := by omega
      have hj1 : (j : Int) < 10 := by omega
      go_wp2_with fail
      have hw1 : w.heap.size + 1 + 1 < wr.heap.size := blk_lt k3
      refine wp_region_held_drew (S := fun w' => w'.cell? ⟨wr.heap.size, 0, none⟩ = some (.int .i64 j) ∧ w'.cell? ⟨wr.heap.size, 1, none⟩ = some (.bool zp) ∧ Up w w') (by kernel_rfl) ⟨cellB (w := (wr.alloc (.cells #[.int .i64 j, .bool zp] 28))) (blk_new _ _ _ rfl) 0, cellB (w := (wr.alloc (.cells #[.int .i64 j, .bool zp] 28))) (blk_new _ _ _ rfl) 1, (U.alloc _).drew⟩ (fun hHeld => ?_)
      refine takeH (i := 0) (d := (some 25)) (v := ?v1) rfl rfl (by kernel_rfl) (by kernel_rfl) (by kernel_rfl) (fun _ _ _ h => h) (by rfl) ?hy1 (by assumption) ?_
      case hy1 => ((intro w hSw; (try dsimp only at hSw); (try go_split_ands); go_simp); try with_reducible rfl)
      simp only [Act.put, List.setIfInBounds_toArray, List.set_cons_zero, List.set_cons_succ]
      refine takeH (i := 1) (d := (some 26)) (v := ?v2) rfl rfl (by kernel_rfl) (by kernel_rfl) (by kernel_rfl) (fun _ _ _ h => h) (by rfl) ?hy2 (by assumption) ?_
      case hy2 => ((intro w hSw; (try dsimp only at hSw); (try go_split_ands); go_simp); try with_reducible rfl)
      simp only [Act.put, List.setIfInBounds_toArray, List.set_cons_zero, List.set_cons_succ]
      refine takeH (i := 2) (d := (some 27)) (v := ?v3) rfl rfl (by kernel_rfl) (by kernel_rfl) (by kernel_rfl) (fun _ _ _ h => h) (by rfl) ?hy3 (by assumption) ?_
      case hy3 => ((intro w hSw; (try dsimp only at hSw); (try go_split_ands); go_simp); try with_reducible rfl)
      simp only [Act.put, List.setIfInBounds_toArray, List.set_cons_zero, List.set_cons_succ]
      refine takeH (i := 4) (d := (some 29)) (v := ?v4) rfl rfl (by kernel_rfl) (by kernel_rfl) (by kernel_rfl) (fun _ _ _ h => h) (by rfl) ?hy4 (by assumption) ?_
      case hy4 => ((intro w hSw; (try dsimp only at hSw); (try go_split_ands); go_simp); try with_reducible rfl)
      simp only [Act.put, List.setIfInBounds_toArray, List.set_cons_zero, List.set_cons_succ]
      refine wpAnyH_ready (rs := [3]) (by kernel_rfl) (by simp) ?_
      refine AllReadyH.cons rfl (fun K hK => ?_) AllReadyH.nil
      go_simp
      refine (HDO.out _ _).mono ?_
      rintro e w3 ⟨rfl, u3⟩
      have l3 : wr.heap.size < (wr.alloc (.cells #[.int .i64 j, .bool zp] 28)).drew.heap.size := by simp
      have v2 := u3.blk (b := w.heap.size + 1) (by rw [blk_drew]; exact blk_keep _ k2)
      have v3 := u3.blk (b := w.heap.size + 1 + 1) (by rw [blk_drew]; exact blk_keep _ k3)
      have U3 := hHeld.2.2.trans u3
      go_wp2_with fail
      refine hK.out _ _ ⟨(u3.facts.1 _ _ l3).trans hHeld.1, (u3.facts.1 _ _ l3).trans hHeld.2.1, U3⟩ (fun hHeld => ?_)
      clear hK K
      refine takeH (i := 5) (d := (some 30)) (v := ?v6) rfl rfl (by kernel_rfl) (by kernel_rfl) (by kernel_rfl) (fun _ _ _ h => h) (by rfl) ?hy6 (by assumption) ?_
      case hy6 => ((intro w hSw; (try dsimp only at hSw); (try go_split_ands); go_simp); try with_reducible rfl)
      simp only [Act.put, List.setIfInBounds_toArray, List.set_cons_zero, List.set_cons_succ]
      have fz := frozB v3
      have cz := cellB v3
      have cj := (HF.out k hk).1.cx j hj
      refine wpAnyH_ready (rs := [6]) (by kernel_rfl) (by simp) ?_
      refine AllReadyH.cons rfl (fun K hK => ?_) AllReadyH.nil
      go_simp
      have W3 := (HS1.out ▸ blk_put v3 (5 + j) (.int .i64 v) : mblk (w3.setCell ⟨w.heap.size + 1 + 1, 5 + j, none⟩ (.int .i64 v)) (w.heap.size + 1 + 1) = some (.cells (f (k + 1)) 62))
      have W2 : mblk (w3.setCell ⟨w.heap.size + 1 + 1, 5 + j, none⟩ (.int .i64 v)) (w.heap.size + 1) = some (.cells D.calN 62) := by rw [blk_set _ _ _ _ (by simp)]; exact v2
      have UW : Up w (w3.setCell ⟨w.heap.size + 1 + 1, 5 + j, none⟩ (.int .i64 v)) := U3.set (by simp; omega) _
      refine hK.out _ _ ⟨by rw [World.cell?_setCell_other _ _ _ _ (by simp)]; exact hHeld.1, by rw [World.cell?_setCell_other _ _ _ _ (by simp)]; exact hHeld.2.1, UW⟩ (fun hHeld => ?_)
      clear hK K fz cz cj v2 v3 U3
      refine wpAnyH_done (by kernel_rfl) ?_ _
      go_wp2
      go_roundw
      case rel => exact ⟨k + 1, by omega, by go_num, W2, W3, UW⟩
      case measure => simp [intOf]; omega
    · obtain rfl : k = n := by omega
      have hs : Hid ((f k).size = 15) := (HF.out k hk).1.size
      have h1' := Lib.hid (HF.out k hk).2
      have K2 := Lib.hid k2
      clear c1 z1 z2 z3
      go_wp2_with (refine wpList_store_row rfl 62 _ _ rfl (w.heap.size + 1) (f k) rfl rfl 62 _ K2.out (by rw [hi.out, hs.out]) (by rw [hs.out]; rfl) h1'.out ?_)
      exact bodyPost_ret (results_cal rfl _ _ (w.heap.size + 1) (f k) rfl (blk_setRow K2.out _) hs.out) rfl ⟨rfl, U.setRow (by omega) _⟩

end Go.Proofs.Ytghelfbigbdkkaa
