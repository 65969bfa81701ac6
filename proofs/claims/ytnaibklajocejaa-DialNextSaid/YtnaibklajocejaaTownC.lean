import Derived.Test.YtnaibklajocejaaTownB
/- The contracts of dial's newTown and CheckTown. -/
namespace Go.Proofs.Ytnaibklajocejaa
open Go.RowKit

/-- a town's changes, as an argument has them -/
structure TownArg (w : World) (a : Option Addr) (n c : Nat) (M : List (Int × Int)) : Prop where
  len : n = M.length
  max : n ≤ 9223372036854775807
  mem : 0 < n → ∃ b off, a = some ⟨b, off, none⟩ ∧ Chgs w b off M
theorem TownArg.up {w w' : World} {a : Option Addr} {n c : Nat} {M : List (Int × Int)} (A : TownArg w a n c M) (u : Up w w') : TownArg w' a n c M :=
  ⟨A.len, A.max, fun h => by obtain ⟨b, off, ha, hD⟩ := A.mem h; exact ⟨b, off, ha, hD.up u⟩⟩

/-- is a town of a calendar of so many ticks valid? -/
def D.townOk (T ah : Int) (M : List (Int × Int)) : Bool := inB ah (-1440) 1440 && (decide (M.length ≤ 6) && (D.aheads M && D.incr (fun t => inB t 0 (T - 1)) 0 (M.map (·.1))))

theorem isTown_is {cs : Array Value} {h m s : Int} {n : Nat} {x : Nat → Int} (V : CalV cs h m s n x) (ah : Int) {a' : Option Addr} {n' c' : Nat} {M : List (Int × Int)} {w : World} (B : TownArg w a' n' c' M) :
    Calls Try.prog 90 #[.agg cs, .agg #[.int .i64 ah, .slice a' n' c']] w fun e w' => e = .returned (.bool (D.townOk (D.beg h m s x n) ah M)) ∧ Up w w' := by
  have hl := B.len
  cases hv : inB ah (-1440) 1440
  · have e : D.townOk (D.beg h m s x n) ah M = false := by simp [D.townOk, hv]
    rw [e]; exact isTown_ahead V.cal.size ah a' n' c' w hv
  · by_cases h6 : 6 < n'
    · have e : D.townOk (D.beg h m s x n) ah M = false := by
        have : decide (M.length ≤ 6) = false := by simp; omega
        simp [D.townOk, this]
      rw [e]; exact isTown_many V.cal.size ah a' n' c' w hv h6 B.max
    · have e : D.townOk (D.beg h m s x n) ah M = (D.aheads M && D.incr (fun t => inB t 0 (D.beg h m s x n - 1)) 0 (M.map (·.1))) := by
        have : decide (M.length ≤ 6) = true := by simp; omega
        simp [D.townOk, this, hv]
      rw [e]
      subst hl
      by_cases h0 : 0 < M.length
      · obtain ⟨b, off, rfl, hD⟩ := B.mem h0
        exact isTown_any V.cal.size _ (fun t w => hasReading_any V.cal t w V.h1 V.h2 V.m1 V.m2 V.s1 V.s2 V.d2) ah b off c' M h0 (by omega) w hD hv
      · have : M = [] := List.eq_nil_of_length_eq_zero (by omega)
        subst this
        exact isTown_nil V.cal.size ah a' c' w hv

theorem results_town {fn : Func} {p u : Tmp} (h : fn.results = #[.cell p 101, .tmp u]) (tmps : Array Value) (w : World) (g : Nat) (cs : Array Value) (hp : tmps.getD p undef = .pointer (some ⟨g, 0, none⟩)) (hg : mblk w g = some (.cells cs 101 (0, 0))) (hs : cs.size = 17) :
    (results fn tmps).run Try.prog w = .ok (.tuple #[.agg cs, tmps.getD u undef]) w := by
  rw [results_cell_tmp h, hp]
  simp only [asAddr, Sem.run_pure, Result.andThen_ok, run_loadVar_row w g 101 101 cs (0, 0) _ hg Try.underlying101 rfl (by rw [Try.infoTown, hs])]
theorem twn_ok {cs : Array Value} {h m s : Int} {n : Nat} {x : Nat → Int} (V : CalV cs h m s n x) (ah : Int) (a : Option Addr) (k c : Nat) : Ok17 (twn cs ah a k c) := ⟨twn_size V.cal.size ah a k c, twn_all V.one ah a k c⟩
theorem townN_size : Hid (D.townN.size = 17) := rfl
attribute [local go_sem] run_townStore_row

set_option maxRecDepth 100000 in
set_option maxHeartbeats 1000000 in
theorem newTown_cal {h m s d : Int} {a : Option Addr} {n c : Nat} {L : List (Int × Bool)} {ah : Int} {a' : Option Addr} {n' c' : Nat} {w : World} (A : CalArg w a n c L) (hv : D.valid h m s d L = false) :
    Calls Try.prog 68 #[.agg #[.int .i64 h, .int .i64 m, .int .i64 s, .int .i64 d, .slice a n c], .agg #[.int .i64 ah, .slice a' n' c']] w fun e w' => e = .returned (.tuple #[.agg D.townN, .int .i64 10]) ∧ Up w w' := by
  have K := Lib.hid (newCal_no (A.up (((Up.refl w).alloc (.cells #[.int .i64 h, .int .i64 m, .int .i64 s, .int .i64 d, .slice a n c] 24)).alloc (.cells #[.int .i64 ah, .slice a' n' c'] 44) |>.alloc (.cells D.townN 101))) hv)
  obtain ⟨N, hN⟩ : ∃ N, N = D.calN := ⟨_, rfl⟩
  rw [← hN] at K
  have hs : Hid (N.size = 15) := by rw [hN]; exact calN_size
  have ho : Ok15 N := by rw [hN]; exact calN_ok
  have hto := townN_ok
  have hts := townN_size
  clear hN hv
  go_enter Try.func68, Try.ntmps68
  go_wp2_with fail
  refine K.out.mono ?_
  rintro e w1 ⟨rfl, u1⟩
  have y3 := u1.blk (b := w.heap.size + 1 + 1) (o := .cells D.townN 101) (by rw [blk_new _ _ _ (by simp)])
  have U1 := ((((Up.refl w).alloc _).alloc _).alloc _).trans u1
  clear u1
  go_wp2
  exact bodyPost_ret (results_town rfl _ _ (w.heap.size + 1 + 1) D.townN rfl (blk_setRow (blk_keep _ y3) _) rfl) rfl ⟨rfl, (U1.alloc _).setRow (by omega) _⟩

set_option maxRecDepth 100000 in
set_option maxHeartbeats 1000000 in
theorem newTown_no {h m s d : Int} {a : Option Addr} {n c : Nat} {L : List (Int × Bool)} {ah : Int} {a' : Option Addr} {n' c' : Nat} {M : List (Int × Int)} {w : World} (A : CalArg w a n c L) (B : TownArg w a' n' c' M) (hv : D.valid h m s d L = true) (ht : D.townOk (D.beg h m s (D.deeds L L.length) d.toNat) ah M = false) :
    Calls Try.prog 68 #[.agg #[.int .i64 h, .int .i64 m, .int .i64 s, .int .i64 d, .slice a n c], .agg #[.int .i64 ah, .slice a' n' c']] w fun e w' => e = .returned (.tuple #[.agg D.townN, .int .i64 12]) ∧ Up w w' := by
  obtain ⟨cs, N, rfl, V, K⟩ := newCal_yes (A.up (((Up.refl w).alloc (.cells #[.int .i64 h, .int .i64 m, .int .i64 s, .int .i64 d, .slice a n c] 24)).alloc (.cells #[.int .i64 ah, .slice a' n' c'] 44) |>.alloc (.cells D.townN 101))) hv
  rw [Int.toNat_natCast] at ht
  have HK := Lib.hid K
  have hs := Lib.hid V.cal.size
  have ho : Ok15 cs := ⟨V.cal.size, V.one⟩
  have HT := Lib.hid (fun w' (u : Up w w') => (isTown_is V ah (B.up u)).mono (R' := fun e w'' => e = .returned (.bool false) ∧ Up w' w'') fun e w'' ⟨he, hu⟩ => ⟨by rw [he, ht], hu⟩)
  have hto := townN_ok
  have hts := townN_size
  clear hv K ht
  go_enter Try.func68, Try.ntmps68
  go_wp2_with fail
  refine HK.out.mono ?_
  rintro e w1 ⟨rfl, u1⟩
  have y2 := u1.blk (b := w.heap.size + 1) (o := (.cells #[.int .i64 ah, .slice a' n' c'] 44)) (by rw [blk_past _ _ _ (by simp), blk_new _ _ _ (by simp)])
  have y3 := u1.blk (b := w.heap.size + 1 + 1) (o := .cells D.townN 101) (by rw [blk_new _ _ _ (by simp)])
  have c2 := cellB y2
  have l2 := blk_lt y2
  have U1 := ((((Up.refl w).alloc _).alloc _).alloc _).trans u1
  clear u1
  go_wp2_with fail
  refine (HT.out _ (U1.alloc _)).mono ?_
  rintro e w2 ⟨rfl, u2⟩
  have z3 := u2.blk (blk_keep _ y3)
  have U2 := (U1.alloc _).trans u2
  clear u2 c2 y2 y3 U1
  go_wp2
  exact bodyPost_ret (results_town rfl _ _ (w.heap.size + 1 + 1) D.townN rfl (blk_setRow z3 _) rfl) rfl ⟨rfl, U2.setRow (by omega) _⟩

set_option maxRecDepth 100000 in
set_option maxHeartbeats 1000000 in
theorem newTown_ok {h m s d : Int} {a : Option Addr} {n c : Nat} {L : List (Int × Bool)} {ah : Int} {a' : Option Addr} {n' c' : Nat} {M : List (Int × Int)} {w : World} (A : CalArg w a n c L) (B : TownArg w a' n' c' M) (hv : D.valid h m s d L = true) (ht : D.townOk (D.beg h m s (D.deeds L L.length) d.toNat) ah M = true) :
    ∃ (cs : Array Value) (N : Nat), d = (N : Int) ∧ CalV cs h m s N (D.deeds L L.length) ∧
    Calls Try.prog 68 #[.agg #[.int .i64 h, .int .i64 m, .int .i64 s, .int .i64 d, .slice a n c], .agg #[.int .i64 ah, .slice a' n' c']] w fun e w' => e = .returned (.tuple #[.agg (twn cs ah a' n' c'), .int .i64 0]) ∧ Up w w' := by
  obtain ⟨cs, N, rfl, V, K⟩ := newCal_yes (A.up (((Up.refl w).alloc (.cells #[.int .i64 h, .int .i64 m, .int .i64 s, .int .i64 d, .slice a n c] 24)).alloc (.cells #[.int .i64 ah, .slice a' n' c'] 44) |>.alloc (.cells D.townN 101))) hv
  refine ⟨cs, N, rfl, V, ?_⟩
  rw [Int.toNat_natCast] at ht
  have HK := Lib.hid K
  have hs := Lib.hid V.cal.size
  have ho : Ok15 cs := ⟨V.cal.size, V.one⟩
  have HT := Lib.hid (fun w' (u : Up w w') => (isTown_is V ah (B.up u)).mono (R' := fun e w'' => e = .returned (.bool true) ∧ Up w' w'') fun e w'' ⟨he, hu⟩ => ⟨by rw [he, ht], hu⟩)
  have hto := twn_ok V ah a' n' c'
  have hts := townN_size
  clear hv K ht
  go_enter Try.func68, Try.ntmps68
  go_wp2_with fail
  refine HK.out.mono ?_
  rintro e w1 ⟨rfl, u1⟩
  have y2 := u1.blk (b := w.heap.size + 1) (o := (.cells #[.int .i64 ah, .slice a' n' c'] 44)) (by rw [blk_past _ _ _ (by simp), blk_new _ _ _ (by simp)])
  have y3 := u1.blk (b := w.heap.size + 1 + 1) (o := .cells D.townN 101) (by rw [blk_new _ _ _ (by simp)])
  have c2 := cellB y2
  have l2 := blk_lt y2
  have U1 := ((((Up.refl w).alloc _).alloc _).alloc _).trans u1
  clear u1
  go_wp2_with fail
  refine (HT.out _ (U1.alloc _)).mono ?_
  rintro e w2 ⟨rfl, u2⟩
  have z2 := u2.blk (blk_keep _ y2)
  have z3 := u2.blk (blk_keep _ y3)
  have z4 := u2.blk (blk_new _ _ _ rfl)
  have d2 := cellB z2
  have U2 := (U1.alloc _).trans u2
  clear u2 c2 y2 y3 U1
  go_wp2
  exact bodyPost_ret (results_town rfl _ _ (w.heap.size + 1 + 1) _ rfl (blk_setRow z3 _) hto.1) rfl ⟨rfl, U2.setRow (by omega) _⟩

end Go.Proofs.Ytnaibklajocejaa
