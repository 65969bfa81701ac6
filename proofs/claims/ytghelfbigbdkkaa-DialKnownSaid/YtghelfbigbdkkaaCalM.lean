import Derived.Test.YtghelfbigbdkkaaCalK
import Derived.Test.YtghelfbigbdkkaaCalH
/- The contracts of dial's exported functions over a calendar: Check, Length, Total, Reading, Tick, Apart. -/
namespace Go.Proofs.Ytghelfbigbdkkaa
open Go.RowKit

/-- a calendar's decrees, as an argument has them -/
structure CalArg (w : World) (a : Option Addr) (n c : Nat) (L : List (Int × Bool)) : Prop where
  len : n = L.length
  max : n ≤ 9223372036854775807
  mem : 0 < n → ∃ b off, a = some ⟨b, off, none⟩ ∧ Decs w b off L
theorem CalArg.up {w w' : World} {a : Option Addr} {n c : Nat} {L : List (Int × Bool)} (A : CalArg w a n c L) (u : Up w w') : CalArg w' a n c L :=
  ⟨A.len, A.max, fun h => by obtain ⟨b, off, ha, hD⟩ := A.mem h; exact ⟨b, off, ha, hD.up u⟩⟩

/-- is a calendar valid? -/
def D.valid (h m s d : Int) (L : List (Int × Bool)) : Bool := D.sizes h m s d && (decide (L.length ≤ 10) && D.incr (fun k => inB k 0 (d - 1)) (-1) (L.map (·.1)))

theorem D.incr_all (p : Int → Bool) (a : Int) (l : List Int) (hi : D.incr p a l = true) (k : Nat) (hk : k < l.length) : p (l.getD k 0) = true := by
  induction l generalizing a k with
  | nil => simp at hk
  | cons z l ih =>
    simp only [D.incr, Bool.and_eq_true] at hi
    cases k with
    | zero => exact hi.1.2
    | succ k => simpa using ih z hi.2 k (by simpa using hk)

theorem newCal_no {h m s d : Int} {a : Option Addr} {n c : Nat} {L : List (Int × Bool)} {w : World} (A : CalArg w a n c L) (hv : D.valid h m s d L = false) :
    Calls Try.prog 20 #[.agg #[.int .i64 h, .int .i64 m, .int .i64 s, .int .i64 d, .slice a n c]] w fun e w' => e = .returned (.tuple #[.agg D.calN, .int .i64 10]) ∧ Up w w' := by
  cases hz : D.sizes h m s d
  · exact newCalendar_sizes h m s d a n c w hz
  · have hz' := hz
    simp only [D.sizes, Bool.and_eq_true, inB_iff] at hz'
    obtain ⟨⟨⟨⟨h1, h2⟩, m1, m2⟩, s1, s2⟩, d1, d2⟩ := hz'
    rw [D.valid, hz, Bool.true_and] at hv
    refine newCalendar_decrees h m s d a n c w h1 h2 m1 m2 s1 s2 d1 d2 fun w' u => ?_
    have A' := A.up u
    by_cases hn : 10 < n
    · exact hasDecrees_many (D.cal0_cal h m s d a n c) a n c rfl hn A.max w'
    · have hl := A.len
      subst hl
      have e1 : decide (L.length ≤ 10) = true := by simp; omega
      rw [e1, Bool.true_and] at hv
      by_cases h0 : 0 < L.length
      · obtain ⟨b, off, rfl, hD⟩ := A'.mem h0
        have K := hasDecrees_any (D.cal0_cal h m s d (some ⟨b, off, none⟩) L.length c) b off c L rfl h0 (by omega) w' hD d1 d2
        rw [hv] at K
        exact K
      · have : L = [] := List.eq_nil_of_length_eq_zero (by omega)
        subst this
        simp [D.incr] at hv

theorem newCal_yes {h m s d : Int} {a : Option Addr} {n c : Nat} {L : List (Int × Bool)} {w : World} (A : CalArg w a n c L) (hv : D.valid h m s d L = true) :
    ∃ (cs : Array Value) (N : Nat), d = (N : Int) ∧ CalV cs h m s N (D.deeds L L.length) ∧
      Calls Try.prog 20 #[.agg #[.int .i64 h, .int .i64 m, .int .i64 s, .int .i64 d, .slice a n c]] w fun e w' => e = .returned (.tuple #[.agg cs, .int .i64 0]) ∧ Up w w' := by
  simp only [D.valid, D.sizes, Bool.and_eq_true, inB_iff, decide_eq_true_eq] at hv
  obtain ⟨⟨⟨⟨⟨h1, h2⟩, m1, m2⟩, s1, s2⟩, d1, d2⟩, hl10, hinc⟩ := hv
  obtain ⟨N, rfl⟩ := Int.eq_ofNat_of_zero_le (by omega : 0 ≤ d)
  have hl := A.len
  subst hl
  have hr : ∀ k, k < L.length → 0 ≤ (L.getD k (0, false)).1 ∧ (L.getD k (0, false)).1 < (N : Int) := by
    intro k hk
    have q := D.incr_all _ _ _ hinc k (by rw [List.length_map]; exact hk)
    have e : (L.map (·.1)).getD k 0 = (L.getD k (0, false)).1 := by
      rw [List.getD_eq_getElem?_getD, List.getD_eq_getElem?_getD, List.getElem?_map, List.getElem?_eq_getElem hk]; rfl
    rw [e, inB_iff] at q
    omega
  have KH : ∀ w', Up w w' → Calls Try.prog 36 #[.agg (D.cal0 h m s N a L.length c)] w' fun e w'' => e = .returned (.bool true) ∧ Up w' w'' := by
    intro w' u
    by_cases h0 : 0 < L.length
    · obtain ⟨b, off, rfl, hD⟩ := (A.up u).mem h0
      have K := hasDecrees_any (D.cal0_cal h m s N (some ⟨b, off, none⟩) L.length c) b off c L rfl h0 hl10 w' hD d1 d2
      rw [hinc] at K
      exact K
    · have hz : L.length = 0 := by omega
      have K := hasDecrees_nil (D.cal0_cal h m s N a L.length c) a c (by rw [hz]; rfl) w'
      exact K
  by_cases h0 : 0 < L.length
  · obtain ⟨b, off, ha, hD⟩ := A.mem h0
    obtain ⟨cs, C, o, K⟩ := newCalendar_ok h m s N a L.length c L b off rfl (fun _ => ha) w (fun _ => hD) hl10 h1 h2 m1 m2 s1 s2 d1 d2 hr KH
    exact ⟨cs, N, rfl, ⟨C, o, h1, h2, m1, m2, s1, s2, by omega, by omega, fun k _ => D.deeds_bd L L.length k⟩, K⟩
  · obtain ⟨cs, C, o, K⟩ := newCalendar_ok h m s N a L.length c L 0 0 rfl (fun q => absurd q h0) w (fun q => absurd q h0) hl10 h1 h2 m1 m2 s1 s2 d1 d2 hr KH
    exact ⟨cs, N, rfl, ⟨C, o, h1, h2, m1, m2, s1, s2, by omega, by omega, fun k _ => D.deeds_bd L L.length k⟩, K⟩

/-- cells that can be stored as a calendar's -/
def Ok15 (cs : Array Value) : Prop := cs.size = 15 ∧ cs.all (·.oneCell') = true
/-- a whole calendar is stored -/
def calStore (p v : Value) : Sem Unit := Instr.storeAt 62 p v
theorem calStore_eq (p v : Value) : Instr.storeAt 62 p v = calStore p v := rfl
theorem run_calStore (w : World) (c cs : Array Value) (n : Nat) (hn : n = w.heap.size) (hc : c.size = 15) (hs : Ok15 cs) :
    (calStore (.pointer (some ⟨n, 0, none⟩)) (.agg cs)).run Try.prog (w.alloc (.cells c 62)) = .ok () (w.alloc (.cells cs 62)) := by
  subst hn
  have q := run_storeVar_new (P := Try.prog) w 62 c cs (by rw [Try.infoCal, hs.1]) (by rw [hc, hs.1]) hs.2
  simp only [calStore, Instr.storeAt, Instr.sureAddr, Sem.run_bind, Sem.run_pure, Result.andThen_ok, q]
attribute [go_sem ↓] calStore_eq
attribute [go_sem] run_calStore
theorem calN_size : Hid (D.calN.size = 15) := rfl
theorem calN_ok : Ok15 D.calN := ⟨rfl, D.calN_one⟩

set_option maxRecDepth 100000 in
theorem Total_no {h m s d : Int} {a : Option Addr} {n c : Nat} {L : List (Int × Bool)} {w : World} (A : CalArg w a n c L) (hv : D.valid h m s d L = false) :
    Calls Try.prog 6 #[.agg #[.int .i64 h, .int .i64 m, .int .i64 s, .int .i64 d, .slice a n c]] w fun e w' => e = .returned (.tuple #[.int .i64 0, .int .i64 10]) ∧ Up w w' := by
  have K := Lib.hid (newCal_no (A.up ((Up.refl w).alloc (.cells #[.int .i64 h, .int .i64 m, .int .i64 s, .int .i64 d, .slice a n c] 24))) hv)
  obtain ⟨N, hN⟩ : ∃ N, N = D.calN := ⟨_, rfl⟩
  rw [← hN] at K
  have hs : Hid (N.size = 15) := by rw [hN]; exact calN_size
  have ho : Ok15 N := by rw [hN]; exact calN_ok
  clear hN hv
  go_enter Try.func6, Try.ntmps6
  go_wp2_with fail
  refine K.out.mono ?_
  rintro e w1 ⟨rfl, u1⟩
  go_wp2
  go_ret2
  exact ⟨rfl, (((Up.refl _).alloc _).trans u1).alloc _⟩

set_option maxRecDepth 100000 in
theorem Total_yes {h m s d : Int} {a : Option Addr} {n c : Nat} {L : List (Int × Bool)} {w : World} (A : CalArg w a n c L) (hv : D.valid h m s d L = true) :
    Calls Try.prog 6 #[.agg #[.int .i64 h, .int .i64 m, .int .i64 s, .int .i64 d, .slice a n c]] w fun e w' => e = .returned (.tuple #[.int .i64 (D.beg h m s (D.deeds L L.length) d.toNat), .int .i64 0]) ∧ Up w w' := by
  obtain ⟨cs, N, rfl, V, K⟩ := newCal_yes (A.up ((Up.refl w).alloc (.cells #[.int .i64 h, .int .i64 m, .int .i64 s, .int .i64 d, .slice a n c] 24))) hv
  have HK := Lib.hid K
  have hs := Lib.hid V.cal.size
  have ho : Ok15 cs := ⟨V.cal.size, V.one⟩
  clear hv K
  go_enter Try.func6, Try.ntmps6
  go_wp2_with fail
  refine HK.out.mono ?_
  rintro e w1 ⟨rfl, u1⟩
  go_wp2_with fail
  refine (total_beg V.cal _ V.h1 V.h2 V.m1 V.m2 V.s1 V.s2 V.d2).mono ?_
  rintro e w2 ⟨rfl, u2⟩
  go_wp2
  go_ret2
  exact ⟨rfl, ((((Up.refl _).alloc _).trans u1).alloc _).trans u2⟩

end Go.Proofs.Ytghelfbigbdkkaa
