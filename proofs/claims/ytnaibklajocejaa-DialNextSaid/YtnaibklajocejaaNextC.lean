import Derived.Test.YtnaibklajocejaaNextB
/- The contract of dial's Next. -/
namespace Go.Proofs.Ytnaibklajocejaa
open Go.RowKit

/-- the day of a tick -/
def D.dy (h m s : Int) (x : Nat → Int) (t : Int) : Nat → Nat
  | 0 => 0
  | n + 1 => if D.beg h m s x n ≤ t then n else D.dy h m s x t n
theorem D.dy_is (h m s : Int) (x : Nat → Int) (t : Int) (t0 : 0 ≤ t) (n : Nat) (t1 : t < D.beg h m s x n) : D.dy h m s x t n < n ∧ D.beg h m s x (D.dy h m s x t n) ≤ t ∧ t < D.beg h m s x (D.dy h m s x t n + 1) := by
  induction n with
  | zero => rw [D.beg_zero] at t1; omega
  | succ n ih =>
    unfold D.dy
    by_cases g : D.beg h m s x n ≤ t
    · rw [if_pos g]; exact ⟨by omega, g, t1⟩
    · rw [if_neg g]
      obtain ⟨a, b⟩ := ih (by omega)
      exact ⟨by omega, b⟩
/-- the parts of the reading of a tick -/
def D.rR (h m s : Int) (x : Nat → Int) (n : Nat) (t : Int) : Int := t - D.beg h m s x (D.dy h m s x t n)
def D.rA (h m s : Int) (x : Nat → Int) (n : Nat) (t : Int) : Int := D.dy h m s x t n
def D.rB (h m s : Int) (x : Nat → Int) (n : Nat) (t : Int) : Int := D.q h m s (D.rR h m s x n t) / m
def D.rC (h m s : Int) (x : Nat → Int) (n : Nat) (t : Int) : Int := D.q h m s (D.rR h m s x n t) % m
def D.rS (h m s : Int) (x : Nat → Int) (n : Nat) (t : Int) : Int := D.rR h m s x n t - D.q h m s (D.rR h m s x n t) * s

theorem reading_rd {cs : Array Value} {h m s : Int} {n : Nat} {x : Nat → Int} (V : CalV cs h m s n x) (t : Int) (w : World) (t0 : 0 ≤ t) (t1 : t < D.beg h m s x n) :
    Calls Try.prog 59 #[.agg cs, .int .i64 t] w fun e w' => e = .returned (rd (D.rA h m s x n t) (D.rB h m s x n t) (D.rC h m s x n t) (D.rS h m s x n t)) ∧ Up w w' := by
  obtain ⟨a, b, c⟩ := D.dy_is h m s x t t0 n t1
  exact reading_any V.cal V.hx t (D.dy h m s x t n) w V.h1 V.h2 V.m1 V.m2 V.s1 V.s2 V.d2 a t0 b c _ _ (Lib.hid rfl) (Lib.hid rfl)

theorem NextIs.ex (S : Int → Int) (f u each : Int) (fu : f ≤ u) : ∃ v ok, NextIs S f u each v ok := by
  have K : ∀ N : Nat, (∃ x, x < N ∧ NoneIn S f each (List.range x) ∧ (S (f + (x : Nat))).tmod each = 0) ∨ NoneIn S f each (List.range N) := by
    intro N
    induction N with
    | zero => exact .inr (fun i hi => by simp at hi)
    | succ N ih =>
      rcases ih with ⟨x, a, b⟩ | ih
      · exact .inl ⟨x, by omega, b⟩
      · by_cases g : (S (f + (N : Nat))).tmod each = 0
        · exact .inl ⟨N, by omega, ih, g⟩
        · exact .inr (by rw [List.range_succ]; exact ih.snoc g)
  rcases K (u - f).toNat with ⟨x, a, b, c⟩ | hN
  · exact ⟨_, _, .inl ⟨x, by omega, b, c, rfl, rfl⟩⟩
  · exact ⟨_, _, .inr ⟨hN, rfl, rfl⟩⟩

set_option maxRecDepth 100000 in
theorem Next_no {h m s d : Int} {a : Option Addr} {n c : Nat} {L : List (Int × Bool)} {w : World} (A : CalArg w a n c L) (t each : Int) (hv : D.valid h m s d L = false) :
    Calls Try.prog 28 #[.agg #[.int .i64 h, .int .i64 m, .int .i64 s, .int .i64 d, .slice a n c], .int .i64 t, .int .i64 each] w fun e w' => e = .returned (.tuple #[.int .i64 0, .int .i64 10]) ∧ Up w w' := by
  have K := Lib.hid (newCal_no (A.up ((Up.refl w).alloc (.cells #[.int .i64 h, .int .i64 m, .int .i64 s, .int .i64 d, .slice a n c] 24))) hv)
  obtain ⟨N, hN⟩ : ∃ N, N = D.calN := ⟨_, rfl⟩
  rw [← hN] at K
  have hs : Hid (N.size = 15) := by rw [hN]; exact calN_size
  have ho : Ok15 N := by rw [hN]; exact calN_ok
  clear hN hv
  go_enter Try.func28, Try.ntmps28
  go_wp2_with fail
  refine K.out.mono ?_
  rintro e w1 ⟨rfl, u1⟩
  go_wp2
  go_ret2
  exact ⟨rfl, (((Up.refl _).alloc _).trans u1).alloc _⟩

set_option maxRecDepth 100000 in
theorem Next_ask1 {h m s d : Int} {a : Option Addr} {n c : Nat} {L : List (Int × Bool)} {w : World} (A : CalArg w a n c L) (t each : Int) (hv : D.valid h m s d L = true) (hk : inB t 0 (D.beg h m s (D.deeds L L.length) d.toNat - 1) = false) :
    Calls Try.prog 28 #[.agg #[.int .i64 h, .int .i64 m, .int .i64 s, .int .i64 d, .slice a n c], .int .i64 t, .int .i64 each] w fun e w' => e = .returned (.tuple #[.int .i64 0, .int .i64 11]) ∧ Up w w' := by
  obtain ⟨cs, N, rfl, V, K⟩ := newCal_yes (A.up ((Up.refl w).alloc (.cells #[.int .i64 h, .int .i64 m, .int .i64 s, .int .i64 d, .slice a n c] 24))) hv
  have HK := Lib.hid K
  have hs := Lib.hid V.cal.size
  have ho : Ok15 cs := ⟨V.cal.size, V.one⟩
  clear hv K
  have KD := fun w => hasReading_any V.cal t w V.h1 V.h2 V.m1 V.m2 V.s1 V.s2 V.d2
  rw [Int.toNat_natCast] at hk
  rw [hk] at KD
  have HD := Lib.hid KD
  clear KD hk
  go_enter Try.func28, Try.ntmps28
  go_wp2_with fail
  refine HK.out.mono ?_
  rintro e w1 ⟨rfl, u1⟩
  go_wp2_with fail
  refine (HD.out _).mono ?_
  rintro e w2 ⟨rfl, u2⟩
  go_wp2
  go_ret2
  exact ⟨rfl, ((((Up.refl _).alloc _).trans u1).alloc _).trans u2⟩

set_option maxRecDepth 100000 in
theorem Next_ask2 {h m s d : Int} {a : Option Addr} {n c : Nat} {L : List (Int × Bool)} {w : World} (A : CalArg w a n c L) (t each : Int) (hv : D.valid h m s d L = true) (hk : inB t 0 (D.beg h m s (D.deeds L L.length) d.toNat - 1) = true) (he : ¬ (1 ≤ each ∧ each ≤ 60)) :
    Calls Try.prog 28 #[.agg #[.int .i64 h, .int .i64 m, .int .i64 s, .int .i64 d, .slice a n c], .int .i64 t, .int .i64 each] w fun e w' => e = .returned (.tuple #[.int .i64 0, .int .i64 11]) ∧ Up w w' := by
  obtain ⟨cs, N, rfl, V, K⟩ := newCal_yes (A.up ((Up.refl w).alloc (.cells #[.int .i64 h, .int .i64 m, .int .i64 s, .int .i64 d, .slice a n c] 24))) hv
  have HK := Lib.hid K
  have hs := Lib.hid V.cal.size
  have ho : Ok15 cs := ⟨V.cal.size, V.one⟩
  clear hv K
  have KD := fun w => hasReading_any V.cal t w V.h1 V.h2 V.m1 V.m2 V.s1 V.s2 V.d2
  rw [Int.toNat_natCast] at hk
  rw [hk] at KD
  have HD := Lib.hid KD
  clear KD hk
  go_enter Try.func28, Try.ntmps28
  go_wp2_with fail
  refine HK.out.mono ?_
  rintro e w1 ⟨rfl, u1⟩
  go_wp2_with fail
  refine (HD.out _).mono ?_
  rintro e w2 ⟨rfl, u2⟩
  go_wp2_with fail
  refine (within_no _ _ _ _ he).mono ?_
  rintro e w3 ⟨rfl, rfl⟩
  go_wp2
  go_ret2
  exact ⟨rfl, ((((Up.refl _).alloc _).trans u1).alloc _).trans u2⟩

set_option maxRecDepth 100000 in
theorem Next_yes {h m s d : Int} {a : Option Addr} {n c : Nat} {L : List (Int × Bool)} {w : World} (A : CalArg w a n c L) (t each : Int) (v : Int) (hv : D.valid h m s d L = true) (hk : inB t 0 (D.beg h m s (D.deeds L L.length) d.toNat - 1) = true) (h1 : 1 ≤ each) (h2 : each ≤ 60) (hN : NextIs (D.rS h m s (D.deeds L L.length) d.toNat) t (D.beg h m s (D.deeds L L.length) d.toNat) each v true) :
    Calls Try.prog 28 #[.agg #[.int .i64 h, .int .i64 m, .int .i64 s, .int .i64 d, .slice a n c], .int .i64 t, .int .i64 each] w fun e w' => e = .returned (.tuple #[.int .i64 v, .int .i64 0]) ∧ Up w w' := by
  obtain ⟨cs, N, rfl, V, K⟩ := newCal_yes (A.up ((Up.refl w).alloc (.cells #[.int .i64 h, .int .i64 m, .int .i64 s, .int .i64 d, .slice a n c] 24))) hv
  have HK := Lib.hid K
  have hs := Lib.hid V.cal.size
  have ho : Ok15 cs := ⟨V.cal.size, V.one⟩
  clear hv K
  have KD := fun w => hasReading_any V.cal t w V.h1 V.h2 V.m1 V.m2 V.s1 V.s2 V.d2
  rw [Int.toNat_natCast] at hk
  rw [Int.toNat_natCast] at hN
  have t0 := (inB_iff.1 hk).1
  have t1 := (inB_iff.1 hk).2
  rw [hk] at KD
  have bb := (D.beg_bd h m s (D.deeds L L.length) V.h1 V.h2 V.m1 V.m2 V.s1 V.s2 N).2
  have HN := Lib.hid (fun w => next_in V.cal.size (D.rA h m s (D.deeds L L.length) N) (D.rB h m s (D.deeds L L.length) N) (D.rC h m s (D.deeds L L.length) N) (D.rS h m s (D.deeds L L.length) N) t (D.beg h m s (D.deeds L L.length) N) each t0 (by have := V.d2; omega) (by omega) h1
    (fun t w a b => reading_rd V t w (by omega) b) (fun w => total_beg V.cal w V.h1 V.h2 V.m1 V.m2 V.s1 V.s2 V.d2) v true hN w)
  have HD := Lib.hid KD
  clear KD hk hN t0 t1 bb
  go_enter Try.func28, Try.ntmps28
  go_wp2_with fail
  refine HK.out.mono ?_
  rintro e w1 ⟨rfl, u1⟩
  go_wp2_with fail
  refine (HD.out _).mono ?_
  rintro e w2 ⟨rfl, u2⟩
  have k2 := u2.blk (blk_new _ _ _ rfl)
  go_wp2_with fail
  refine (within_yes _ _ _ _ h1 h2).mono ?_
  rintro e w3 ⟨rfl, rfl⟩
  go_wp2_with fail
  refine (HN.out _).mono ?_
  rintro e w4 ⟨rfl, u4⟩
  go_wp2
  go_ret2
  exact ⟨rfl, (((((Up.refl _).alloc _).trans u1).alloc _).trans u2).trans u4⟩

set_option maxRecDepth 100000 in
theorem Next_none {h m s d : Int} {a : Option Addr} {n c : Nat} {L : List (Int × Bool)} {w : World} (A : CalArg w a n c L) (t each : Int) (v : Int) (hv : D.valid h m s d L = true) (hk : inB t 0 (D.beg h m s (D.deeds L L.length) d.toNat - 1) = true) (h1 : 1 ≤ each) (h2 : each ≤ 60) (hN : NextIs (D.rS h m s (D.deeds L L.length) d.toNat) t (D.beg h m s (D.deeds L L.length) d.toNat) each v false) :
    Calls Try.prog 28 #[.agg #[.int .i64 h, .int .i64 m, .int .i64 s, .int .i64 d, .slice a n c], .int .i64 t, .int .i64 each] w fun e w' => e = .returned (.tuple #[.int .i64 0, .int .i64 4]) ∧ Up w w' := by
  obtain ⟨cs, N, rfl, V, K⟩ := newCal_yes (A.up ((Up.refl w).alloc (.cells #[.int .i64 h, .int .i64 m, .int .i64 s, .int .i64 d, .slice a n c] 24))) hv
  have HK := Lib.hid K
  have hs := Lib.hid V.cal.size
  have ho : Ok15 cs := ⟨V.cal.size, V.one⟩
  clear hv K
  have KD := fun w => hasReading_any V.cal t w V.h1 V.h2 V.m1 V.m2 V.s1 V.s2 V.d2
  rw [Int.toNat_natCast] at hk
  rw [Int.toNat_natCast] at hN
  have t0 := (inB_iff.1 hk).1
  have t1 := (inB_iff.1 hk).2
  rw [hk] at KD
  have bb := (D.beg_bd h m s (D.deeds L L.length) V.h1 V.h2 V.m1 V.m2 V.s1 V.s2 N).2
  have HN := Lib.hid (fun w => next_in V.cal.size (D.rA h m s (D.deeds L L.length) N) (D.rB h m s (D.deeds L L.length) N) (D.rC h m s (D.deeds L L.length) N) (D.rS h m s (D.deeds L L.length) N) t (D.beg h m s (D.deeds L L.length) N) each t0 (by have := V.d2; omega) (by omega) h1
    (fun t w a b => reading_rd V t w (by omega) b) (fun w => total_beg V.cal w V.h1 V.h2 V.m1 V.m2 V.s1 V.s2 V.d2) v false hN w)
  have HD := Lib.hid KD
  clear KD hk hN t0 t1 bb
  go_enter Try.func28, Try.ntmps28
  go_wp2_with fail
  refine HK.out.mono ?_
  rintro e w1 ⟨rfl, u1⟩
  go_wp2_with fail
  refine (HD.out _).mono ?_
  rintro e w2 ⟨rfl, u2⟩
  have k2 := u2.blk (blk_new _ _ _ rfl)
  go_wp2_with fail
  refine (within_yes _ _ _ _ h1 h2).mono ?_
  rintro e w3 ⟨rfl, rfl⟩
  go_wp2_with fail
  refine (HN.out _).mono ?_
  rintro e w4 ⟨rfl, u4⟩
  go_wp2
  go_ret2
  exact ⟨rfl, (((((Up.refl _).alloc _).trans u1).alloc _).trans u2).trans u4⟩

end Go.Proofs.Ytnaibklajocejaa
