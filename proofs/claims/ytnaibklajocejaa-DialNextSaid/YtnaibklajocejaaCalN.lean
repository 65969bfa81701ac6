import Derived.Test.YtnaibklajocejaaCalM
/- The contracts of dial's exported functions over a calendar: Check, Length, Reading, Tick, Apart. -/
namespace Go.Proofs.Ytnaibklajocejaa
open Go.RowKit

set_option maxRecDepth 100000 in
theorem Check_no {h m s d : Int} {a : Option Addr} {n c : Nat} {L : List (Int × Bool)} {w : World} (A : CalArg w a n c L) (hv : D.valid h m s d L = false) :
    Calls Try.prog 17 #[.agg #[.int .i64 h, .int .i64 m, .int .i64 s, .int .i64 d, .slice a n c]] w fun e w' => e = .returned (.int .i64 10) ∧ Up w w' := by
  have K := Lib.hid (newCal_no (A.up ((Up.refl w).alloc (.cells #[.int .i64 h, .int .i64 m, .int .i64 s, .int .i64 d, .slice a n c] 24))) hv)
  obtain ⟨N, hN⟩ : ∃ N, N = D.calN := ⟨_, rfl⟩
  rw [← hN] at K
  have hs : Hid (N.size = 15) := by rw [hN]; exact calN_size
  have ho : Ok15 N := by rw [hN]; exact calN_ok
  clear hN hv
  go_enter Try.func17, Try.ntmps17
  go_wp2_with fail
  refine K.out.mono ?_
  rintro e w1 ⟨rfl, u1⟩
  go_wp2
  go_ret
  exact ⟨rfl, (((Up.refl _).alloc _).trans u1).alloc _⟩

set_option maxRecDepth 100000 in
theorem Check_yes {h m s d : Int} {a : Option Addr} {n c : Nat} {L : List (Int × Bool)} {w : World} (A : CalArg w a n c L) (hv : D.valid h m s d L = true) :
    Calls Try.prog 17 #[.agg #[.int .i64 h, .int .i64 m, .int .i64 s, .int .i64 d, .slice a n c]] w fun e w' => e = .returned (.int .i64 0) ∧ Up w w' := by
  obtain ⟨cs, N, rfl, V, K⟩ := newCal_yes (A.up ((Up.refl w).alloc (.cells #[.int .i64 h, .int .i64 m, .int .i64 s, .int .i64 d, .slice a n c] 24))) hv
  have HK := Lib.hid K
  have hs := Lib.hid V.cal.size
  have ho : Ok15 cs := ⟨V.cal.size, V.one⟩
  clear hv K
  go_enter Try.func17, Try.ntmps17
  go_wp2_with fail
  refine HK.out.mono ?_
  rintro e w1 ⟨rfl, u1⟩
  go_wp2
  go_ret
  exact ⟨rfl, (((Up.refl _).alloc _).trans u1).alloc _⟩

set_option maxRecDepth 100000 in
theorem Length_no {h m s d : Int} {a : Option Addr} {n c : Nat} {L : List (Int × Bool)} {w : World} (A : CalArg w a n c L) (k : Int) (hv : D.valid h m s d L = false) :
    Calls Try.prog 15 #[.agg #[.int .i64 h, .int .i64 m, .int .i64 s, .int .i64 d, .slice a n c], .int .i64 k] w fun e w' => e = .returned (.tuple #[.int .i64 0, .int .i64 10]) ∧ Up w w' := by
  have K := Lib.hid (newCal_no (A.up ((Up.refl w).alloc (.cells #[.int .i64 h, .int .i64 m, .int .i64 s, .int .i64 d, .slice a n c] 24))) hv)
  obtain ⟨N, hN⟩ : ∃ N, N = D.calN := ⟨_, rfl⟩
  rw [← hN] at K
  have hs : Hid (N.size = 15) := by rw [hN]; exact calN_size
  have ho : Ok15 N := by rw [hN]; exact calN_ok
  clear hN hv
  go_enter Try.func15, Try.ntmps15
  go_wp2_with fail
  refine K.out.mono ?_
  rintro e w1 ⟨rfl, u1⟩
  go_wp2
  go_ret2
  exact ⟨rfl, (((Up.refl _).alloc _).trans u1).alloc _⟩

set_option maxRecDepth 100000 in
theorem Length_ask {h m s d : Int} {a : Option Addr} {n c : Nat} {L : List (Int × Bool)} {w : World} (A : CalArg w a n c L) (k : Int) (hv : D.valid h m s d L = true) (hk : inB k 0 (d - 1) = false) :
    Calls Try.prog 15 #[.agg #[.int .i64 h, .int .i64 m, .int .i64 s, .int .i64 d, .slice a n c], .int .i64 k] w fun e w' => e = .returned (.tuple #[.int .i64 0, .int .i64 11]) ∧ Up w w' := by
  obtain ⟨cs, N, rfl, V, K⟩ := newCal_yes (A.up ((Up.refl w).alloc (.cells #[.int .i64 h, .int .i64 m, .int .i64 s, .int .i64 d, .slice a n c] 24))) hv
  have HK := Lib.hid K
  have hs := Lib.hid V.cal.size
  have ho : Ok15 cs := ⟨V.cal.size, V.one⟩
  clear hv K
  have KD := fun w => isDay_any V.cal k w (by have := V.d1; omega) (by have := V.d2; omega)
  rw [hk] at KD
  have HD := Lib.hid KD
  clear KD hk
  go_enter Try.func15, Try.ntmps15
  go_wp2_with fail
  refine HK.out.mono ?_
  rintro e w1 ⟨rfl, u1⟩
  go_wp2_with fail
  refine (HD.out _).mono ?_
  rintro e w2 ⟨rfl, u2⟩
  go_wp2
  go_ret2
  exact ⟨rfl, ((((Up.refl _).alloc _).trans u1).alloc _).trans u2⟩

set_option maxRecDepth 100000 in
theorem Length_yes {h m s d : Int} {a : Option Addr} {n c : Nat} {L : List (Int × Bool)} {w : World} (A : CalArg w a n c L) (k : Nat) (hv : D.valid h m s d L = true) (hk : (k : Int) < d) :
    Calls Try.prog 15 #[.agg #[.int .i64 h, .int .i64 m, .int .i64 s, .int .i64 d, .slice a n c], .int .i64 k] w fun e w' => e = .returned (.tuple #[.int .i64 (D.len h m s (D.deeds L L.length k)), .int .i64 0]) ∧ Up w w' := by
  obtain ⟨cs, N, rfl, V, K⟩ := newCal_yes (A.up ((Up.refl w).alloc (.cells #[.int .i64 h, .int .i64 m, .int .i64 s, .int .i64 d, .slice a n c] 24))) hv
  have HK := Lib.hid K
  have hs := Lib.hid V.cal.size
  have ho : Ok15 cs := ⟨V.cal.size, V.one⟩
  clear hv K
  have KD := fun w => isDay_any V.cal k w (by have := V.d1; omega) (by have := V.d2; omega)
  rw [inB_yes (by omega) (by omega)] at KD
  have HD := Lib.hid KD
  have hk10 : k < 10 := by have := V.d2; omega
  clear KD hk
  go_enter Try.func15, Try.ntmps15
  go_wp2_with fail
  refine HK.out.mono ?_
  rintro e w1 ⟨rfl, u1⟩
  go_wp2_with fail
  refine (HD.out _).mono ?_
  rintro e w2 ⟨rfl, u2⟩
  have k2 := u2.blk (blk_new _ _ _ rfl)
  go_wp2_with fail
  refine (length_any V.cal k _ hk10 V.h1 V.h2 V.m1 V.m2 V.s1 V.s2).mono ?_
  rintro e w3 ⟨rfl, u3⟩
  go_wp2
  go_ret2
  exact ⟨rfl, (((((Up.refl _).alloc _).trans u1).alloc _).trans u2).trans u3⟩

set_option maxRecDepth 100000 in
set_option maxHeartbeats 2000000 in
theorem Reading_no {h m s d : Int} {a : Option Addr} {n c : Nat} {L : List (Int × Bool)} {w : World} (A : CalArg w a n c L) (t : Int) (hv : D.valid h m s d L = false) :
    Calls Try.prog 21 #[.agg #[.int .i64 h, .int .i64 m, .int .i64 s, .int .i64 d, .slice a n c], .int .i64 t] w fun e w' => e = .returned (.tuple #[rd 0 0 0 0, .int .i64 10]) ∧ Up w w' := by
  have K := Lib.hid (newCal_no (A.up (((Up.refl w).alloc (.cells #[.int .i64 h, .int .i64 m, .int .i64 s, .int .i64 d, .slice a n c] 24)).alloc (.cells #[.int .i64 0, .int .i64 0, .int .i64 0, .int .i64 0] 27))) hv)
  obtain ⟨N, hN⟩ : ∃ N, N = D.calN := ⟨_, rfl⟩
  rw [← hN] at K
  have hs : Hid (N.size = 15) := by rw [hN]; exact calN_size
  have ho : Ok15 N := by rw [hN]; exact calN_ok
  clear hN hv
  go_enter Try.func21, Try.ntmps21
  go_wp2_with fail
  refine K.out.mono ?_
  rintro e w1 ⟨rfl, u1⟩
  have y2 := u1.blk (b := w.heap.size + 1) (o := (.cells #[.int .i64 0, .int .i64 0, .int .i64 0, .int .i64 0] 27)) (by rw [blk_new _ _ _ (by simp)])
  have l2 := blk_lt y2
  have f2 := frozB y2
  go_wp2
  have y3 := blk_keep (.cells N 87) (set4_same y2 (.int .i64 0) (.int .i64 0) (.int .i64 0) (.int .i64 0))
  have f3 := cellB y3
  refine bodyPost_ret (v := .tuple #[rd 0 0 0 0, .int .i64 10]) (by simp [results, Try.results21, go_sem, f3]) rfl ⟨rfl, (((((Up.refl _).alloc _).alloc _).trans u1).set4 (by omega) _ _ _ _).alloc _⟩

set_option maxRecDepth 100000 in
set_option maxHeartbeats 2000000 in
theorem Reading_ask {h m s d : Int} {a : Option Addr} {n c : Nat} {L : List (Int × Bool)} {w : World} (A : CalArg w a n c L) (t : Int) (hv : D.valid h m s d L = true) (hk : inB t 0 (D.beg h m s (D.deeds L L.length) d.toNat - 1) = false) :
    Calls Try.prog 21 #[.agg #[.int .i64 h, .int .i64 m, .int .i64 s, .int .i64 d, .slice a n c], .int .i64 t] w fun e w' => e = .returned (.tuple #[rd 0 0 0 0, .int .i64 11]) ∧ Up w w' := by
  obtain ⟨cs, N, rfl, V, K⟩ := newCal_yes (A.up (((Up.refl w).alloc (.cells #[.int .i64 h, .int .i64 m, .int .i64 s, .int .i64 d, .slice a n c] 24)).alloc (.cells #[.int .i64 0, .int .i64 0, .int .i64 0, .int .i64 0] 27))) hv
  have HK := Lib.hid K
  have hs := Lib.hid V.cal.size
  have ho : Ok15 cs := ⟨V.cal.size, V.one⟩
  clear hv K
  have KD := fun w => hasReading_any V.cal t w V.h1 V.h2 V.m1 V.m2 V.s1 V.s2 V.d2
  rw [Int.toNat_natCast] at hk
  rw [hk] at KD
  have HD := Lib.hid KD
  clear KD hk
  go_enter Try.func21, Try.ntmps21
  go_wp2_with fail
  refine HK.out.mono ?_
  rintro e w1 ⟨rfl, u1⟩
  have y2 := u1.blk (b := w.heap.size + 1) (o := (.cells #[.int .i64 0, .int .i64 0, .int .i64 0, .int .i64 0] 27)) (by rw [blk_new _ _ _ (by simp)])
  go_wp2_with fail
  refine (HD.out _).mono ?_
  rintro e w2 ⟨rfl, u2⟩
  have y3 := u2.blk (blk_keep _ y2)
  have l3 := blk_lt y3
  have f2 := frozB y3
  clear y2
  go_wp2
  have y4 := set4_same y3 (.int .i64 0) (.int .i64 0) (.int .i64 0) (.int .i64 0)
  have f3 := cellB y4
  refine bodyPost_ret (v := .tuple #[rd 0 0 0 0, .int .i64 11]) (by simp [results, Try.results21, go_sem, f3]) rfl ⟨rfl, ((((((Up.refl _).alloc _).alloc _).trans u1).alloc _).trans u2).set4 (by omega) _ _ _ _⟩

/-- the minute of a day in which a tick lies -/
def D.q (h m s r : Int) : Int := min (r / s) (h * m - 1)
theorem D.day_ex (h m s : Int) (x : Nat → Int) (N : Nat) (t : Int) (t0 : 0 ≤ t) (t1 : t < D.beg h m s x N) : ∃ j, j < N ∧ D.beg h m s x j ≤ t ∧ t < D.beg h m s x (j + 1) := by
  induction N with
  | zero => rw [D.beg_zero] at t1; omega
  | succ N ih =>
    by_cases g : t < D.beg h m s x N
    · obtain ⟨j, hj, h2⟩ := ih g
      exact ⟨j, by omega, h2⟩
    · exact ⟨N, by omega, by omega, t1⟩
set_option maxRecDepth 100000 in
set_option maxHeartbeats 2000000 in
theorem Reading_yes {h m s d : Int} {a : Option Addr} {n c : Nat} {L : List (Int × Bool)} {w : World} (A : CalArg w a n c L) (t : Int) (j : Nat) (hv : D.valid h m s d L = true) (hj : (j : Int) < d) (t0 : 0 ≤ t) (t1 : D.beg h m s (D.deeds L L.length) j ≤ t) (t2 : t < D.beg h m s (D.deeds L L.length) (j + 1)) :
    Calls Try.prog 21 #[.agg #[.int .i64 h, .int .i64 m, .int .i64 s, .int .i64 d, .slice a n c], .int .i64 t] w fun e w' => e = .returned (.tuple #[rd j (D.q h m s (t - D.beg h m s (D.deeds L L.length) j) / m) (D.q h m s (t - D.beg h m s (D.deeds L L.length) j) % m) (t - D.beg h m s (D.deeds L L.length) j - D.q h m s (t - D.beg h m s (D.deeds L L.length) j) * s), .int .i64 0]) ∧ Up w w' := by
  obtain ⟨cs, N, rfl, V, K⟩ := newCal_yes (A.up (((Up.refl w).alloc (.cells #[.int .i64 h, .int .i64 m, .int .i64 s, .int .i64 d, .slice a n c] 24)).alloc (.cells #[.int .i64 0, .int .i64 0, .int .i64 0, .int .i64 0] 27))) hv
  have HK := Lib.hid K
  have hs := Lib.hid V.cal.size
  have ho : Ok15 cs := ⟨V.cal.size, V.one⟩
  clear hv K
  have KD := fun w => hasReading_any V.cal t w V.h1 V.h2 V.m1 V.m2 V.s1 V.s2 V.d2
  have mono := D.beg_mono h m s (D.deeds L L.length) V.h1 V.h2 V.m1 V.m2 V.s1 V.s2 (j + 1) N (by omega)
  rw [inB_yes t0 (by omega)] at KD
  have HD := Lib.hid KD
  have HR := Lib.hid (fun w => reading_any V.cal V.hx t j w V.h1 V.h2 V.m1 V.m2 V.s1 V.s2 V.d2 (by omega) t0 t1 t2 _ _ (Lib.hid rfl) (Lib.hid rfl))
  obtain ⟨X, hX⟩ : ∃ X, X = D.beg h m s (D.deeds L L.length) j := ⟨_, rfl⟩
  change Hid (∀ w, Calls _ _ _ w fun e w' => e = .returned (rd j (D.q h m s (t - D.beg h m s (D.deeds L L.length) j) / m) (D.q h m s (t - D.beg h m s (D.deeds L L.length) j) % m) (t - D.beg h m s (D.deeds L L.length) j - D.q h m s (t - D.beg h m s (D.deeds L L.length) j) * s)) ∧ Up w w') at HR
  generalize D.q h m s (t - D.beg h m s (D.deeds L L.length) j) / m = Q1 at *
  generalize D.q h m s (t - D.beg h m s (D.deeds L L.length) j) % m = Q2 at *
  generalize t - D.beg h m s (D.deeds L L.length) j - D.q h m s (t - D.beg h m s (D.deeds L L.length) j) * s = Q3 at *
  clear KD mono t1 t2 hX
  go_enter Try.func21, Try.ntmps21
  go_wp2_with fail
  refine HK.out.mono ?_
  rintro e w1 ⟨rfl, u1⟩
  have y2 := u1.blk (b := w.heap.size + 1) (o := (.cells #[.int .i64 0, .int .i64 0, .int .i64 0, .int .i64 0] 27)) (by rw [blk_new _ _ _ (by simp)])
  go_wp2_with fail
  refine (HD.out _).mono ?_
  rintro e w2 ⟨rfl, u2⟩
  have y3 := u2.blk (blk_keep _ y2)
  have k3 := u2.blk (blk_new _ _ _ rfl)
  clear y2
  go_wp2_with fail
  refine (HR.out _).mono ?_
  rintro e w3 ⟨rfl, u3⟩
  have y4 := u3.blk y3
  have l4 := blk_lt y4
  have f4 := frozB y4
  clear y3 k3
  go_wp2
  have y5 := set4_same y4 (.int .i64 j) (.int .i64 Q1) (.int .i64 Q2) (.int .i64 Q3)
  have f3 := cellB y5
  refine bodyPost_ret (v := .tuple #[rd j Q1 Q2 Q3, .int .i64 0]) (by simp [results, Try.results21, go_sem, f3]) rfl ⟨rfl, (((((((Up.refl _).alloc _).alloc _).trans u1).alloc _).trans u2).trans u3).set4 (by omega) _ _ _ _⟩

end Go.Proofs.Ytnaibklajocejaa
