import Derived.Test.YtghelfbigbdkkaaCalM
/- The contracts of dial's exported functions over a calendar: Check, Length, Reading, Tick, Apart. -/
namespace Go.Proofs.Ytghelfbigbdkkaa
open Go.RowKit

set_option maxRecDepth 100000 in
theorem Check_no {h m s d : Int} {a : Option Addr} {n c : Nat} {L : List (Int × Bool)} {w : World} (A : CalArg w a n c L) (hv : D.valid h m s d L = false) :
    Calls Try.prog 15 #[.agg #[.int .i64 h, .int .i64 m, .int .i64 s, .int .i64 d, .slice a n c]] w fun e w' => e = .returned (.int .i64 10) ∧ Up w w' := by
  have K := Lib.hid (newCal_no (A.up ((Up.refl w).alloc (.cells #[.int .i64 h, .int .i64 m, .int .i64 s, .int .i64 d, .slice a n c] 24))) hv)
  obtain ⟨N, hN⟩ : ∃ N, N = D.calN := ⟨_, rfl⟩
  rw [← hN] at K
  have hs : Hid (N.size = 15) := by rw [hN]; exact calN_size
  have ho : Ok15 N := by rw [hN]; exact calN_ok
  clear hN hv
  go_enter Try.func15, Try.ntmps15
  go_wp2_with fail
  refine K.out.mono ?_
  rintro e w1 ⟨rfl, u1⟩
  go_wp2
  go_ret
  exact ⟨rfl, (((Up.refl _).alloc _).trans u1).alloc _⟩

set_option maxRecDepth 100000 in
theorem Check_yes {h m s d : Int} {a : Option Addr} {n c : Nat} {L : List (Int × Bool)} {w : World} (A : CalArg w a n c L) (hv : D.valid h m s d L = true) :
    Calls Try.prog 15 #[.agg #[.int .i64 h, .int .i64 m, .int .i64 s, .int .i64 d, .slice a n c]] w fun e w' => e = .returned (.int .i64 0) ∧ Up w w' := by
  obtain ⟨cs, N, rfl, V, K⟩ := newCal_yes (A.up ((Up.refl w).alloc (.cells #[.int .i64 h, .int .i64 m, .int .i64 s, .int .i64 d, .slice a n c] 24))) hv
  have HK := Lib.hid K
  have hs := Lib.hid V.cal.size
  have ho : Ok15 cs := ⟨V.cal.size, V.one⟩
  clear hv K
  go_enter Try.func15, Try.ntmps15
  go_wp2_with fail
  refine HK.out.mono ?_
  rintro e w1 ⟨rfl, u1⟩
  go_wp2
  go_ret
  exact ⟨rfl, (((Up.refl _).alloc _).trans u1).alloc _⟩

set_option maxRecDepth 100000 in
theorem Length_no {h m s d : Int} {a : Option Addr} {n c : Nat} {L : List (Int × Bool)} {w : World} (A : CalArg w a n c L) (k : Int) (hv : D.valid h m s d L = false) :
    Calls Try.prog 5 #[.agg #[.int .i64 h, .int .i64 m, .int .i64 s, .int .i64 d, .slice a n c], .int .i64 k] w fun e w' => e = .returned (.tuple #[.int .i64 0, .int .i64 10]) ∧ Up w w' := by
  have K := Lib.hid (newCal_no (A.up ((Up.refl w).alloc (.cells #[.int .i64 h, .int .i64 m, .int .i64 s, .int .i64 d, .slice a n c] 24))) hv)
  obtain ⟨N, hN⟩ : ∃ N, N = D.calN := ⟨_, rfl⟩
  rw [← hN] at K
  have hs : Hid (N.size = 15) := by rw [hN]; exact calN_size
  have ho : Ok15 N := by rw [hN]; exact calN_ok
  clear hN hv
  go_enter Try.func5, Try.ntmps5
  go_wp2_with fail
  refine K.out.mono ?_
  rintro e w1 ⟨rfl, u1⟩
  go_wp2
  go_ret2
  exact ⟨rfl, (((Up.refl _).alloc _).trans u1).alloc _⟩

set_option maxRecDepth 100000 in
theorem Length_ask {h m s d : Int} {a : Option Addr} {n c : Nat} {L : List (Int × Bool)} {w : World} (A : CalArg w a n c L) (k : Int) (hv : D.valid h m s d L = true) (hk : inB k 0 (d - 1) = false) :
    Calls Try.prog 5 #[.agg #[.int .i64 h, .int .i64 m, .int .i64 s, .int .i64 d, .slice a n c], .int .i64 k] w fun e w' => e = .returned (.tuple #[.int .i64 0, .int .i64 11]) ∧ Up w w' := by
  obtain ⟨cs, N, rfl, V, K⟩ := newCal_yes (A.up ((Up.refl w).alloc (.cells #[.int .i64 h, .int .i64 m, .int .i64 s, .int .i64 d, .slice a n c] 24))) hv
  have HK := Lib.hid K
  have hs := Lib.hid V.cal.size
  have ho : Ok15 cs := ⟨V.cal.size, V.one⟩
  clear hv K
  have KD := fun w => isDay_any V.cal k w (by have := V.d1; omega) (by have := V.d2; omega)
  rw [hk] at KD
  have HD := Lib.hid KD
  clear KD hk
  go_enter Try.func5, Try.ntmps5
  go_wp2_with fail
  refine HK.out.mono ?_
  rintro e w1 ⟨rfl, u1⟩
  go_wp2_with fail
  refine (HD.out _).mono ?_
  rintro e w2 ⟨rfl, u2⟩
  go_wp2
  go_ret2
  exact ⟨rfl, ((((Up.refl _).alloc _).trans u1).alloc _).trans u2⟩

set_option maxRecDepth 100000 in
theorem Length_yes {h m s d : Int} {a : Option Addr} {n c : Nat} {L : List (Int × Bool)} {w : World} (A : CalArg w a n c L) (k : Nat) (hv : D.valid h m s d L = true) (hk : (k : Int) < d) :
    Calls Try.prog 5 #[.agg #[.int .i64 h, .int .i64 m, .int .i64 s, .int .i64 d, .slice a n c], .int .i64 k] w fun e w' => e = .returned (.tuple #[.int .i64 (D.len h m s (D.deeds L L.length k)), .int .i64 0]) ∧ Up w w' := by
  obtain ⟨cs, N, rfl, V, K⟩ := newCal_yes (A.up ((Up.refl w).alloc (.cells #[.int .i64 h, .int .i64 m, .int .i64 s, .int .i64 d, .slice a n c] 24))) hv
  have HK := Lib.hid K
  have hs := Lib.hid V.cal.size
  have ho : Ok15 cs := ⟨V.cal.size, V.one⟩
  clear hv K
  have KD := fun w => isDay_any V.cal k w (by have := V.d1; omega) (by have := V.d2; omega)
  rw [inB_yes (by omega) (by omega)] at KD
  have HD := Lib.hid KD
  have hk10 : k < 10 := by have := V.d2; omega
  clear KD hk
  go_enter Try.func5, Try.ntmps5
  go_wp2_with fail
  refine HK.out.mono ?_
  rintro e w1 ⟨rfl, u1⟩
  go_wp2_with fail
  refine (HD.out _).mono ?_
  rintro e w2 ⟨rfl, u2⟩
  have k2 := u2.blk (blk_new _ _ _ rfl)
  go_wp2_with fail
  refine (length_any V.cal k _ hk10 V.h1 V.h2 V.m1 V.m2 V.s1 V.s2).mono ?_
  rintro e w3 ⟨rfl, u3⟩
  go_wp2
  go_ret2
  exact ⟨rfl, (((((Up.refl _).alloc _).trans u1).alloc _).trans u2).trans u3⟩

set_option maxRecDepth 100000 in
set_option maxHeartbeats 2000000 in
theorem Reading_no {h m s d : Int} {a : Option Addr} {n c : Nat} {L : List (Int × Bool)} {w : World} (A : CalArg w a n c L) (t : Int) (hv : D.valid h m s d L = false) :
    Calls Try.prog 7 #[.agg #[.int .i64 h, .int .i64 m, .int .i64 s, .int .i64 d, .slice a n c], .int .i64 t] w fun e w' => e = .returned (.tuple #[rd 0 0 0 0, .int .i64 10]) ∧ Up w w' := by
  have K := Lib.hid (newCal_no (A.up (((Up.refl w).alloc (.cells #[.int .i64 h, .int .i64 m, .int .i64 s, .int .i64 d, .slice a n c] 24)).alloc (.cells #[.int .i64 0, .int .i64 0, .int .i64 0, .int .i64 0] 34))) hv)
  obtain ⟨N, hN⟩ : ∃ N, N = D.calN := ⟨_, rfl⟩
  rw [← hN] at K
  have hs : Hid (N.size = 15) := by rw [hN]; exact calN_size
  have ho : Ok15 N := by rw [hN]; exact calN_ok
  clear hN hv
  go_enter Try.func7, Try.ntmps7
  go_wp2_with fail
  refine K.out.mono ?_
  rintro e w1 ⟨rfl, u1⟩
  have y2 := u1.blk (b := w.heap.size + 1) (o := (.cells #[.int .i64 0, .int .i64 0, .int .i64 0, .int .i64 0] 34)) (by rw [blk_new _ _ _ (by simp)])
  have l2 := blk_lt y2
  have f2 := frozB y2
  go_wp2
  have y3 := blk_keep (.cells N 62) (set4_same y2 (.int .i64 0) (.int .i64 0) (.int .i64 0) (.int .i64 0))
  have f3 := cellB y3
  refine bodyPost_ret (v := .tuple #[rd 0 0 0 0, .int .i64 10]) (by simp [results, Try.results7, go_sem, f3]) rfl ⟨rfl, (((((Up.refl _).alloc _).alloc _).trans u1).set4 (by omega) _ _ _ _).alloc _⟩

set_option maxRecDepth 100000 in
set_option maxHeartbeats 2000000 in
theorem Reading_ask {h m s d : Int} {a : Option Addr} {n c : Nat} {L : List (Int × Bool)} {w : World} (A : CalArg w a n c L) (t : Int) (hv : D.valid h m s d L = true) (hk : inB t 0 (D.beg h m s (D.deeds L L.length) d.toNat - 1) = false) :
    Calls Try.prog 7 #[.agg #[.int .i64 h, .int .i64 m, .int .i64 s, .int .i64 d, .slice a n c], .int .i64 t] w fun e w' => e = .returned (.tuple #[rd 0 0 0 0, .int .i64 11]) ∧ Up w w' := by
  obtain ⟨cs, N, rfl, V, K⟩ := newCal_yes (A.up (((Up.refl w).alloc (.cells #[.int .i64 h, .int .i64 m, .int .i64 s, .int .i64 d, .slice a n c] 24)).alloc (.cells #[.int .i64 0, .int .i64 0, .int .i64 0, .int .i64 0] 34))) hv
  have HK := Lib.hid K
  have hs := Lib.hid V.cal.size
  have ho : Ok15 cs := ⟨V.cal.size, V.one⟩
  clear hv K
  have KD := fun w => hasReading_any V.cal t w V.h1 V.h2 V.m1 V.m2 V.s1 V.s2 V.d2
  rw [Int.toNat_natCast] at hk
  rw [hk] at KD
  have HD := Lib.hid KD
  clear KD hk
  go_enter Try.func7, Try.ntmps7
  go_wp2_with fail
  refine HK.out.mono ?_
  rintro e w1 ⟨rfl, u1⟩
  have y2 := u1.blk (b := w.heap.size + 1) (o := (.cells #[.int .i64 0, .int .i64 0, .int .i64 0, .int .i64 0] 34)) (by rw [blk_new _ _ _ (by simp)])
  go_wp2_with fail
  refine (HD.out _).mono ?_
  rintro e w2 ⟨rfl, u2⟩
  have y3 := u2.blk (blk_keep _ y2)
  have l3 := blk_lt y3
  have f2 := frozB y3
  clear y2
  go_wp2
  have y4 := set4_same y3 (.int .i64 0) (.int .i64 0) (.int .i64 0) (.int .i64 0)
  have f3 := cellB y4
  refine bodyPost_ret (v := .tuple #[rd 0 0 0 0, .int .i64 11]) (by simp [results, Try.results7, go_sem, f3]) rfl ⟨rfl, ((((((Up.refl _).alloc _).alloc _).trans u1).alloc _).trans u2).set4 (by omega) _ _ _ _⟩

/-- the minute of a day in which a tick lies -/
def D.q (h m s r : Int) : Int := min (r / s) (h * m - 1)
theorem D.day_ex (h m s : Int) (x : Nat → Int) (N : Nat) (t : Int) (t0 : 0 ≤ t) (t1 : t < D.beg h m s x N) : ∃ j, j < N ∧ D.beg h m s x j ≤ t ∧ t < D.beg h m s x (j + 1) := by
  induction N with
  | zero => rw [D.beg_zero] at t1; omega
  | succ N ih =>
    by_cases g : t < D.beg h m s x N
    · obtain ⟨j, hj, h2⟩ := ih g
      exact ⟨j, by omega, h2⟩
    · exact ⟨N, by omega, by omega, t1⟩
set_option maxRecDepth 100000 in
set_option maxHeartbeats 2000000 in
theorem Reading_yes {h m s d : Int} {a : Option Addr} {n c : Nat} {L : List (Int × Bool)} {w : World} (A : CalArg w a n c L) (t : Int) (j : Nat) (hv : D.valid h m s d L = true) (hj : (j : Int) < d) (t0 : 0 ≤ t) (t1 : D.beg h m s (D.deeds L L.length) j ≤ t) (t2 : t < D.beg h m s (D.deeds L L.length) (j + 1)) :
    Calls Try.prog 7 #[.agg #[.int .i64 h, .int .i64 m, .int .i64 s, .int .i64 d, .slice a n c], .int .i64 t] w fun e w' => e = .returned (.tuple #[rd j (D.q h m s (t - D.beg h m s (D.deeds L L.length) j) / m) (D.q h m s (t - D.beg h m s (D.deeds L L.length) j) % m) (t - D.beg h m s (D.deeds L L.length) j - D.q h m s (t - D.beg h m s (D.deeds L L.length) j) * s), .int .i64 0]) ∧ Up w w' := by
  obtain ⟨cs, N, rfl, V, K⟩ := newCal_yes (A.up (((Up.refl w).alloc (.cells #[.int .i64 h, .int .i64 m, .int .i64 s, .int .i64 d, .slice a n c] 24)).alloc (.cells #[.int .i64 0, .int .i64 0, .int .i64 0, .int .i64 0] 34))) hv
  have HK := Lib.hid K
  have hs := Lib.hid V.cal.size
  have ho : Ok15 cs := ⟨V.cal.size, V.one⟩
  clear hv K
  have KD := fun w => hasReading_any V.cal t w V.h1 V.h2 V.m1 V.m2 V.s1 V.s2 V.d2
  have mono := D.beg_mono h m s (D.deeds L L.length) V.h1 V.h2 V.m1 V.m2 V.s1 V.s2 (j + 1) N (by omega)
  rw [inB_yes t0 (by omega)] at KD
  have HD := Lib.hid KD
  have HR := Lib.hid (fun w => reading_any V.cal V.hx t j w V.h1 V.h2 V.m1 V.m2 V.s1 V.s2 V.d2 (by omega) t0 t1 t2 _ _ (Lib.hid rfl) (Lib.hid rfl))
  obtain ⟨X, hX⟩ : ∃ X, X = D.beg h m s (D.deeds L L.length) j := ⟨_, rfl⟩
  change Hid (∀ w, Calls _ _ _ w fun e w' => e = .returned (rd j (D.q h m s (t - D.beg h m s (D.deeds L L.length) j) / m) (D.q h m s (t - D.beg h m s (D.deeds L L.length) j) % m) (t - D.beg h m s (D.deeds L L.length) j - D.q h m s (t - D.beg h m s (D.deeds L L.length) j) * s)) ∧ Up w w') at HR
  generalize D.q h m s (t - D.beg h m s (D.deeds L L.length) j) / m = Q1 at *
  generalize D.q h m s (t - D.beg h m s (D.deeds L L.length) j) % m = Q2 at *
  generalize t - D.beg h m s (D.deeds L L.length) j - D.q h m s (t - D.beg h m s (D.deeds L L.length) j) * s = Q3 at *
  clear KD mono t1 t2 hX
  go_enter Try.func7, Try.ntmps7
  go_wp2_with fail
  refine HK.out.mono ?_
  rintro e w1 ⟨rfl, u1⟩
  have y2 := u1.blk (b := w.heap.size + 1) (o := (.cells #[.int .i64 0, .int .i64 0, .int .i64 0, .int .i64 0] 34)) (by rw [blk_new _ _ _ (by simp)])
  go_wp2_with fail
  refine (HD.out _).mono ?_
  rintro e w2 ⟨rfl, u2⟩
  have y3 := u2.blk (blk_keep _ y2)
  have k3 := u2.blk (blk_new _ _ _ rfl)
  clear y2
  go_wp2_with fail
  refine (HR.out _).mono ?_
  rintro e w3 ⟨rfl, u3⟩
  have y4 := u3.blk y3
  have l4 := blk_lt y4
  have f4 := frozB y4
  clear y3 k3
  go_wp2
  have y5 := set4_same y4 (.int .i64 j) (.int .i64 Q1) (.int .i64 Q2) (.int .i64 Q3)
  have f3 := cellB y5
  refine bodyPost_ret (v := .tuple #[rd j Q1 Q2 Q3, .int .i64 0]) (by simp [results, Try.results7, go_sem, f3]) rfl ⟨rfl, (((((((Up.refl _).alloc _).alloc _).trans u1).alloc _).trans u2).trans u3).set4 (by omega) _ _ _ _⟩

end Go.Proofs.Ytghelfbigbdkkaa

/- The contracts of dial's Tick and Apart. -/
namespace Go.Proofs.Ytghelfbigbdkkaa
open Go.RowKit

set_option maxRecDepth 100000 in
theorem Tick_no {h m s d : Int} {a : Option Addr} {n c : Nat} {L : List (Int × Bool)} {w : World} (A : CalArg w a n c L) (p0 p1 p2 p3 : Int) (hv : D.valid h m s d L = false) :
    Calls Try.prog 8 #[.agg #[.int .i64 h, .int .i64 m, .int .i64 s, .int .i64 d, .slice a n c], rd p0 p1 p2 p3] w fun e w' => e = .returned (.tuple #[.int .i64 0, .int .i64 10]) ∧ Up w w' := by
  have K := Lib.hid (newCal_no (A.up (((Up.refl w).alloc (.cells #[.int .i64 h, .int .i64 m, .int .i64 s, .int .i64 d, .slice a n c] 24)).alloc (.cells #[.int .i64 p0, .int .i64 p1, .int .i64 p2, .int .i64 p3] 34))) hv)
  obtain ⟨N, hN⟩ : ∃ N, N = D.calN := ⟨_, rfl⟩
  rw [← hN] at K
  have hs : Hid (N.size = 15) := by rw [hN]; exact calN_size
  have ho : Ok15 N := by rw [hN]; exact calN_ok
  clear hN hv
  go_enter Try.func8, Try.ntmps8
  go_wp2_with fail
  refine K.out.mono ?_
  rintro e w1 ⟨rfl, u1⟩
  go_wp2
  go_ret2
  exact ⟨rfl, ((((Up.refl _).alloc _).alloc _).trans u1).alloc _⟩

set_option maxRecDepth 100000 in
theorem Tick_none {h m s d : Int} {a : Option Addr} {n c : Nat} {L : List (Int × Bool)} {w : World} (A : CalArg w a n c L) (p0 p1 p2 p3 : Int) (hv : D.valid h m s d L = true) (hr : D.isRd h m s d (D.deeds L L.length) p0 p1 p2 p3 = false) :
    Calls Try.prog 8 #[.agg #[.int .i64 h, .int .i64 m, .int .i64 s, .int .i64 d, .slice a n c], rd p0 p1 p2 p3] w fun e w' => e = .returned (.tuple #[.int .i64 0, .int .i64 4]) ∧ Up w w' := by
  obtain ⟨cs, N, rfl, V, K⟩ := newCal_yes (A.up (((Up.refl w).alloc (.cells #[.int .i64 h, .int .i64 m, .int .i64 s, .int .i64 d, .slice a n c] 24)).alloc (.cells #[.int .i64 p0, .int .i64 p1, .int .i64 p2, .int .i64 p3] 34))) hv
  have HK := Lib.hid K
  have hs := Lib.hid V.cal.size
  have ho : Ok15 cs := ⟨V.cal.size, V.one⟩
  clear hv K
  have HD := Lib.hid (fun w => tick_no V.cal p0 p1 p2 p3 w V.h1 V.h2 V.m1 V.m2 V.s1 V.s2 (by have := V.d1; omega) (by have := V.d2; omega) hr)
  clear hr
  go_enter Try.func8, Try.ntmps8
  go_wp2_with fail
  refine HK.out.mono ?_
  rintro e w1 ⟨rfl, u1⟩
  have y2 := u1.blk (b := w.heap.size + 1) (o := (.cells #[.int .i64 p0, .int .i64 p1, .int .i64 p2, .int .i64 p3] 34)) (by rw [blk_new _ _ _ (by simp)])
  go_wp2_with fail
  refine (HD.out _).mono ?_
  rintro e w2 ⟨rfl, u2⟩
  go_wp2
  go_ret2
  exact ⟨rfl, (((((Up.refl _).alloc _).alloc _).trans u1).alloc _).trans u2⟩

/-- the tick of a reading -/
def D.tk (h m s : Int) (x : Nat → Int) (a b c q : Int) : Int := D.beg h m s x a.toNat + (b * m + c) * s + q
theorem D.isRd_bd {h m s d : Int} {x : Nat → Int} {a b c q : Int} (h1 : 1 ≤ h) (h2 : h ≤ 24) (m1 : 1 ≤ m) (m2 : m ≤ 60) (s1 : 2 ≤ s) (s2 : s ≤ 60) (hr : D.isRd h m s d x a b c q = true) :
    0 ≤ a ∧ a < d ∧ 0 ≤ b ∧ b < h ∧ 0 ≤ c ∧ c < m ∧ 0 ≤ q ∧ q ≤ 60 ∧ q < D.mlen h m s x a b c := by
  simp only [D.isRd, Bool.and_eq_true, inB_iff, D.divd, beq_iff_eq] at hr
  obtain ⟨⟨a1, a2⟩, ⟨_, hb, hc⟩, q1, q2⟩ := hr
  obtain ⟨e1, e2⟩ := D.mlen_bd h m s x a b c s1 s2
  obtain ⟨f1, f2⟩ := D.mul_bd h m h1 h2 m1 m2
  have g1 := Int.emod_nonneg (D.cnt h m a b c) (b := h * m) (by omega)
  have g2 := Int.emod_lt_of_pos (D.cnt h m a b c) (b := h * m) (by omega)
  have g3 := Int.emod_nonneg (D.cnt h m a b c % (h * m)) (b := m) (by omega)
  have g4 := Int.emod_lt_of_pos (D.cnt h m a b c % (h * m)) (b := m) (by omega)
  have g5 := Int.ediv_nonneg g1 (by omega : 0 ≤ m)
  have g6 : D.cnt h m a b c % (h * m) / m < h := Int.ediv_lt_of_lt_mul (by omega) g2
  omega

set_option maxRecDepth 100000 in
theorem Tick_yes {h m s d : Int} {a : Option Addr} {n c : Nat} {L : List (Int × Bool)} {w : World} (A : CalArg w a n c L) (p0 p1 p2 p3 : Int) (hv : D.valid h m s d L = true) (hr : D.isRd h m s d (D.deeds L L.length) p0 p1 p2 p3 = true) :
    Calls Try.prog 8 #[.agg #[.int .i64 h, .int .i64 m, .int .i64 s, .int .i64 d, .slice a n c], rd p0 p1 p2 p3] w fun e w' => e = .returned (.tuple #[.int .i64 (D.tk h m s (D.deeds L L.length) p0 p1 p2 p3), .int .i64 0]) ∧ Up w w' := by
  obtain ⟨cs, N, rfl, V, K⟩ := newCal_yes (A.up (((Up.refl w).alloc (.cells #[.int .i64 h, .int .i64 m, .int .i64 s, .int .i64 d, .slice a n c] 24)).alloc (.cells #[.int .i64 p0, .int .i64 p1, .int .i64 p2, .int .i64 p3] 34))) hv
  have HK := Lib.hid K
  have hs := Lib.hid V.cal.size
  have ho : Ok15 cs := ⟨V.cal.size, V.one⟩
  clear hv K
  obtain ⟨b1, b2, b3, b4, b5, b6, b7, b8, _⟩ := D.isRd_bd V.h1 V.h2 V.m1 V.m2 V.s1 V.s2 hr
  obtain ⟨k, rfl⟩ := Int.eq_ofNat_of_zero_le b1
  have HD := Lib.hid (fun w => tick_yes (w := w) V.cal p1 p2 p3 V.h1 V.h2 V.m1 V.m2 V.s1 V.s2 V.d1 V.d2 (by omega) b3 (by have := V.h2; omega) b5 (by have := V.m2; omega) b7 (by omega) hr)
  have HT := Lib.hid (show D.tk h m s (D.deeds L L.length) k p1 p2 p3 = D.beg h m s (D.deeds L L.length) k + (p1 * m + p2) * s + p3 from rfl)
  generalize D.beg h m s (D.deeds L L.length) k + (p1 * m + p2) * s + p3 = T at *
  clear hr b1 b2 b3 b4 b5 b6 b7 b8
  go_enter Try.func8, Try.ntmps8
  go_wp2_with fail
  refine HK.out.mono ?_
  rintro e w1 ⟨rfl, u1⟩
  have y2 := u1.blk (b := w.heap.size + 1) (o := (.cells #[.int .i64 k, .int .i64 p1, .int .i64 p2, .int .i64 p3] 34)) (by rw [blk_new _ _ _ (by simp)])
  go_wp2_with fail
  refine (HD.out _).mono ?_
  rintro e w2 ⟨rfl, u2⟩
  go_wp2
  go_ret2
  exact ⟨by rw [HT.out]; rfl, (((((Up.refl _).alloc _).alloc _).trans u1).alloc _).trans u2⟩

/-- what Tick returns -/
def D.tickV (h m s d : Int) (L : List (Int × Bool)) (a b c q : Int) : Int × Int :=
  if D.valid h m s d L = true then (if D.isRd h m s d (D.deeds L L.length) a b c q = true then (D.tk h m s (D.deeds L L.length) a b c q, 0) else (0, 4)) else (0, 10)
theorem Tick_any {h m s d : Int} {a : Option Addr} {n c : Nat} {L : List (Int × Bool)} {w : World} (A : CalArg w a n c L) (p0 p1 p2 p3 : Int) :
    Calls Try.prog 8 #[.agg #[.int .i64 h, .int .i64 m, .int .i64 s, .int .i64 d, .slice a n c], rd p0 p1 p2 p3] w fun e w' => e = .returned (.tuple #[.int .i64 (D.tickV h m s d L p0 p1 p2 p3).1, .int .i64 (D.tickV h m s d L p0 p1 p2 p3).2]) ∧ Up w w' := by
  cases hv : D.valid h m s d L
  · have e : D.tickV h m s d L p0 p1 p2 p3 = (0, 10) := by simp [D.tickV, hv]
    rw [e]; exact Tick_no A p0 p1 p2 p3 hv
  · cases hr : D.isRd h m s d (D.deeds L L.length) p0 p1 p2 p3
    · have e : D.tickV h m s d L p0 p1 p2 p3 = (0, 4) := by simp [D.tickV, hv, hr]
      rw [e]; exact Tick_none A p0 p1 p2 p3 hv hr
    · have e : D.tickV h m s d L p0 p1 p2 p3 = (D.tk h m s (D.deeds L L.length) p0 p1 p2 p3, 0) := by simp [D.tickV, hv, hr]
      rw [e]; exact Tick_yes A p0 p1 p2 p3 hv hr

end Go.Proofs.Ytghelfbigbdkkaa

/- The contract of dial's Apart. -/
namespace Go.Proofs.Ytghelfbigbdkkaa
open Go.RowKit

theorem D.tickV_bd {h m s d : Int} {L : List (Int × Bool)} (a b c q : Int) : -1000000 ≤ (D.tickV h m s d L a b c q).1 ∧ (D.tickV h m s d L a b c q).1 ≤ 1000000 := by
  unfold D.tickV
  split
  · rename_i hv
    split
    · rename_i hr
      simp only [D.valid, D.sizes, Bool.and_eq_true, inB_iff] at hv
      obtain ⟨⟨⟨⟨⟨h1, h2⟩, m1, m2⟩, s1, s2⟩, d1, d2⟩, _⟩ := hv
      obtain ⟨b1, b2, b3, b4, b5, b6, b7, b8, _⟩ := D.isRd_bd h1 h2 m1 m2 s1 s2 hr
      obtain ⟨g1, g2⟩ := D.beg_bd h m s (D.deeds L L.length) h1 h2 m1 m2 s1 s2 a.toNat
      have g3 : 0 ≤ b * m ∧ b * m ≤ 1440 := by
        have := Int.mul_nonneg b3 (by omega : 0 ≤ m)
        have := Int.mul_le_mul (by omega : b ≤ 24) m2 (by omega) (by omega)
        omega
      have g4 : 0 ≤ (b * m + c) * s ∧ (b * m + c) * s ≤ 90000 := by
        have := Int.mul_nonneg (by omega : 0 ≤ b * m + c) (by omega : 0 ≤ s)
        have := Int.mul_le_mul (by omega : b * m + c ≤ 1500) s2 (by omega) (by omega)
        omega
      simp only [D.tk]
      omega
    · simp
  · simp

/-- what Apart returns -/
def D.apartV (u v : Int × Int) : Int × Int := if u.2 = 0 then (if v.2 = 0 then (v.1 - u.1, 0) else (0, v.2)) else (0, u.2)

set_option maxRecDepth 100000 in
theorem Apart_any {h m s d : Int} {a : Option Addr} {n c : Nat} {L : List (Int × Bool)} {w : World} (A : CalArg w a n c L) (p0 p1 p2 p3 q0 q1 q2 q3 : Int) :
    Calls Try.prog 10 #[.agg #[.int .i64 h, .int .i64 m, .int .i64 s, .int .i64 d, .slice a n c], rd p0 p1 p2 p3, rd q0 q1 q2 q3] w fun e w' => e = .returned (.tuple #[.int .i64 (D.apartV (D.tickV h m s d L p0 p1 p2 p3) (D.tickV h m s d L q0 q1 q2 q3)).1, .int .i64 (D.apartV (D.tickV h m s d L p0 p1 p2 p3) (D.tickV h m s d L q0 q1 q2 q3)).2]) ∧ Up w w' := by
  have K1 : ∀ w', Up w w' → Calls Try.prog 8 #[.agg #[.int .i64 h, .int .i64 m, .int .i64 s, .int .i64 d, .slice a n c], rd p0 p1 p2 p3] w' fun e w'' => e = .returned (.tuple #[.int .i64 (D.tickV h m s d L p0 p1 p2 p3).1, .int .i64 (D.tickV h m s d L p0 p1 p2 p3).2]) ∧ Up w' w'' := fun w' u => Tick_any (A.up u) p0 p1 p2 p3
  have K2 : ∀ w', Up w w' → Calls Try.prog 8 #[.agg #[.int .i64 h, .int .i64 m, .int .i64 s, .int .i64 d, .slice a n c], rd q0 q1 q2 q3] w' fun e w'' => e = .returned (.tuple #[.int .i64 (D.tickV h m s d L q0 q1 q2 q3).1, .int .i64 (D.tickV h m s d L q0 q1 q2 q3).2]) ∧ Up w' w'' := fun w' u => Tick_any (A.up u) q0 q1 q2 q3
  obtain ⟨b1, b2⟩ := D.tickV_bd (h := h) (m := m) (s := s) (d := d) (L := L) p0 p1 p2 p3
  obtain ⟨b3, b4⟩ := D.tickV_bd (h := h) (m := m) (s := s) (d := d) (L := L) q0 q1 q2 q3
  generalize D.tickV h m s d L p0 p1 p2 p3 = U at *
  generalize D.tickV h m s d L q0 q1 q2 q3 = V at *
  obtain ⟨T1, E1⟩ := U
  obtain ⟨T2, E2⟩ := V
  simp only at K1 K2 b1 b2 b3 b4
  have H1 := Lib.hid K1
  have H2 := Lib.hid K2
  clear K1 K2
  by_cases z1 : E1 = 0
  · subst z1
    by_cases z2 : E2 = 0
    · subst z2
      have F : D.apartV (T1, 0) (T2, 0) = (T2 - T1, 0) := by simp [D.apartV]
      rw [F]
      clear F
      go_enter Try.func10, Try.ntmps10
      go_wp2_with fail
      refine (H1.out _ (((Up.refl _).alloc _).alloc _ |>.alloc _)).mono ?_
      rintro e w1 ⟨rfl, u1⟩
      have U1 := (((Up.refl w).alloc _).alloc _ |>.alloc _).trans u1
      have y1 := u1.blk (b := w.heap.size) (o := (.cells #[.int .i64 h, .int .i64 m, .int .i64 s, .int .i64 d, .slice a n c] 24)) (by rw [blk_past _ _ _ (by simp; omega), blk_past _ _ _ (by simp), blk_new _ _ _ rfl])
      have y3 := u1.blk (b := w.heap.size + 1 + 1) (o := (.cells #[.int .i64 q0, .int .i64 q1, .int .i64 q2, .int .i64 q3] 34)) (by rw [blk_new _ _ _ (by simp)])
      have f1 := cellB y1
      have f3 := cellB y3
      go_wp2_with fail
      refine (H2.out _ U1).mono ?_
      rintro e w2 ⟨rfl, u2⟩
      go_wp2
      go_ret2
      exact ⟨rfl, U1.trans u2⟩
    · have F : D.apartV (T1, 0) (T2, E2) = (0, E2) := by simp [D.apartV, z2]
      have n2 : (E2 != 0) = true := by simp [z2]
      rw [F]
      clear F z2
      go_enter Try.func10, Try.ntmps10
      go_wp2_with fail
      refine (H1.out _ (((Up.refl _).alloc _).alloc _ |>.alloc _)).mono ?_
      rintro e w1 ⟨rfl, u1⟩
      have U1 := (((Up.refl w).alloc _).alloc _ |>.alloc _).trans u1
      have y1 := u1.blk (b := w.heap.size) (o := (.cells #[.int .i64 h, .int .i64 m, .int .i64 s, .int .i64 d, .slice a n c] 24)) (by rw [blk_past _ _ _ (by simp; omega), blk_past _ _ _ (by simp), blk_new _ _ _ rfl])
      have y3 := u1.blk (b := w.heap.size + 1 + 1) (o := (.cells #[.int .i64 q0, .int .i64 q1, .int .i64 q2, .int .i64 q3] 34)) (by rw [blk_new _ _ _ (by simp)])
      have f1 := cellB y1
      have f3 := cellB y3
      go_wp2_with fail
      refine (H2.out _ U1).mono ?_
      rintro e w2 ⟨rfl, u2⟩
      go_wp2
      go_ret2
      exact ⟨rfl, U1.trans u2⟩
  · have F : D.apartV (T1, E1) (T2, E2) = (0, E1) := by simp [D.apartV, z1]
    have n1 : (E1 != 0) = true := by simp [z1]
    rw [F]
    clear F z1
    go_enter Try.func10, Try.ntmps10
    go_wp2_with fail
    refine (H1.out _ (((Up.refl _).alloc _).alloc _ |>.alloc _)).mono ?_
    rintro e w1 ⟨rfl, u1⟩
    go_wp2
    go_ret2
    exact ⟨rfl, (((Up.refl w).alloc _).alloc _ |>.alloc _).trans u1⟩

end Go.Proofs.Ytghelfbigbdkkaa
