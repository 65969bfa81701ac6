import Derived.Test.YtnaibklajocejaaCalN
/- The contracts of dial's Tick and Apart. -/
namespace Go.Proofs.Ytnaibklajocejaa
open Go.RowKit

set_option maxRecDepth 100000 in
theorem Tick_no {h m s d : Int} {a : Option Addr} {n c : Nat} {L : List (Int × Bool)} {w : World} (A : CalArg w a n c L) (p0 p1 p2 p3 : Int) (hv : D.valid h m s d L = false) :
    Calls Try.prog 23 #[.agg #[.int .i64 h, .int .i64 m, .int .i64 s, .int .i64 d, .slice a n c], rd p0 p1 p2 p3] w fun e w' => e = .returned (.tuple #[.int .i64 0, .int .i64 10]) ∧ Up w w' := by
  have K := Lib.hid (newCal_no (A.up (((Up.refl w).alloc (.cells #[.int .i64 h, .int .i64 m, .int .i64 s, .int .i64 d, .slice a n c] 24)).alloc (.cells #[.int .i64 p0, .int .i64 p1, .int .i64 p2, .int .i64 p3] 27))) hv)
  obtain ⟨N, hN⟩ : ∃ N, N = D.calN := ⟨_, rfl⟩
  rw [← hN] at K
  have hs : Hid (N.size = 15) := by rw [hN]; exact calN_size
  have ho : Ok15 N := by rw [hN]; exact calN_ok
  clear hN hv
  go_enter Try.func23, Try.ntmps23
  go_wp2_with fail
  refine K.out.mono ?_
  rintro e w1 ⟨rfl, u1⟩
  go_wp2
  go_ret2
  exact ⟨rfl, ((((Up.refl _).alloc _).alloc _).trans u1).alloc _⟩

set_option maxRecDepth 100000 in
theorem Tick_none {h m s d : Int} {a : Option Addr} {n c : Nat} {L : List (Int × Bool)} {w : World} (A : CalArg w a n c L) (p0 p1 p2 p3 : Int) (hv : D.valid h m s d L = true) (hr : D.isRd h m s d (D.deeds L L.length) p0 p1 p2 p3 = false) :
    Calls Try.prog 23 #[.agg #[.int .i64 h, .int .i64 m, .int .i64 s, .int .i64 d, .slice a n c], rd p0 p1 p2 p3] w fun e w' => e = .returned (.tuple #[.int .i64 0, .int .i64 4]) ∧ Up w w' := by
  obtain ⟨cs, N, rfl, V, K⟩ := newCal_yes (A.up (((Up.refl w).alloc (.cells #[.int .i64 h, .int .i64 m, .int .i64 s, .int .i64 d, .slice a n c] 24)).alloc (.cells #[.int .i64 p0, .int .i64 p1, .int .i64 p2, .int .i64 p3] 27))) hv
  have HK := Lib.hid K
  have hs := Lib.hid V.cal.size
  have ho : Ok15 cs := ⟨V.cal.size, V.one⟩
  clear hv K
  have HD := Lib.hid (fun w => tick_no V.cal p0 p1 p2 p3 w V.h1 V.h2 V.m1 V.m2 V.s1 V.s2 (by have := V.d1; omega) (by have := V.d2; omega) hr)
  clear hr
  go_enter Try.func23, Try.ntmps23
  go_wp2_with fail
  refine HK.out.mono ?_
  rintro e w1 ⟨rfl, u1⟩
  have y2 := u1.blk (b := w.heap.size + 1) (o := (.cells #[.int .i64 p0, .int .i64 p1, .int .i64 p2, .int .i64 p3] 27)) (by rw [blk_new _ _ _ (by simp)])
  go_wp2_with fail
  refine (HD.out _).mono ?_
  rintro e w2 ⟨rfl, u2⟩
  go_wp2
  go_ret2
  exact ⟨rfl, (((((Up.refl _).alloc _).alloc _).trans u1).alloc _).trans u2⟩

/-- the tick of a reading -/
def D.tk (h m s : Int) (x : Nat → Int) (a b c q : Int) : Int := D.beg h m s x a.toNat + (b * m + c) * s + q
theorem D.isRd_bd {h m s d : Int} {x : Nat → Int} {a b c q : Int} (h1 : 1 ≤ h) (h2 : h ≤ 24) (m1 : 1 ≤ m) (m2 : m ≤ 60) (s1 : 2 ≤ s) (s2 : s ≤ 60) (hr : D.isRd h m s d x a b c q = true) :
    0 ≤ a ∧ a < d ∧ 0 ≤ b ∧ b < h ∧ 0 ≤ c ∧ c < m ∧ 0 ≤ q ∧ q ≤ 60 ∧ q < D.mlen h m s x a b c := by
  simp only [D.isRd, Bool.and_eq_true, inB_iff, D.divd, beq_iff_eq] at hr
  obtain ⟨⟨a1, a2⟩, ⟨_, hb, hc⟩, q1, q2⟩ := hr
  obtain ⟨e1, e2⟩ := D.mlen_bd h m s x a b c s1 s2
  obtain ⟨f1, f2⟩ := D.mul_bd h m h1 h2 m1 m2
  have g1 := Int.emod_nonneg (D.cnt h m a b c) (b := h * m) (by omega)
  have g2 := Int.emod_lt_of_pos (D.cnt h m a b c) (b := h * m) (by omega)
  have g3 := Int.emod_nonneg (D.cnt h m a b c % (h * m)) (b := m) (by omega)
  have g4 := Int.emod_lt_of_pos (D.cnt h m a b c % (h * m)) (b := m) (by omega)
  have g5 := Int.ediv_nonneg g1 (by omega : 0 ≤ m)
  have g6 : D.cnt h m a b c % (h * m) / m < h := Int.ediv_lt_of_lt_mul (by omega) g2
  omega

set_option maxRecDepth 100000 in
theorem Tick_yes {h m s d : Int} {a : Option Addr} {n c : Nat} {L : List (Int × Bool)} {w : World} (A : CalArg w a n c L) (p0 p1 p2 p3 : Int) (hv : D.valid h m s d L = true) (hr : D.isRd h m s d (D.deeds L L.length) p0 p1 p2 p3 = true) :
    Calls Try.prog 23 #[.agg #[.int .i64 h, .int .i64 m, .int .i64 s, .int .i64 d, .slice a n c], rd p0 p1 p2 p3] w fun e w' => e = .returned (.tuple #[.int .i64 (D.tk h m s (D.deeds L L.length) p0 p1 p2 p3), .int .i64 0]) ∧ Up w w' := by
  obtain ⟨cs, N, rfl, V, K⟩ := newCal_yes (A.up (((Up.refl w).alloc (.cells #[.int .i64 h, .int .i64 m, .int .i64 s, .int .i64 d, .slice a n c] 24)).alloc (.cells #[.int .i64 p0, .int .i64 p1, .int .i64 p2, .int .i64 p3] 27))) hv
  have HK := Lib.hid K
  have hs := Lib.hid V.cal.size
  have ho : Ok15 cs := ⟨V.cal.size, V.one⟩
  clear hv K
  obtain ⟨b1, b2, b3, b4, b5, b6, b7, b8, _⟩ := D.isRd_bd V.h1 V.h2 V.m1 V.m2 V.s1 V.s2 hr
  obtain ⟨k, rfl⟩ := Int.eq_ofNat_of_zero_le b1
  have HD := Lib.hid (fun w => tick_yes (w := w) V.cal p1 p2 p3 V.h1 V.h2 V.m1 V.m2 V.s1 V.s2 V.d1 V.d2 (by omega) b3 (by have := V.h2; omega) b5 (by have := V.m2; omega) b7 (by omega) hr)
  have HT := Lib.hid (show D.tk h m s (D.deeds L L.length) k p1 p2 p3 = D.beg h m s (D.deeds L L.length) k + (p1 * m + p2) * s + p3 from rfl)
  generalize D.beg h m s (D.deeds L L.length) k + (p1 * m + p2) * s + p3 = T at *
  clear hr b1 b2 b3 b4 b5 b6 b7 b8
  go_enter Try.func23, Try.ntmps23
  go_wp2_with fail
  refine HK.out.mono ?_
  rintro e w1 ⟨rfl, u1⟩
  have y2 := u1.blk (b := w.heap.size + 1) (o := (.cells #[.int .i64 k, .int .i64 p1, .int .i64 p2, .int .i64 p3] 27)) (by rw [blk_new _ _ _ (by simp)])
  go_wp2_with fail
  refine (HD.out _).mono ?_
  rintro e w2 ⟨rfl, u2⟩
  go_wp2
  go_ret2
  exact ⟨by rw [HT.out]; rfl, (((((Up.refl _).alloc _).alloc _).trans u1).alloc _).trans u2⟩

/-- what Tick returns -/
def D.tickV (h m s d : Int) (L : List (Int × Bool)) (a b c q : Int) : Int × Int :=
  if D.valid h m s d L = true then (if D.isRd h m s d (D.deeds L L.length) a b c q = true then (D.tk h m s (D.deeds L L.length) a b c q, 0) else (0, 4)) else (0, 10)
theorem Tick_any {h m s d : Int} {a : Option Addr} {n c : Nat} {L : List (Int × Bool)} {w : World} (A : CalArg w a n c L) (p0 p1 p2 p3 : Int) :
    Calls Try.prog 23 #[.agg #[.int .i64 h, .int .i64 m, .int .i64 s, .int .i64 d, .slice a n c], rd p0 p1 p2 p3] w fun e w' => e = .returned (.tuple #[.int .i64 (D.tickV h m s d L p0 p1 p2 p3).1, .int .i64 (D.tickV h m s d L p0 p1 p2 p3).2]) ∧ Up w w' := by
  cases hv : D.valid h m s d L
  · have e : D.tickV h m s d L p0 p1 p2 p3 = (0, 10) := by simp [D.tickV, hv]
    rw [e]; exact Tick_no A p0 p1 p2 p3 hv
  · cases hr : D.isRd h m s d (D.deeds L L.length) p0 p1 p2 p3
    · have e : D.tickV h m s d L p0 p1 p2 p3 = (0, 4) := by simp [D.tickV, hv, hr]
      rw [e]; exact Tick_none A p0 p1 p2 p3 hv hr
    · have e : D.tickV h m s d L p0 p1 p2 p3 = (D.tk h m s (D.deeds L L.length) p0 p1 p2 p3, 0) := by simp [D.tickV, hv, hr]
      rw [e]; exact Tick_yes A p0 p1 p2 p3 hv hr

end Go.Proofs.Ytnaibklajocejaa
