import Derived.Test.YtnaibklajocejaaRowA
/- The walk of the law DialApart. -/
namespace Go.Proofs.Ytnaibklajocejaa
open Go.RowKit

theorem D.tk_bd {h m s : Int} {x : Nat → Int} {n : Nat} {a b c q : Int} (h1 : 1 ≤ h) (h2 : h ≤ 24) (m1 : 1 ≤ m) (m2 : m ≤ 60) (s1 : 2 ≤ s) (s2 : s ≤ 60) (n2 : n ≤ 10) (hr : D.isRd h m s n x a b c q = true) : 0 ≤ D.tk h m s x a b c q ∧ D.tk h m s x a b c q ≤ 1000000 := by
  obtain ⟨a0, a1, b1, b2, c1, c2, q1, q2, _⟩ := D.isRd_bd h1 h2 m1 m2 s1 s2 hr
  have t := D.beg_bd h m s x h1 h2 m1 m2 s1 s2 a.toNat
  have p1 : 0 ≤ b * m ∧ b * m ≤ 1440 := by
    have := Int.mul_nonneg b1 (by omega : 0 ≤ m)
    have := Int.mul_le_mul (show b ≤ 24 by omega) m2 (by omega) (by omega)
    omega
  have p2 : 0 ≤ (b * m + c) * s ∧ (b * m + c) * s ≤ 90000 := by
    have := Int.mul_nonneg (show 0 ≤ b * m + c by omega) (by omega : 0 ≤ s)
    have := Int.mul_le_mul (show b * m + c ≤ 1500 by omega) s2 (by omega) (by omega)
    omega
  unfold D.tk
  omega
theorem D.valid_bd {h m s d : Int} {L : List (Int × Bool)} (hv : D.valid h m s d L = true) : 1 ≤ h ∧ h ≤ 24 ∧ 1 ≤ m ∧ m ≤ 60 ∧ 2 ≤ s ∧ s ≤ 60 ∧ 1 ≤ d ∧ d ≤ 10 := by
  simp only [D.valid, D.sizes, Bool.and_eq_true, inB_iff] at hv
  omega
theorem D.tickV_is (h m s d : Int) (L : List (Int × Bool)) : ∃ E : Int, 4 ≤ E ∧ E ≤ 10 ∧ ∀ a b c q, ((D.tickV h m s d L a b c q).2 = 0 ∧ 0 ≤ (D.tickV h m s d L a b c q).1 ∧ (D.tickV h m s d L a b c q).1 ≤ 1000000) ∨ ((D.tickV h m s d L a b c q).1 = 0 ∧ (D.tickV h m s d L a b c q).2 = E) := by
  by_cases hv : D.valid h m s d L = true
  · refine ⟨4, by omega, by omega, fun a b c q => ?_⟩
    obtain ⟨h1, h2, m1, m2, s1, s2, d1, d2⟩ := D.valid_bd hv
    unfold D.tickV
    rw [if_pos hv]
    by_cases hr : D.isRd h m s d (D.deeds L L.length) a b c q = true
    · rw [if_pos hr]
      obtain ⟨n, rfl⟩ : ∃ n : Nat, d = n := ⟨d.toNat, by omega⟩
      exact .inl ⟨rfl, D.tk_bd h1 h2 m1 m2 s1 s2 (by omega) hr⟩
    · rw [if_neg hr]
      exact .inr ⟨rfl, rfl⟩
  · refine ⟨10, by omega, by omega, fun a b c q => .inr ?_⟩
    unfold D.tickV
    rw [if_neg hv]
    exact ⟨rfl, rfl⟩

set_option maxRecDepth 100000 in
set_option maxHeartbeats 4000000 in
theorem dialApart_core {h m s d : Int} {a : Option Addr} {n c : Nat} {w : World} (p0 p1 p2 p3 q0 q1 q2 q3 r0 r1 r2 r3 : Int) (a1 e1 a2 e2 a3 e3 a4 e4 a5 e5 a6 e6 : Int)
    (K1 : ∀ w', Up w w' → Calls Try.prog 26 #[.agg #[.int .i64 h, .int .i64 m, .int .i64 s, .int .i64 d, .slice a n c], rd p0 p1 p2 p3, rd q0 q1 q2 q3] w' fun e w'' => e = .returned (.tuple #[.int .i64 a1, .int .i64 e1]) ∧ Up w' w'')
    (K2 : ∀ w', Up w w' → Calls Try.prog 26 #[.agg #[.int .i64 h, .int .i64 m, .int .i64 s, .int .i64 d, .slice a n c], rd q0 q1 q2 q3, rd r0 r1 r2 r3] w' fun e w'' => e = .returned (.tuple #[.int .i64 a2, .int .i64 e2]) ∧ Up w' w'')
    (K3 : ∀ w', Up w w' → Calls Try.prog 26 #[.agg #[.int .i64 h, .int .i64 m, .int .i64 s, .int .i64 d, .slice a n c], rd p0 p1 p2 p3, rd r0 r1 r2 r3] w' fun e w'' => e = .returned (.tuple #[.int .i64 a3, .int .i64 e3]) ∧ Up w' w'')
    (K4 : ∀ w', Up w w' → Calls Try.prog 26 #[.agg #[.int .i64 h, .int .i64 m, .int .i64 s, .int .i64 d, .slice a n c], rd q0 q1 q2 q3, rd p0 p1 p2 p3] w' fun e w'' => e = .returned (.tuple #[.int .i64 a4, .int .i64 e4]) ∧ Up w' w'')
    (K5 : ∀ w', Up w w' → Calls Try.prog 23 #[.agg #[.int .i64 h, .int .i64 m, .int .i64 s, .int .i64 d, .slice a n c], rd p0 p1 p2 p3] w' fun e w'' => e = .returned (.tuple #[.int .i64 a5, .int .i64 e5]) ∧ Up w' w'')
    (K6 : ∀ w', Up w w' → Calls Try.prog 23 #[.agg #[.int .i64 h, .int .i64 m, .int .i64 s, .int .i64 d, .slice a n c], rd q0 q1 q2 q3] w' fun e w'' => e = .returned (.tuple #[.int .i64 a6, .int .i64 e6]) ∧ Up w' w'')
    (hh : ((e1 == 0) = true ∧ (e1 != 0) = false ∧ (e1 != e4) = false ∧ (e5 == 0) = true ∧ (e6 == 0) = true ∧ wrap64 (a6 - a5) = a1 ∧ wrap64 (-a1) = a4 ∧
        ((e2 != 0) = true ∨ ((e2 != 0) = false ∧ (e3 == 0) = true ∧ wrap64 (a1 + a2) = a3))) ∨
      ((e1 == 0) = false ∧ (e1 != 0) = true ∧ (e1 != e4) = false ∧ ((e5 == 0) = false ∨ ((e5 == 0) = true ∧ (e6 == 0) = false)) ∧ (a1 == 0) = true ∧ (a4 == 0) = true)) :
    Calls Try.prog 10 #[.agg #[.int .i64 h, .int .i64 m, .int .i64 s, .int .i64 d, .slice a n c], .agg #[.int .i64 p0, .int .i64 p1, .int .i64 p2, .int .i64 p3, .int .i64 q0, .int .i64 q1, .int .i64 q2, .int .i64 q3, .int .i64 r0, .int .i64 r1, .int .i64 r2, .int .i64 r3]] w fun e w' => e = .returned (.bool true) ∧ Up w w' := by
  have H1 := Lib.hid K1
  have H2 := Lib.hid K2
  have H3 := Lib.hid K3
  have H4 := Lib.hid K4
  have H5 := Lib.hid K5
  have H6 := Lib.hid K6
  have HH := Lib.hid hh
  clear K1 K2 K3 K4 K5 K6 hh
  go_enter Try.func10, Try.ntmps10
  go_wp2_with fail
  obtain ⟨W0, hW0⟩ : ∃ W0, (w.alloc (.cells #[.int .i64 h, .int .i64 m, .int .i64 s, .int .i64 d, .slice a n c] 24)).alloc (.cells #[.int .i64 p0, .int .i64 p1, .int .i64 p2, .int .i64 p3, .int .i64 q0, .int .i64 q1, .int .i64 q2, .int .i64 q3, .int .i64 r0, .int .i64 r1, .int .i64 r2, .int .i64 r3] 67) = W0 := ⟨_, rfl⟩
  have U0 : Up w W0 := by rw [← hW0]; exact ((Up.refl w).alloc _).alloc _
  have kc0 : mblk W0 w.heap.size = some (.cells #[.int .i64 h, .int .i64 m, .int .i64 s, .int .i64 d, .slice a n c] 24) := by rw [← hW0]; exact blk_keep _ (blk_new _ _ _ rfl)
  have kr0 : mblk W0 (w.heap.size + 1) = some (.cells #[.int .i64 p0, .int .i64 p1, .int .i64 p2, .int .i64 p3, .int .i64 q0, .int .i64 q1, .int .i64 q2, .int .i64 q3, .int .i64 r0, .int .i64 r1, .int .i64 r2, .int .i64 r3] 67) := by rw [← hW0]; exact blk_new _ _ _ (by simp)
  rw [hW0]
  clear hW0
  refine (H1.out _ U0).mono ?_
  rintro e w1 ⟨rfl, u1⟩
  have U1 := U0.trans u1
  have kc1 := u1.blk kc0
  have kr1 := u1.blk kr0
  clear u1 U0 kc0 kr0 H1
  have cc := cellB kc1
  have cr := cellB kr1
  go_wp2_with fail
  refine (H2.out _ U1).mono ?_
  rintro e w2 ⟨rfl, u2⟩
  have U2 := U1.trans u2
  have kc2 := u2.blk kc1
  have kr2 := u2.blk kr1
  clear u2 U1 kc1 kr1 H2 cc cr
  have cc := cellB kc2
  have cr := cellB kr2
  go_wp2_with fail
  refine (H3.out _ U2).mono ?_
  rintro e w3 ⟨rfl, u3⟩
  have U3 := U2.trans u3
  have kc3 := u3.blk kc2
  have kr3 := u3.blk kr2
  clear u3 U2 kc2 kr2 H3 cc cr
  have cc := cellB kc3
  have cr := cellB kr3
  go_wp2_with fail
  refine (H4.out _ U3).mono ?_
  rintro e w4 ⟨rfl, u4⟩
  have U4 := U3.trans u4
  have kc4 := u4.blk kc3
  have kr4 := u4.blk kr3
  clear u4 U3 kc3 kr3 H4 cc cr
  have cc := cellB kc4
  have cr := cellB kr4
  go_wp2_with fail
  refine (H5.out _ U4).mono ?_
  rintro e w5 ⟨rfl, u5⟩
  have U5 := U4.trans u5
  have kc5 := u5.blk kc4
  have kr5 := u5.blk kr4
  clear u5 U4 kc4 kr4 H5 cc cr
  have cc := cellB kc5
  have cr := cellB kr5
  go_wp2_with fail
  refine (H6.out _ U5).mono ?_
  rintro e w6 ⟨rfl, u6⟩
  have U6 := U5.trans u6
  have kc6 := u6.blk kc5
  have kr6 := u6.blk kr5
  clear u6 U5 kc5 kr5 H6 cc cr
  clear kc6 kr6
  rcases HH.out with ⟨t1, t2, t3, t4, t5, t6, t7, t8⟩ | ⟨t1, t2, t3, t4, t5, t6⟩
  · have t6' := t6
    have t7' := t7
    rw [← iw] at t6' t7'
    rcases t8 with t8 | ⟨t8, t9, t10⟩
    rotate_left
    have t10' := t10
    rw [← iw] at t10'
    rotate_left
    all_goals
      clear HH
      go_wp2_with fail
      refine (l_works_any _).mono ?_
      rintro e w7 ⟨rfl, u7⟩
      go_wp2
      go_ret
      exact ⟨rfl, U6.trans u7⟩
  · rcases t4 with t4 | ⟨t4, t7⟩
    all_goals
      clear HH
      go_wp2_with fail
      refine (l_works_any _).mono ?_
      rintro e w7 ⟨rfl, u7⟩
      go_wp2
      go_ret
      exact ⟨rfl, U6.trans u7⟩

theorem dialApart_any {h m s d : Int} {a : Option Addr} {n c : Nat} {L : List (Int × Bool)} {w : World} (A : CalArg w a n c L) (p0 p1 p2 p3 q0 q1 q2 q3 r0 r1 r2 r3 : Int) :
    Calls Try.prog 10 #[.agg #[.int .i64 h, .int .i64 m, .int .i64 s, .int .i64 d, .slice a n c], .agg #[.int .i64 p0, .int .i64 p1, .int .i64 p2, .int .i64 p3, .int .i64 q0, .int .i64 q1, .int .i64 q2, .int .i64 q3, .int .i64 r0, .int .i64 r1, .int .i64 r2, .int .i64 r3]] w fun e w' => e = .returned (.bool true) ∧ Up w w' := by
  obtain ⟨E, E1, E2, hE⟩ := D.tickV_is h m s d L
  refine dialApart_core p0 p1 p2 p3 q0 q1 q2 q3 r0 r1 r2 r3 _ _ _ _ _ _ _ _ _ _ _ _ (fun w' u => Apart_any (A.up u) _ _ _ _ _ _ _ _) (fun w' u => Apart_any (A.up u) _ _ _ _ _ _ _ _) (fun w' u => Apart_any (A.up u) _ _ _ _ _ _ _ _) (fun w' u => Apart_any (A.up u) _ _ _ _ _ _ _ _) (fun w' u => Tick_any (A.up u) _ _ _ _) (fun w' u => Tick_any (A.up u) _ _ _ _) ?_
  have hu := hE p0 p1 p2 p3
  have hv := hE q0 q1 q2 q3
  have hz := hE r0 r1 r2 r3
  generalize D.tickV h m s d L p0 p1 p2 p3 = u at *
  generalize D.tickV h m s d L q0 q1 q2 q3 = v at *
  generalize D.tickV h m s d L r0 r1 r2 r3 = z at *
  obtain ⟨u1, u2⟩ := u
  obtain ⟨v1, v2⟩ := v
  obtain ⟨z1, z2⟩ := z
  dsimp only at hu hv hz
  rcases hu with ⟨rfl, ua, ub⟩ | ⟨rfl, rfl⟩
  · rcases hv with ⟨rfl, va, vb⟩ | ⟨rfl, rfl⟩
    · left
      have e1 : wrap64 (v1 - u1) = v1 - u1 := by rw [← iw]; exact IntWalk.i64_in _ (by omega)
      have e2 : wrap64 (-(v1 - u1)) = -(v1 - u1) := by rw [← iw]; exact IntWalk.i64_in _ (by omega)
      rcases hz with ⟨rfl, za, zb⟩ | ⟨rfl, rfl⟩
      · have e3 : wrap64 (v1 - u1 + (z1 - v1)) = z1 - u1 := by rw [← iw, IntWalk.i64_in _ (by omega)]; omega
        simp [D.apartV, e1, e2, e3]
        omega
      · have hne : ¬ z2 = 0 := by omega
        simp [D.apartV, e1, e2, hne]
        omega
    · right
      have hne : ¬ v2 = 0 := by omega
      simp [D.apartV, hne]
  · right
    have hne : ¬ u2 = 0 := by omega
    rcases hv with ⟨rfl, va, vb⟩ | ⟨rfl, rfl⟩
    · simp [D.apartV, hne]
    · simp [D.apartV, hne]

end Go.Proofs.Ytnaibklajocejaa
