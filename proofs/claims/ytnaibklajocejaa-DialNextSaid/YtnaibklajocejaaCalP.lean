import Derived.Test.YtnaibklajocejaaCalO
/- The contract of dial's Apart. -/
namespace Go.Proofs.Ytnaibklajocejaa
open Go.RowKit

theorem D.tickV_bd {h m s d : Int} {L : List (Int × Bool)} (a b c q : Int) : -1000000 ≤ (D.tickV h m s d L a b c q).1 ∧ (D.tickV h m s d L a b c q).1 ≤ 1000000 := by
  unfold D.tickV
  split
  · rename_i hv
    split
    · rename_i hr
      simp only [D.valid, D.sizes, Bool.and_eq_true, inB_iff] at hv
      obtain ⟨⟨⟨⟨⟨h1, h2⟩, m1, m2⟩, s1, s2⟩, d1, d2⟩, _⟩ := hv
      obtain ⟨b1, b2, b3, b4, b5, b6, b7, b8, _⟩ := D.isRd_bd h1 h2 m1 m2 s1 s2 hr
      obtain ⟨g1, g2⟩ := D.beg_bd h m s (D.deeds L L.length) h1 h2 m1 m2 s1 s2 a.toNat
      have g3 : 0 ≤ b * m ∧ b * m ≤ 1440 := by
        have := Int.mul_nonneg b3 (by omega : 0 ≤ m)
        have := Int.mul_le_mul (by omega : b ≤ 24) m2 (by omega) (by omega)
        omega
      have g4 : 0 ≤ (b * m + c) * s ∧ (b * m + c) * s ≤ 90000 := by
        have := Int.mul_nonneg (by omega : 0 ≤ b * m + c) (by omega : 0 ≤ s)
        have := Int.mul_le_mul (by omega : b * m + c ≤ 1500) s2 (by omega) (by omega)
        omega
      simp only [D.tk]
      omega
    · simp
  · simp

/-- what Apart returns -/
def D.apartV (u v : Int × Int) : Int × Int := if u.2 = 0 then (if v.2 = 0 then (v.1 - u.1, 0) else (0, v.2)) else (0, u.2)

set_option maxRecDepth 100000 in
theorem Apart_any {h m s d : Int} {a : Option Addr} {n c : Nat} {L : List (Int × Bool)} {w : World} (A : CalArg w a n c L) (p0 p1 p2 p3 q0 q1 q2 q3 : Int) :
    Calls Try.prog 26 #[.agg #[.int .i64 h, .int .i64 m, .int .i64 s, .int .i64 d, .slice a n c], rd p0 p1 p2 p3, rd q0 q1 q2 q3] w fun e w' => e = .returned (.tuple #[.int .i64 (D.apartV (D.tickV h m s d L p0 p1 p2 p3) (D.tickV h m s d L q0 q1 q2 q3)).1, .int .i64 (D.apartV (D.tickV h m s d L p0 p1 p2 p3) (D.tickV h m s d L q0 q1 q2 q3)).2]) ∧ Up w w' := by
  have K1 : ∀ w', Up w w' → Calls Try.prog 23 #[.agg #[.int .i64 h, .int .i64 m, .int .i64 s, .int .i64 d, .slice a n c], rd p0 p1 p2 p3] w' fun e w'' => e = .returned (.tuple #[.int .i64 (D.tickV h m s d L p0 p1 p2 p3).1, .int .i64 (D.tickV h m s d L p0 p1 p2 p3).2]) ∧ Up w' w'' := fun w' u => Tick_any (A.up u) p0 p1 p2 p3
  have K2 : ∀ w', Up w w' → Calls Try.prog 23 #[.agg #[.int .i64 h, .int .i64 m, .int .i64 s, .int .i64 d, .slice a n c], rd q0 q1 q2 q3] w' fun e w'' => e = .returned (.tuple #[.int .i64 (D.tickV h m s d L q0 q1 q2 q3).1, .int .i64 (D.tickV h m s d L q0 q1 q2 q3).2]) ∧ Up w' w'' := fun w' u => Tick_any (A.up u) q0 q1 q2 q3
  obtain ⟨b1, b2⟩ := D.tickV_bd (h := h) (m := m) (s := s) (d := d) (L := L) p0 p1 p2 p3
  obtain ⟨b3, b4⟩ := D.tickV_bd (h := h) (m := m) (s := s) (d := d) (L := L) q0 q1 q2 q3
  generalize D.tickV h m s d L p0 p1 p2 p3 = U at *
  generalize D.tickV h m s d L q0 q1 q2 q3 = V at *
  obtain ⟨T1, E1⟩ := U
  obtain ⟨T2, E2⟩ := V
  simp only at K1 K2 b1 b2 b3 b4
  have H1 := Lib.hid K1
  have H2 := Lib.hid K2
  clear K1 K2
  by_cases z1 : E1 = 0
  · subst z1
    by_cases z2 : E2 = 0
    · subst z2
      have F : D.apartV (T1, 0) (T2, 0) = (T2 - T1, 0) := by simp [D.apartV]
      rw [F]
      clear F
      go_enter Try.func26, Try.ntmps26
      go_wp2_with fail
      refine (H1.out _ (((Up.refl _).alloc _).alloc _ |>.alloc _)).mono ?_
      rintro e w1 ⟨rfl, u1⟩
      have U1 := (((Up.refl w).alloc _).alloc _ |>.alloc _).trans u1
      have y1 := u1.blk (b := w.heap.size) (o := (.cells #[.int .i64 h, .int .i64 m, .int .i64 s, .int .i64 d, .slice a n c] 24)) (by rw [blk_past _ _ _ (by simp; omega), blk_past _ _ _ (by simp), blk_new _ _ _ rfl])
      have y3 := u1.blk (b := w.heap.size + 1 + 1) (o := (.cells #[.int .i64 q0, .int .i64 q1, .int .i64 q2, .int .i64 q3] 27)) (by rw [blk_new _ _ _ (by simp)])
      have f1 := cellB y1
      have f3 := cellB y3
      go_wp2_with fail
      refine (H2.out _ U1).mono ?_
      rintro e w2 ⟨rfl, u2⟩
      go_wp2
      go_ret2
      exact ⟨rfl, U1.trans u2⟩
    · have F : D.apartV (T1, 0) (T2, E2) = (0, E2) := by simp [D.apartV, z2]
      have n2 : (E2 != 0) = true := by simp [z2]
      rw [F]
      clear F z2
      go_enter Try.func26, Try.ntmps26
      go_wp2_with fail
      refine (H1.out _ (((Up.refl _).alloc _).alloc _ |>.alloc _)).mono ?_
      rintro e w1 ⟨rfl, u1⟩
      have U1 := (((Up.refl w).alloc _).alloc _ |>.alloc _).trans u1
      have y1 := u1.blk (b := w.heap.size) (o := (.cells #[.int .i64 h, .int .i64 m, .int .i64 s, .int .i64 d, .slice a n c] 24)) (by rw [blk_past _ _ _ (by simp; omega), blk_past _ _ _ (by simp), blk_new _ _ _ rfl])
      have y3 := u1.blk (b := w.heap.size + 1 + 1) (o := (.cells #[.int .i64 q0, .int .i64 q1, .int .i64 q2, .int .i64 q3] 27)) (by rw [blk_new _ _ _ (by simp)])
      have f1 := cellB y1
      have f3 := cellB y3
      go_wp2_with fail
      refine (H2.out _ U1).mono ?_
      rintro e w2 ⟨rfl, u2⟩
      go_wp2
      go_ret2
      exact ⟨rfl, U1.trans u2⟩
  · have F : D.apartV (T1, E1) (T2, E2) = (0, E1) := by simp [D.apartV, z1]
    have n1 : (E1 != 0) = true := by simp [z1]
    rw [F]
    clear F z1
    go_enter Try.func26, Try.ntmps26
    go_wp2_with fail
    refine (H1.out _ (((Up.refl _).alloc _).alloc _ |>.alloc _)).mono ?_
    rintro e w1 ⟨rfl, u1⟩
    go_wp2
    go_ret2
    exact ⟨rfl, (((Up.refl w).alloc _).alloc _ |>.alloc _).trans u1⟩

end Go.Proofs.Ytnaibklajocejaa
