import Derived.Test.YtfmnfingliflkaaRefE
/- The contracts of the reference's Apart and Next. -/
namespace Go.Proofs.Ytfmnfingliflkaa
open Go.RowKit
theorem run_fieldSecond (a b c d : Int) (w : World) : (Instr.field 27 (.agg #[.int .i64 a, .int .i64 b, .int .i64 c, .int .i64 d]) 3).run Try.prog w = .ok (.int .i64 d) w := by kernel_rfl
attribute [local go_sem ↓] run_fieldSecond
attribute [local go_sem] cell_CAL

set_option maxRecDepth 100000 in
theorem r_Apart_any {h m s d : Int} {a : Option Addr} {n c : Nat} {L : List (Int × Bool)} {w : World} (A : CalArg w a n c L) (hn : n ≤ 17592186044000) (p0 p1 p2 p3 q0 q1 q2 q3 : Int) :
    Calls Try.prog 28 #[.agg #[.int .i64 h, .int .i64 m, .int .i64 s, .int .i64 d, .slice a n c], rd p0 p1 p2 p3, rd q0 q1 q2 q3] w fun e w' => e = .returned (.tuple #[.int .i64 (D.apartV (D.tickV h m s d L p0 p1 p2 p3) (D.tickV h m s d L q0 q1 q2 q3)).1, .int .i64 (D.apartV (D.tickV h m s d L p0 p1 p2 p3) (D.tickV h m s d L q0 q1 q2 q3)).2]) ∧ Up w w' := by
  have K1 : ∀ w', Up w w' → Calls Try.prog 25 #[.agg #[.int .i64 h, .int .i64 m, .int .i64 s, .int .i64 d, .slice a n c], rd p0 p1 p2 p3] w' fun e w'' => e = .returned (.tuple #[.int .i64 (D.tickV h m s d L p0 p1 p2 p3).1, .int .i64 (D.tickV h m s d L p0 p1 p2 p3).2]) ∧ Up w' w'' := fun w' u => r_Tick_any (A.up u) hn p0 p1 p2 p3
  have K2 : ∀ w', Up w w' → Calls Try.prog 25 #[.agg #[.int .i64 h, .int .i64 m, .int .i64 s, .int .i64 d, .slice a n c], rd q0 q1 q2 q3] w' fun e w'' => e = .returned (.tuple #[.int .i64 (D.tickV h m s d L q0 q1 q2 q3).1, .int .i64 (D.tickV h m s d L q0 q1 q2 q3).2]) ∧ Up w' w'' := fun w' u => r_Tick_any (A.up u) hn q0 q1 q2 q3
  obtain ⟨b1, b2⟩ := D.tickV_bd (h := h) (m := m) (s := s) (d := d) (L := L) p0 p1 p2 p3
  obtain ⟨b3, b4⟩ := D.tickV_bd (h := h) (m := m) (s := s) (d := d) (L := L) q0 q1 q2 q3
  generalize D.tickV h m s d L p0 p1 p2 p3 = U at *
  generalize D.tickV h m s d L q0 q1 q2 q3 = V at *
  obtain ⟨T1, E1⟩ := U
  obtain ⟨T2, E2⟩ := V
  simp only at K1 K2 b1 b2 b3 b4
  have H1 := Lib.hid K1
  have H2 := Lib.hid K2
  clear K1 K2
  by_cases z1 : E1 = 0
  · subst z1
    by_cases z2 : E2 = 0
    · subst z2
      have F : D.apartV (T1, 0) (T2, 0) = (T2 - T1, 0) := by simp [D.apartV]
      rw [F]
      clear F
      go_enter Try.func28, Try.ntmps28
      go_wp2_with fail
      refine (H1.out _ (((Up.refl _).alloc _).alloc _ |>.alloc _)).mono ?_
      rintro e w1 ⟨rfl, u1⟩
      have U1 := (((Up.refl w).alloc _).alloc _ |>.alloc _).trans u1
      have y1 := u1.blk (b := w.heap.size) (o := (.cells #[.int .i64 h, .int .i64 m, .int .i64 s, .int .i64 d, .slice a n c] 24)) (by rw [blk_past _ _ _ (by simp; omega), blk_past _ _ _ (by simp), blk_new _ _ _ rfl])
      have y3 := u1.blk (b := w.heap.size + 1 + 1) (o := (.cells #[.int .i64 q0, .int .i64 q1, .int .i64 q2, .int .i64 q3] 27)) (by rw [blk_new _ _ _ (by simp)])
      have f1 := cellB y1
      have f3 := cellB y3
      go_wp2_with fail
      refine (H2.out _ U1).mono ?_
      rintro e w2 ⟨rfl, u2⟩
      go_wp2
      go_ret2
      exact ⟨rfl, U1.trans u2⟩
    · have F : D.apartV (T1, 0) (T2, E2) = (0, E2) := by simp [D.apartV, z2]
      have n2 : (E2 != 0) = true := by simp [z2]
      rw [F]
      clear F z2
      go_enter Try.func28, Try.ntmps28
      go_wp2_with fail
      refine (H1.out _ (((Up.refl _).alloc _).alloc _ |>.alloc _)).mono ?_
      rintro e w1 ⟨rfl, u1⟩
      have U1 := (((Up.refl w).alloc _).alloc _ |>.alloc _).trans u1
      have y1 := u1.blk (b := w.heap.size) (o := (.cells #[.int .i64 h, .int .i64 m, .int .i64 s, .int .i64 d, .slice a n c] 24)) (by rw [blk_past _ _ _ (by simp; omega), blk_past _ _ _ (by simp), blk_new _ _ _ rfl])
      have y3 := u1.blk (b := w.heap.size + 1 + 1) (o := (.cells #[.int .i64 q0, .int .i64 q1, .int .i64 q2, .int .i64 q3] 27)) (by rw [blk_new _ _ _ (by simp)])
      have f1 := cellB y1
      have f3 := cellB y3
      go_wp2_with fail
      refine (H2.out _ U1).mono ?_
      rintro e w2 ⟨rfl, u2⟩
      go_wp2
      go_ret2
      exact ⟨rfl, U1.trans u2⟩
  · have F : D.apartV (T1, E1) (T2, E2) = (0, E1) := by simp [D.apartV, z1]
    have n1 : (E1 != 0) = true := by simp [z1]
    rw [F]
    clear F z1
    go_enter Try.func28, Try.ntmps28
    go_wp2_with fail
    refine (H1.out _ (((Up.refl _).alloc _).alloc _ |>.alloc _)).mono ?_
    rintro e w1 ⟨rfl, u1⟩
    go_wp2
    go_ret2
    exact ⟨rfl, (((Up.refl w).alloc _).alloc _ |>.alloc _).trans u1⟩

section
variable {h m s d : Int} {a : Option Addr} {n c : Nat} {L : List (Int × Bool)} {w : World}
set_option maxRecDepth 100000 in
set_option maxHeartbeats 1000000 in
theorem r_Next_no (A : CalArg w a n c L) (hn : n ≤ 17592186044000) (t each : Int) (hv : D.valid h m s d L = false) :
    Calls Try.prog 30 #[.agg #[.int .i64 h, .int .i64 m, .int .i64 s, .int .i64 d, .slice a n c], .int .i64 t, .int .i64 each] w fun e w' => e = .returned (.tuple #[.int .i64 0, .int .i64 10]) ∧ Up w w' := by
  have U0 := (Up.refl w).alloc (.cells #[.int .i64 h, .int .i64 m, .int .i64 s, .int .i64 d, .slice a n c] 24)
  have K := Lib.hid (r_Check_no (h := h) (m := m) (s := s) (d := d) (c := c) (A.up U0) hn hv)
  clear A hv
  go_enter Try.func30, Try.ntmps30
  go_wp2_with fail
  refine K.out.mono ?_
  rintro e w1 ⟨rfl, u1⟩
  go_wp2
  go_ret2
  exact ⟨rfl, U0.trans u1⟩

set_option maxRecDepth 100000 in
set_option maxHeartbeats 1000000 in
theorem r_Next_ask (A : CalArg w a n c L) (hn : n ≤ 17592186044000) (t each : Int) (hv : D.valid h m s d L = true) (hk : inB t 0 (D.beg h m s (D.deeds L L.length) d.toNat - 1) = false ∨ (inB t 0 (D.beg h m s (D.deeds L L.length) d.toNat - 1) = true ∧ inB each 1 60 = false)) :
    Calls Try.prog 30 #[.agg #[.int .i64 h, .int .i64 m, .int .i64 s, .int .i64 d, .slice a n c], .int .i64 t, .int .i64 each] w fun e w' => e = .returned (.tuple #[.int .i64 0, .int .i64 11]) ∧ Up w w' := by
  obtain ⟨h1, h2, m1, m2, s1, s2, d1, d2⟩ := D.valid_bd hv
  obtain ⟨N, rfl⟩ : ∃ N : Nat, d = N := ⟨d.toNat, by omega⟩
  have U0 := (Up.refl w).alloc (.cells #[.int .i64 h, .int .i64 m, .int .i64 s, .int .i64 N, .slice a n c] 24)
  have K := Lib.hid (r_Check_yes (h := h) (m := m) (s := s) (d := N) (c := c) (A.up U0) hn hv)
  have HT := Lib.hid (fun w' (u : Up w w') => r_isTick_any (c := c) (A.up u) hv t)
  have KL := Lib.hid (l_Lies_any each 1 60)
  rw [Int.toNat_natCast] at hk
  have c0 : mblk (w.alloc (.cells #[.int .i64 h, .int .i64 m, .int .i64 s, .int .i64 N, .slice a n c] 24)) w.heap.size = some (.cells #[.int .i64 h, .int .i64 m, .int .i64 s, .int .i64 N, .slice a n c] 24 (0, 0)) := blk_new _ _ _ rfl
  clear A hv
  rcases hk with hk | ⟨hk, he⟩
  · rw [hk] at HT
    clear hk
    go_enter Try.func30, Try.ntmps30
    go_wp2_with fail
    refine K.out.mono ?_
    rintro e w1 ⟨rfl, u1⟩
    have f1 := cellB (u1.blk c0)
    have U1 := U0.trans u1
    go_wp2_with fail
    refine (HT.out _ U1).mono ?_
    rintro e w2 ⟨rfl, u2⟩
    go_wp2
    go_ret2
    exact ⟨rfl, U1.trans u2⟩
  · rw [hk] at HT
    rw [he] at KL
    clear hk he
    go_enter Try.func30, Try.ntmps30
    go_wp2_with fail
    refine K.out.mono ?_
    rintro e w1 ⟨rfl, u1⟩
    have f1 := cellB (u1.blk c0)
    have U1 := U0.trans u1
    go_wp2_with fail
    refine (HT.out _ U1).mono ?_
    rintro e w2 ⟨rfl, u2⟩
    go_wp2_with fail
    refine (KL.out _).mono ?_
    rintro e w3 ⟨rfl, rfl⟩
    go_wp2
    go_ret2
    exact ⟨rfl, U1.trans u2⟩

set_option maxRecDepth 100000 in
set_option maxHeartbeats 2000000 in
theorem r_Next_is (A : CalArg w a n c L) (hn : n ≤ 17592186044000) (t each v : Int) (ok : Bool) (hv : D.valid h m s d L = true) (hk : inB t 0 (D.beg h m s (D.deeds L L.length) d.toNat - 1) = true) (he : inB each 1 60 = true) (hN : NextIs (D.rS h m s (D.deeds L L.length) d.toNat) t (D.beg h m s (D.deeds L L.length) d.toNat) each v ok) :
    Calls Try.prog 30 #[.agg #[.int .i64 h, .int .i64 m, .int .i64 s, .int .i64 d, .slice a n c], .int .i64 t, .int .i64 each] w fun e w' => e = .returned (.tuple #[.int .i64 v, .int .i64 (if ok = true then 0 else 4)]) ∧ Up w w' := by
  obtain ⟨h1, h2, m1, m2, s1, s2, d1, d2⟩ := D.valid_bd hv
  obtain ⟨N, rfl⟩ : ∃ N : Nat, d = N := ⟨d.toNat, by omega⟩
  have U0 := (Up.refl w).alloc (.cells #[.int .i64 h, .int .i64 m, .int .i64 s, .int .i64 N, .slice a n c] 24)
  have K := Lib.hid (r_Check_yes (h := h) (m := m) (s := s) (d := N) (c := c) (A.up U0) hn hv)
  have HT := Lib.hid (fun t w' (u : Up w w') => r_isTick_any (c := c) (A.up u) hv t)
  have KL := Lib.hid (l_Lies_any each 1 60)
  rw [he] at KL
  rw [Int.toNat_natCast] at hk hN
  have tb := D.beg_bd h m s (D.deeds L L.length) h1 h2 m1 m2 s1 s2 N
  have HR := Lib.hid (fun t t0 tT w' (u : Up w w') => r_reading_any (c := c) (A.up u) hv t t0 tT)
  have HT0 := Lib.hid (HT.out t)
  rw [hk] at HT0
  have hk2 := inB_iff.1 hk
  have he2 := inB_iff.1 he
  generalize D.rA h m s (D.deeds L L.length) N = fA at *
  generalize D.rB h m s (D.deeds L L.length) N = fB at *
  generalize D.rC h m s (D.deeds L L.length) N = fC at *
  generalize D.rS h m s (D.deeds L L.length) N = S at *
  generalize D.beg h m s (D.deeds L L.length) N = T at *
  have c0 : mblk (w.alloc (.cells #[.int .i64 h, .int .i64 m, .int .i64 s, .int .i64 N, .slice a n c] 24)) w.heap.size = some (.cells #[.int .i64 h, .int .i64 m, .int .i64 s, .int .i64 N, .slice a n c] 24 (0, 0)) := blk_new _ _ _ rfl
  have each0 : ¬ each = 0 := by omega
  obtain ⟨z, hz, hNone, hend⟩ : ∃ z : Nat, t + z ≤ T ∧ NoneIn S t each (List.range z) ∧ ((t + z < T ∧ (S (t + z)).tmod each = 0 ∧ v = t + z ∧ ok = true) ∨ (t + z = T ∧ v = 0 ∧ ok = false)) := by
    rcases hN with ⟨x, a1, a2, a3, a4, a5⟩ | ⟨a1, a2, a3⟩
    · exact ⟨x, by omega, a2, .inl ⟨a1, a3, a4, a5⟩⟩
    · exact ⟨(T - t).toNat, by omega, a1, .inr ⟨by omega, a2, a3⟩⟩
  have HNo := Lib.hid hNone
  have HE := Lib.hid hend
  clear A hv hN hNone hend hk he
  go_enter Try.func30, Try.ntmps30
  go_wp2_with fail
  refine K.out.mono ?_
  rintro e w1 ⟨rfl, u1⟩
  have c1 := u1.blk c0
  have f1 := cellB c1
  have U1 := U0.trans u1
  go_wp2_with fail
  refine (HT0.out _ U1).mono ?_
  rintro e w2 ⟨rfl, u2⟩
  have U2 := U1.trans u2
  have c2 := u2.blk c1
  clear u1 u2 U0 U1 c0 c1 f1 K HT0
  go_wp2_with fail
  refine (KL.out _).mono ?_
  rintro e w3 ⟨rfl, rfl⟩
  go_wp2_with fail
  go_loopw [9] (fun x wr => ∃ y : Nat, y ≤ z ∧ x = .int .i64 (t + y) ∧ mblk wr w.heap.size = some (.cells #[.int .i64 h, .int .i64 m, .int .i64 s, .int .i64 N, .slice a n c] 24 (0, 0)) ∧ Up w wr) (fun x _ => (t + z - intOf x).toNat)
  case atStart => exact ⟨0, Nat.zero_le _, by simp, c2, U2⟩
  case round =>
    clear c2 U2
    obtain ⟨y, hy, rfl, cy, Uy⟩ := hrel
    have fy := cellB cy
    have HTy := Lib.hid (HT.out (t + y))
    by_cases hT : t + (y : Int) < T
    · rw [inB_yes (by omega) (by omega)] at HTy
      have HRy := Lib.hid (HR.out (t + y) (by omega) hT)
      by_cases hlt : y < z
      · have hno := HNo.out y (List.mem_range.2 hlt)
        generalize S (t + y) = sv at *
        have hb : (sv.tmod each == 0) = false := by simp [hno]
        have ew : IntKind.i64.wrap (t + (y : Int) + 1) = t + ((y + 1 : Nat) : Int) := by rw [IntWalk.i64_in _ (by omega)]; omega
        clear HNo HE HT HR
        go_wp2_with fail
        refine (HTy.out _ Uy).mono ?_
        rintro e w4 ⟨rfl, u4⟩
        have U4 := Uy.trans u4
        have c4 := u4.blk cy
        have f4 := cellB c4
        clear u4 Uy cy fy HTy
        go_wp2_with fail
        refine (HRy.out _ U4).mono ?_
        rintro e w5 ⟨rfl, u5⟩
        have U5 := U4.trans u5
        have c5 := u5.blk c4
        clear u5 U4 c4 f4 HRy
        go_wp2
        go_roundw
        case rel => exact ⟨y + 1, by omega, by simp, c5, U5⟩
        case measure => simp [intOf]; omega
      · obtain rfl : y = z := by omega
        rcases HE.out with ⟨_, hno, rfl, rfl⟩ | ⟨g, _, _⟩
        · generalize S (t + y) = sv at *
          have hb : (sv.tmod each == 0) = true := by simp [hno]
          clear HNo HE HT HR hno
          go_wp2_with fail
          refine (HTy.out _ Uy).mono ?_
          rintro e w4 ⟨rfl, u4⟩
          have U4 := Uy.trans u4
          have c4 := u4.blk cy
          have f4 := cellB c4
          clear u4 Uy cy fy HTy
          go_wp2_with fail
          refine (HRy.out _ U4).mono ?_
          rintro e w5 ⟨rfl, u5⟩
          have U5 := U4.trans u5
          clear u5 U4 c4 f4 HRy
          go_wp2
          go_ret2
          exact ⟨rfl, U5⟩
        · omega
    · rw [inB_no (by omega)] at HTy
      rcases HE.out with ⟨g, _, _, _⟩ | ⟨g, rfl, rfl⟩
      · omega
      · clear HNo HE HT HR
        go_wp2_with fail
        refine (HTy.out _ Uy).mono ?_
        rintro e w4 ⟨rfl, u4⟩
        have U4 := Uy.trans u4
        clear u4 Uy cy fy HTy
        go_wp2
        go_ret2
        exact ⟨rfl, U4⟩

theorem both_Apart (A : CalArg w a n c L) (hn : n ≤ 17592186044000) (p0 p1 p2 p3 q0 q1 q2 q3 : Int) : ∃ v e : Int, (∀ w', Up w w' → Calls Try.prog 27 #[.agg #[.int .i64 h, .int .i64 m, .int .i64 s, .int .i64 d, .slice a n c], rd p0 p1 p2 p3, rd q0 q1 q2 q3] w' fun x w'' => x = .returned (.tuple #[.int .i64 v, .int .i64 e]) ∧ Up w' w'') ∧ ∀ w', Up w w' → Calls Try.prog 28 #[.agg #[.int .i64 h, .int .i64 m, .int .i64 s, .int .i64 d, .slice a n c], rd p0 p1 p2 p3, rd q0 q1 q2 q3] w' fun x w'' => x = .returned (.tuple #[.int .i64 v, .int .i64 e]) ∧ Up w' w'' :=
  ⟨_, _, fun _ u => Apart_any (A.up u) p0 p1 p2 p3 q0 q1 q2 q3, fun _ u => r_Apart_any (A.up u) hn p0 p1 p2 p3 q0 q1 q2 q3⟩
theorem both_Next (A : CalArg w a n c L) (hn : n ≤ 17592186044000) (t each : Int) : ∃ v e : Int, (∀ w', Up w w' → Calls Try.prog 29 #[.agg #[.int .i64 h, .int .i64 m, .int .i64 s, .int .i64 d, .slice a n c], .int .i64 t, .int .i64 each] w' fun x w'' => x = .returned (.tuple #[.int .i64 v, .int .i64 e]) ∧ Up w' w'') ∧ ∀ w', Up w w' → Calls Try.prog 30 #[.agg #[.int .i64 h, .int .i64 m, .int .i64 s, .int .i64 d, .slice a n c], .int .i64 t, .int .i64 each] w' fun x w'' => x = .returned (.tuple #[.int .i64 v, .int .i64 e]) ∧ Up w' w'' := by
  cases hv : D.valid h m s d L
  · exact ⟨0, 10, fun _ u => Next_no (A.up u) t each hv, fun _ u => r_Next_no (A.up u) hn t each hv⟩
  · cases hk : inB t 0 (D.beg h m s (D.deeds L L.length) d.toNat - 1)
    · exact ⟨0, 11, fun _ u => Next_ask1 (A.up u) t each hv hk, fun _ u => r_Next_ask (A.up u) hn t each hv (.inl hk)⟩
    · cases he : inB each 1 60
      · have he2 : ¬ (1 ≤ each ∧ each ≤ 60) := fun q => by rw [inB_yes q.1 q.2] at he; cases he
        exact ⟨0, 11, fun _ u => Next_ask2 (A.up u) t each hv hk he2, fun _ u => r_Next_ask (A.up u) hn t each hv (.inr ⟨hk, he⟩)⟩
      · have he2 := inB_iff.1 he
        have hk2 := inB_iff.1 hk
        obtain ⟨v, ok, hN⟩ := NextIs.ex (D.rS h m s (D.deeds L L.length) d.toNat) t (D.beg h m s (D.deeds L L.length) d.toNat) each (by omega)
        cases ok
        · refine ⟨v, 4, fun _ u => ?_, fun _ u => r_Next_is (A.up u) hn t each v false hv hk he hN⟩
          have v0 : v = 0 := by
            rcases hN with ⟨_, _, _, _, _, q⟩ | ⟨_, q, _⟩
            · cases q
            · exact q
          rw [v0] at hN ⊢
          exact Next_none (A.up u) t each 0 hv hk he2.1 he2.2 hN
        · exact ⟨v, 0, fun _ u => Next_yes (A.up u) t each v hv hk he2.1 he2.2 hN, fun _ u => r_Next_is (A.up u) hn t each v true hv hk he hN⟩
end

end Go.Proofs.Ytfmnfingliflkaa
