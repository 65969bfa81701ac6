import Derived.Test.YtfmnfingliflkaaRefD
/- The contract of the reference's Reading, and what the program and the reference both return. -/
namespace Go.Proofs.Ytfmnfingliflkaa
open Go.RowKit
attribute [local go_sem] cell_CAL
section
variable {h m s d : Int} {a : Option Addr} {n c : Nat} {L : List (Int × Bool)} {w : World}

set_option maxRecDepth 100000 in
set_option maxHeartbeats 1000000 in
theorem r_Reading_no (A : CalArg w a n c L) (hn : n ≤ 17592186044000) (t : Int) (hv : D.valid h m s d L = false) :
    Calls Try.prog 23 #[.agg #[.int .i64 h, .int .i64 m, .int .i64 s, .int .i64 d, .slice a n c], .int .i64 t] w fun e w' => e = .returned (.tuple #[rd 0 0 0 0, .int .i64 10]) ∧ Up w w' := by
  have U0 := ((Up.refl w).alloc (.cells #[.int .i64 h, .int .i64 m, .int .i64 s, .int .i64 d, .slice a n c] 24)).alloc (.cells #[.int .i64 0, .int .i64 0, .int .i64 0, .int .i64 0] 27)
  have K := Lib.hid (r_Check_no (h := h) (m := m) (s := s) (d := d) (c := c) (A.up U0) hn hv)
  have z0 : mblk ((w.alloc (.cells #[.int .i64 h, .int .i64 m, .int .i64 s, .int .i64 d, .slice a n c] 24)).alloc (.cells #[.int .i64 0, .int .i64 0, .int .i64 0, .int .i64 0] 27)) (w.heap.size + 1) = some (.cells #[.int .i64 0, .int .i64 0, .int .i64 0, .int .i64 0] 27 (0, 0)) := blk_new _ _ _ (by simp)
  clear A hv
  go_enter Try.func23, Try.ntmps23
  go_wp2_with fail
  refine K.out.mono ?_
  rintro e w1 ⟨rfl, u1⟩
  have y2 := u1.blk z0
  have l2 := blk_lt y2
  have f2 := frozB y2
  have g2 := cellB y2
  go_wp2
  have y3 := set4_same y2 (.int .i64 0) (.int .i64 0) (.int .i64 0) (.int .i64 0)
  have f3 := cellB y3
  refine bodyPost_ret (v := .tuple #[rd 0 0 0 0, .int .i64 10]) (by simp [results, Try.results23, go_sem, f3]) rfl ⟨rfl, (U0.trans u1).set4 (by omega) _ _ _ _⟩

set_option maxRecDepth 100000 in
set_option maxHeartbeats 1000000 in
theorem r_Reading_ask (A : CalArg w a n c L) (hn : n ≤ 17592186044000) (t : Int) (hv : D.valid h m s d L = true) (hk : inB t 0 (D.beg h m s (D.deeds L L.length) d.toNat - 1) = false) :
    Calls Try.prog 23 #[.agg #[.int .i64 h, .int .i64 m, .int .i64 s, .int .i64 d, .slice a n c], .int .i64 t] w fun e w' => e = .returned (.tuple #[rd 0 0 0 0, .int .i64 11]) ∧ Up w w' := by
  obtain ⟨h1, h2, m1, m2, s1, s2, d1, d2⟩ := D.valid_bd hv
  obtain ⟨N, rfl⟩ : ∃ N : Nat, d = N := ⟨d.toNat, by omega⟩
  have U0 := ((Up.refl w).alloc (.cells #[.int .i64 h, .int .i64 m, .int .i64 s, .int .i64 N, .slice a n c] 24)).alloc (.cells #[.int .i64 0, .int .i64 0, .int .i64 0, .int .i64 0] 27)
  have K := Lib.hid (r_Check_yes (h := h) (m := m) (s := s) (d := N) (c := c) (A.up U0) hn hv)
  have HT := Lib.hid (fun w' (u : Up w w') => r_isTick_any (c := c) (A.up u) hv t)
  rw [Int.toNat_natCast] at hk
  rw [hk] at HT
  have z0 : mblk ((w.alloc (.cells #[.int .i64 h, .int .i64 m, .int .i64 s, .int .i64 N, .slice a n c] 24)).alloc (.cells #[.int .i64 0, .int .i64 0, .int .i64 0, .int .i64 0] 27)) (w.heap.size + 1) = some (.cells #[.int .i64 0, .int .i64 0, .int .i64 0, .int .i64 0] 27 (0, 0)) := blk_new _ _ _ (by simp)
  have c0 : mblk ((w.alloc (.cells #[.int .i64 h, .int .i64 m, .int .i64 s, .int .i64 N, .slice a n c] 24)).alloc (.cells #[.int .i64 0, .int .i64 0, .int .i64 0, .int .i64 0] 27)) w.heap.size = some (.cells #[.int .i64 h, .int .i64 m, .int .i64 s, .int .i64 N, .slice a n c] 24 (0, 0)) := blk_keep _ (blk_new _ _ _ rfl)
  clear A hv hk
  go_enter Try.func23, Try.ntmps23
  go_wp2_with fail
  refine K.out.mono ?_
  rintro e w1 ⟨rfl, u1⟩
  have f1 := cellB (u1.blk c0)
  have U1 := U0.trans u1
  go_wp2_with fail
  refine (HT.out _ U1).mono ?_
  rintro e w2 ⟨rfl, u2⟩
  have y2 := u2.blk (u1.blk z0)
  have l2 := blk_lt y2
  have f2 := frozB y2
  have g2 := cellB y2
  go_wp2
  have y3 := set4_same y2 (.int .i64 0) (.int .i64 0) (.int .i64 0) (.int .i64 0)
  have f3 := cellB y3
  refine bodyPost_ret (v := .tuple #[rd 0 0 0 0, .int .i64 11]) (by simp [results, Try.results23, go_sem, f3]) rfl ⟨rfl, (U1.trans u2).set4 (by omega) _ _ _ _⟩

set_option maxRecDepth 100000 in
set_option maxHeartbeats 1000000 in
theorem r_Reading_yes (A : CalArg w a n c L) (hn : n ≤ 17592186044000) (t : Int) (hv : D.valid h m s d L = true) (hk : inB t 0 (D.beg h m s (D.deeds L L.length) d.toNat - 1) = true) :
    Calls Try.prog 23 #[.agg #[.int .i64 h, .int .i64 m, .int .i64 s, .int .i64 d, .slice a n c], .int .i64 t] w fun e w' => e = .returned (.tuple #[rd (D.rA h m s (D.deeds L L.length) d.toNat t) (D.rB h m s (D.deeds L L.length) d.toNat t) (D.rC h m s (D.deeds L L.length) d.toNat t) (D.rS h m s (D.deeds L L.length) d.toNat t), .int .i64 0]) ∧ Up w w' := by
  obtain ⟨h1, h2, m1, m2, s1, s2, d1, d2⟩ := D.valid_bd hv
  obtain ⟨N, rfl⟩ : ∃ N : Nat, d = N := ⟨d.toNat, by omega⟩
  have U0 := ((Up.refl w).alloc (.cells #[.int .i64 h, .int .i64 m, .int .i64 s, .int .i64 N, .slice a n c] 24)).alloc (.cells #[.int .i64 0, .int .i64 0, .int .i64 0, .int .i64 0] 27)
  have K := Lib.hid (r_Check_yes (h := h) (m := m) (s := s) (d := N) (c := c) (A.up U0) hn hv)
  have HT := Lib.hid (fun w' (u : Up w w') => r_isTick_any (c := c) (A.up u) hv t)
  rw [Int.toNat_natCast] at hk ⊢
  rw [hk] at HT
  have hk2 := inB_iff.1 hk
  have HR := Lib.hid (fun w' (u : Up w w') => r_reading_any (c := c) (A.up u) hv t hk2.1 (by omega))
  generalize D.rA h m s (D.deeds L L.length) N t = R1 at *
  generalize D.rB h m s (D.deeds L L.length) N t = R2 at *
  generalize D.rC h m s (D.deeds L L.length) N t = R3 at *
  generalize D.rS h m s (D.deeds L L.length) N t = R4 at *
  have z0 : mblk ((w.alloc (.cells #[.int .i64 h, .int .i64 m, .int .i64 s, .int .i64 N, .slice a n c] 24)).alloc (.cells #[.int .i64 0, .int .i64 0, .int .i64 0, .int .i64 0] 27)) (w.heap.size + 1) = some (.cells #[.int .i64 0, .int .i64 0, .int .i64 0, .int .i64 0] 27 (0, 0)) := blk_new _ _ _ (by simp)
  have c0 : mblk ((w.alloc (.cells #[.int .i64 h, .int .i64 m, .int .i64 s, .int .i64 N, .slice a n c] 24)).alloc (.cells #[.int .i64 0, .int .i64 0, .int .i64 0, .int .i64 0] 27)) w.heap.size = some (.cells #[.int .i64 h, .int .i64 m, .int .i64 s, .int .i64 N, .slice a n c] 24 (0, 0)) := blk_keep _ (blk_new _ _ _ rfl)
  clear A hv hk hk2
  go_enter Try.func23, Try.ntmps23
  go_wp2_with fail
  refine K.out.mono ?_
  rintro e w1 ⟨rfl, u1⟩
  have c1 := u1.blk c0
  have f1 := cellB c1
  have U1 := U0.trans u1
  go_wp2_with fail
  refine (HT.out _ U1).mono ?_
  rintro e w2 ⟨rfl, u2⟩
  have U2 := U1.trans u2
  have f1' := cellB (u2.blk c1)
  go_wp2_with fail
  refine (HR.out _ U2).mono ?_
  rintro e w3 ⟨rfl, u3⟩
  have y2 := u3.blk (u2.blk (u1.blk z0))
  have l2 := blk_lt y2
  have f2 := frozB y2
  have g2 := cellB y2
  go_wp2
  have y3 := set4_same y2 (.int .i64 R1) (.int .i64 R2) (.int .i64 R3) (.int .i64 R4)
  have f3 := cellB y3
  refine bodyPost_ret (v := .tuple #[rd R1 R2 R3 R4, .int .i64 0]) (by simp [results, Try.results23, go_sem, f3]) rfl ⟨rfl, (U2.trans u3).set4 (by omega) _ _ _ _⟩

/-! What both return. -/
theorem both_Length (A : CalArg w a n c L) (hn : n ≤ 17592186044000) (t : Int) : ∃ v e : Int, (∀ w', Up w w' → Calls Try.prog 16 #[.agg #[.int .i64 h, .int .i64 m, .int .i64 s, .int .i64 d, .slice a n c], .int .i64 t] w' fun x w'' => x = .returned (.tuple #[.int .i64 v, .int .i64 e]) ∧ Up w' w'') ∧ ∀ w', Up w w' → Calls Try.prog 17 #[.agg #[.int .i64 h, .int .i64 m, .int .i64 s, .int .i64 d, .slice a n c], .int .i64 t] w' fun x w'' => x = .returned (.tuple #[.int .i64 v, .int .i64 e]) ∧ Up w' w'' := by
  refine ⟨_, _, fun _ u => ?_, fun _ u => r_Length_any (A.up u) hn t⟩
  cases hv : D.valid h m s d L
  · have e : D.lengthV h m s d L t = (0, 10) := by simp [D.lengthV, hv]
    rw [e]; exact Length_no (A.up u) t hv
  · cases hb : inB t 0 (d - 1)
    · have e : D.lengthV h m s d L t = (0, 11) := by simp [D.lengthV, hv, hb]
      rw [e]; exact Length_ask (A.up u) t hv hb
    · have e : D.lengthV h m s d L t = (D.len h m s (D.deeds L L.length t.toNat), 0) := by simp [D.lengthV, hv, hb]
      rw [e]
      have ht := inB_iff.1 hb
      obtain ⟨k, rfl⟩ : ∃ k : Nat, t = k := ⟨t.toNat, by omega⟩
      exact Length_yes (A.up u) k hv (by omega)
theorem both_Check (A : CalArg w a n c L) (hn : n ≤ 17592186044000) : ∃ e : Int, (∀ w', Up w w' → Calls Try.prog 18 #[.agg #[.int .i64 h, .int .i64 m, .int .i64 s, .int .i64 d, .slice a n c]] w' fun x w'' => x = .returned (.int .i64 e) ∧ Up w' w'') ∧ ∀ w', Up w w' → Calls Try.prog 19 #[.agg #[.int .i64 h, .int .i64 m, .int .i64 s, .int .i64 d, .slice a n c]] w' fun x w'' => x = .returned (.int .i64 e) ∧ Up w' w'' := by
  cases hv : D.valid h m s d L
  · exact ⟨10, fun _ u => Check_no (A.up u) hv, fun _ u => r_Check_no (A.up u) hn hv⟩
  · exact ⟨0, fun _ u => Check_yes (A.up u) hv, fun _ u => r_Check_yes (A.up u) hn hv⟩
theorem both_Total (A : CalArg w a n c L) (hn : n ≤ 17592186044000) : ∃ v e : Int, (∀ w', Up w w' → Calls Try.prog 20 #[.agg #[.int .i64 h, .int .i64 m, .int .i64 s, .int .i64 d, .slice a n c]] w' fun x w'' => x = .returned (.tuple #[.int .i64 v, .int .i64 e]) ∧ Up w' w'') ∧ ∀ w', Up w w' → Calls Try.prog 21 #[.agg #[.int .i64 h, .int .i64 m, .int .i64 s, .int .i64 d, .slice a n c]] w' fun x w'' => x = .returned (.tuple #[.int .i64 v, .int .i64 e]) ∧ Up w' w'' := by
  refine ⟨_, _, fun _ u => ?_, fun _ u => r_Total_any (A.up u) hn⟩
  cases hv : D.valid h m s d L
  · have e : D.totalV h m s d L = (0, 10) := by simp [D.totalV, hv]
    rw [e]; exact Total_no (A.up u) hv
  · have e : D.totalV h m s d L = (D.beg h m s (D.deeds L L.length) d.toNat, 0) := by simp [D.totalV, hv]
    rw [e]; exact Total_yes (A.up u) hv
theorem both_Reading (A : CalArg w a n c L) (hn : n ≤ 17592186044000) (t : Int) : ∃ R1 R2 R3 R4 e : Int, (∀ w', Up w w' → Calls Try.prog 22 #[.agg #[.int .i64 h, .int .i64 m, .int .i64 s, .int .i64 d, .slice a n c], .int .i64 t] w' fun x w'' => x = .returned (.tuple #[rd R1 R2 R3 R4, .int .i64 e]) ∧ Up w' w'') ∧ ∀ w', Up w w' → Calls Try.prog 23 #[.agg #[.int .i64 h, .int .i64 m, .int .i64 s, .int .i64 d, .slice a n c], .int .i64 t] w' fun x w'' => x = .returned (.tuple #[rd R1 R2 R3 R4, .int .i64 e]) ∧ Up w' w'' := by
  cases hv : D.valid h m s d L
  · exact ⟨0, 0, 0, 0, 10, fun _ u => Reading_no (A.up u) t hv, fun _ u => r_Reading_no (A.up u) hn t hv⟩
  · cases hb : inB t 0 (D.beg h m s (D.deeds L L.length) d.toNat - 1)
    · exact ⟨0, 0, 0, 0, 11, fun _ u => Reading_ask (A.up u) t hv hb, fun _ u => r_Reading_ask (A.up u) hn t hv hb⟩
    · have ht := inB_iff.1 hb
      exact ⟨_, _, _, _, 0, fun _ u => Reading_rd (A.up u) t hv ht.1 (by omega), fun _ u => r_Reading_yes (A.up u) hn t hv hb⟩
theorem both_Tick (A : CalArg w a n c L) (hn : n ≤ 17592186044000) (p0 p1 p2 p3 : Int) : ∃ v e : Int, (∀ w', Up w w' → Calls Try.prog 24 #[.agg #[.int .i64 h, .int .i64 m, .int .i64 s, .int .i64 d, .slice a n c], rd p0 p1 p2 p3] w' fun x w'' => x = .returned (.tuple #[.int .i64 v, .int .i64 e]) ∧ Up w' w'') ∧ ∀ w', Up w w' → Calls Try.prog 25 #[.agg #[.int .i64 h, .int .i64 m, .int .i64 s, .int .i64 d, .slice a n c], rd p0 p1 p2 p3] w' fun x w'' => x = .returned (.tuple #[.int .i64 v, .int .i64 e]) ∧ Up w' w'' :=
  ⟨_, _, fun _ u => Tick_any (A.up u) p0 p1 p2 p3, fun _ u => r_Tick_any (A.up u) hn p0 p1 p2 p3⟩
end

end Go.Proofs.Ytfmnfingliflkaa
