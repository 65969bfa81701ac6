import Derived.Test.YtfmnfingliflkaaRefB
import Derived.Test.YtfmnfingliflkaaRefC
/- The contracts of the reference's Length, Total, Reading, Tick and Apart. -/
namespace Go.Proofs.Ytfmnfingliflkaa
open Go.RowKit
attribute [local go_sem] cell_CAL
section
variable {h m s d : Int} {N : Nat} {a : Option Addr} {n c : Nat} {L : List (Int × Bool)} {w : World}

theorem r_Check_no (A : CalArg w a n c L) (hn : n ≤ 17592186044000) (hv : D.valid h m s d L = false) : Calls Try.prog 19 #[.agg #[.int .i64 h, .int .i64 m, .int .i64 s, .int .i64 d, .slice a n c]] w fun e w' => e = .returned (.int .i64 10) ∧ Up w w' := by
  have K := r_Check_any (h := h) (m := m) (s := s) (d := d) (c := c) A hn
  rw [hv, if_neg (by simp)] at K
  exact K
theorem r_Check_yes (A : CalArg w a n c L) (hn : n ≤ 17592186044000) (hv : D.valid h m s d L = true) : Calls Try.prog 19 #[.agg #[.int .i64 h, .int .i64 m, .int .i64 s, .int .i64 d, .slice a n c]] w fun e w' => e = .returned (.int .i64 0) ∧ Up w w' := by
  have K := r_Check_any (h := h) (m := m) (s := s) (d := d) (c := c) A hn
  rw [hv, if_pos rfl] at K
  exact K

/-- what Length returns -/
def D.lengthV (h m s d : Int) (L : List (Int × Bool)) (t : Int) : Int × Int :=
  if D.valid h m s d L = true then (if inB t 0 (d - 1) = true then (D.len h m s (D.deeds L L.length t.toNat), 0) else (0, 11)) else (0, 10)
set_option maxRecDepth 100000 in
set_option maxHeartbeats 1000000 in
theorem r_Length_any (A : CalArg w a n c L) (hn : n ≤ 17592186044000) (t : Int) :
    Calls Try.prog 17 #[.agg #[.int .i64 h, .int .i64 m, .int .i64 s, .int .i64 d, .slice a n c], .int .i64 t] w fun e w' => e = .returned (.tuple #[.int .i64 (D.lengthV h m s d L t).1, .int .i64 (D.lengthV h m s d L t).2]) ∧ Up w w' := by
  have U0 := (Up.refl w).alloc (.cells #[.int .i64 h, .int .i64 m, .int .i64 s, .int .i64 d, .slice a n c] 24)
  cases hv : D.valid h m s d L
  · have K := Lib.hid (r_Check_no (h := h) (m := m) (s := s) (d := d) (c := c) (A.up U0) hn hv)
    have e : D.lengthV h m s d L t = (0, 10) := by simp [D.lengthV, hv]
    rw [e]
    clear A hv e
    go_enter Try.func17, Try.ntmps17
    go_wp2_with fail
    refine K.out.mono ?_
    rintro e w1 ⟨rfl, u1⟩
    go_wp2
    go_ret2
    exact ⟨rfl, U0.trans u1⟩
  · have K := Lib.hid (r_Check_yes (h := h) (m := m) (s := s) (d := d) (c := c) (A.up U0) hn hv)
    obtain ⟨h1, h2, m1, m2, s1, s2, d1, d2⟩ := D.valid_bd hv
    have v1 : IntKind.i64.wrap (d - 1) = d - 1 := IntWalk.i64_in _ (by omega)
    have KL := Lib.hid (l_Lies_any t 0 (d - 1))
    have c0 : mblk (w.alloc (.cells #[.int .i64 h, .int .i64 m, .int .i64 s, .int .i64 d, .slice a n c] 24)) w.heap.size = some (.cells #[.int .i64 h, .int .i64 m, .int .i64 s, .int .i64 d, .slice a n c] 24 (0, 0)) := blk_new _ _ _ rfl
    cases hb : inB t 0 (d - 1)
    · have e : D.lengthV h m s d L t = (0, 11) := by simp [D.lengthV, hv, hb]
      rw [e]
      rw [hb] at KL
      clear A hv e hb
      go_enter Try.func17, Try.ntmps17
      go_wp2_with fail
      refine K.out.mono ?_
      rintro e w1 ⟨rfl, u1⟩
      have f1 := cellB (u1.blk c0)
      go_wp2_with fail
      refine (KL.out _).mono ?_
      rintro e w2 ⟨rfl, rfl⟩
      go_wp2
      go_ret2
      exact ⟨rfl, U0.trans u1⟩
    · have e : D.lengthV h m s d L t = (D.len h m s (D.deeds L L.length t.toNat), 0) := by simp [D.lengthV, hv, hb]
      rw [e]
      rw [hb] at KL
      have ht := inB_iff.1 hb
      obtain ⟨k, rfl⟩ : ∃ k : Nat, t = k := ⟨t.toNat, by omega⟩
      rw [Int.toNat_natCast]
      have HL := Lib.hid (fun w' (u : Up w w') => r_length_any (c := c) (A.up u) hv k)
      generalize D.len h m s (D.deeds L L.length k) = l at *
      clear A hv e hb
      go_enter Try.func17, Try.ntmps17
      go_wp2_with fail
      refine K.out.mono ?_
      rintro e w1 ⟨rfl, u1⟩
      have f1 := cellB (u1.blk c0)
      go_wp2_with fail
      refine (KL.out _).mono ?_
      rintro e w2 ⟨rfl, rfl⟩
      go_wp2_with fail
      refine (HL.out _ (U0.trans u1)).mono ?_
      rintro e w3 ⟨rfl, u3⟩
      go_wp2
      go_ret2
      exact ⟨rfl, (U0.trans u1).trans u3⟩

/-- what Total returns -/
def D.totalV (h m s d : Int) (L : List (Int × Bool)) : Int × Int := if D.valid h m s d L = true then (D.beg h m s (D.deeds L L.length) d.toNat, 0) else (0, 10)
set_option maxRecDepth 100000 in
set_option maxHeartbeats 1000000 in
theorem r_Total_any (A : CalArg w a n c L) (hn : n ≤ 17592186044000) :
    Calls Try.prog 21 #[.agg #[.int .i64 h, .int .i64 m, .int .i64 s, .int .i64 d, .slice a n c]] w fun e w' => e = .returned (.tuple #[.int .i64 (D.totalV h m s d L).1, .int .i64 (D.totalV h m s d L).2]) ∧ Up w w' := by
  have U0 := (Up.refl w).alloc (.cells #[.int .i64 h, .int .i64 m, .int .i64 s, .int .i64 d, .slice a n c] 24)
  cases hv : D.valid h m s d L
  · have K := Lib.hid (r_Check_no (h := h) (m := m) (s := s) (d := d) (c := c) (A.up U0) hn hv)
    have e : D.totalV h m s d L = (0, 10) := by simp [D.totalV, hv]
    rw [e]
    clear A hv e
    go_enter Try.func21, Try.ntmps21
    go_wp2_with fail
    refine K.out.mono ?_
    rintro e w1 ⟨rfl, u1⟩
    go_wp2
    go_ret2
    exact ⟨rfl, U0.trans u1⟩
  · have K := Lib.hid (r_Check_yes (h := h) (m := m) (s := s) (d := d) (c := c) (A.up U0) hn hv)
    obtain ⟨h1, h2, m1, m2, s1, s2, d1, d2⟩ := D.valid_bd hv
    have e : D.totalV h m s d L = (D.beg h m s (D.deeds L L.length) d.toNat, 0) := by simp [D.totalV, hv]
    rw [e]
    obtain ⟨k, rfl⟩ : ∃ k : Nat, d = k := ⟨d.toNat, by omega⟩
    rw [Int.toNat_natCast]
    have HL := Lib.hid (fun w' (u : Up w w') => r_begins_any (c := c) (A.up u) hv k (by omega))
    have c0 : mblk (w.alloc (.cells #[.int .i64 h, .int .i64 m, .int .i64 s, .int .i64 k, .slice a n c] 24)) w.heap.size = some (.cells #[.int .i64 h, .int .i64 m, .int .i64 s, .int .i64 k, .slice a n c] 24 (0, 0)) := blk_new _ _ _ rfl
    generalize D.beg h m s (D.deeds L L.length) k = l at *
    clear A hv e
    go_enter Try.func21, Try.ntmps21
    go_wp2_with fail
    refine K.out.mono ?_
    rintro e w1 ⟨rfl, u1⟩
    have f1 := cellB (u1.blk c0)
    go_wp2_with fail
    refine (HL.out _ (U0.trans u1)).mono ?_
    rintro e w3 ⟨rfl, u3⟩
    go_wp2
    go_ret2
    exact ⟨rfl, (U0.trans u1).trans u3⟩

set_option maxRecDepth 100000 in
set_option maxHeartbeats 1000000 in
theorem r_Tick_any (A : CalArg w a n c L) (hn : n ≤ 17592186044000) (p0 p1 p2 p3 : Int) :
    Calls Try.prog 25 #[.agg #[.int .i64 h, .int .i64 m, .int .i64 s, .int .i64 d, .slice a n c], rd p0 p1 p2 p3] w fun e w' => e = .returned (.tuple #[.int .i64 (D.tickV h m s d L p0 p1 p2 p3).1, .int .i64 (D.tickV h m s d L p0 p1 p2 p3).2]) ∧ Up w w' := by
  have U0 := ((Up.refl w).alloc (.cells #[.int .i64 h, .int .i64 m, .int .i64 s, .int .i64 d, .slice a n c] 24)).alloc (.cells #[.int .i64 p0, .int .i64 p1, .int .i64 p2, .int .i64 p3] 27)
  cases hv : D.valid h m s d L
  · have K := Lib.hid (r_Check_no (h := h) (m := m) (s := s) (d := d) (c := c) (A.up U0) hn hv)
    have e : D.tickV h m s d L p0 p1 p2 p3 = (0, 10) := by simp [D.tickV, hv]
    rw [e]
    clear A hv e
    go_enter Try.func25, Try.ntmps25
    go_wp2_with fail
    refine K.out.mono ?_
    rintro e w1 ⟨rfl, u1⟩
    go_wp2
    go_ret2
    exact ⟨rfl, U0.trans u1⟩
  · have K := Lib.hid (r_Check_yes (h := h) (m := m) (s := s) (d := d) (c := c) (A.up U0) hn hv)
    obtain ⟨h1, h2, m1, m2, s1, s2, d1, d2⟩ := D.valid_bd hv
    obtain ⟨k, rfl⟩ : ∃ k : Nat, d = k := ⟨d.toNat, by omega⟩
    have HT := Lib.hid (fun w' (u : Up w w') => r_tickOf_any (c := c) (A.up u) hv p0 p1 p2 p3)
    have c0 : mblk ((w.alloc (.cells #[.int .i64 h, .int .i64 m, .int .i64 s, .int .i64 k, .slice a n c] 24)).alloc (.cells #[.int .i64 p0, .int .i64 p1, .int .i64 p2, .int .i64 p3] 27)) w.heap.size = some (.cells #[.int .i64 h, .int .i64 m, .int .i64 s, .int .i64 k, .slice a n c] 24 (0, 0)) := blk_keep _ (blk_new _ _ _ rfl)
    have r0 : mblk ((w.alloc (.cells #[.int .i64 h, .int .i64 m, .int .i64 s, .int .i64 k, .slice a n c] 24)).alloc (.cells #[.int .i64 p0, .int .i64 p1, .int .i64 p2, .int .i64 p3] 27)) (w.heap.size + 1) = some (.cells #[.int .i64 p0, .int .i64 p1, .int .i64 p2, .int .i64 p3] 27 (0, 0)) := blk_new _ _ _ (by simp)
    unfold D.tof at HT
    cases hr : D.isRd h m s k (D.deeds L L.length) p0 p1 p2 p3
    · have e : D.tickV h m s k L p0 p1 p2 p3 = (0, 4) := by simp [D.tickV, hv, hr]
      rw [e]
      rw [hr, if_neg (by simp)] at HT
      clear A hv e hr
      go_enter Try.func25, Try.ntmps25
      go_wp2_with fail
      refine K.out.mono ?_
      rintro e w1 ⟨rfl, u1⟩
      have f1 := cellB (u1.blk c0)
      have g1 := cellB (u1.blk r0)
      go_wp2_with fail
      refine (HT.out _ (U0.trans u1)).mono ?_
      rintro e w2 ⟨rfl, u2⟩
      go_wp2
      go_ret2
      exact ⟨rfl, (U0.trans u1).trans u2⟩
    · have e : D.tickV h m s k L p0 p1 p2 p3 = (D.tk h m s (D.deeds L L.length) p0 p1 p2 p3, 0) := by simp [D.tickV, hv, hr]
      rw [e]
      rw [hr, if_pos rfl] at HT
      have tb := D.tk_bd h1 h2 m1 m2 s1 s2 (by omega) hr
      generalize D.tk h m s (D.deeds L L.length) p0 p1 p2 p3 = t at *
      have t0 : 0 ≤ t := tb.1
      clear A hv e hr
      go_enter Try.func25, Try.ntmps25
      go_wp2_with fail
      refine K.out.mono ?_
      rintro e w1 ⟨rfl, u1⟩
      have f1 := cellB (u1.blk c0)
      have g1 := cellB (u1.blk r0)
      go_wp2_with fail
      refine (HT.out _ (U0.trans u1)).mono ?_
      rintro e w2 ⟨rfl, u2⟩
      go_wp2
      go_ret2
      exact ⟨rfl, (U0.trans u1).trans u2⟩

/-- what Reading returns -/
def D.readV (h m s d : Int) (L : List (Int × Bool)) (t : Int) (F : Int → Int → Int → Int → Int → Prop) : Prop :=
  if D.valid h m s d L = true then (if inB t 0 (D.beg h m s (D.deeds L L.length) d.toNat - 1) = true then F (D.rA h m s (D.deeds L L.length) d.toNat t) (D.rB h m s (D.deeds L L.length) d.toNat t) (D.rC h m s (D.deeds L L.length) d.toNat t) (D.rS h m s (D.deeds L L.length) d.toNat t) 0 else F 0 0 0 0 11) else F 0 0 0 0 10
end

end Go.Proofs.Ytfmnfingliflkaa
