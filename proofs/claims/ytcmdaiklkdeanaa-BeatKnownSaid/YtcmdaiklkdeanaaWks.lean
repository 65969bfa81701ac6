import Derived.Test.YtcmdaiklkdeanaaTrI
import Derived.Test.YtcmdaiklkdeanaaWro
/- The mathematics of the example that each law asks about. -/
namespace Go.Proofs.Ytcmdaiklkdeanaa

def T.chk (H : Nat) (rs : List (Int × Int)) (os : List (Int × Int × Int × Int)) (ps : List (Int × Int × Int × Int × Int)) (b0 b1 b2 b3 b4 : Bool) (y : Int × Int → Int) : Bool :=
  ((List.range rs.length).all fun k => ((List.range (H + 1)).all fun h => inB (y ((k : Int), (h : Int)) - y (-1, 0)) (-100000) 100000) && (List.range H).all fun h => inB (y ((k : Int), (h : Int) + 1) - y ((k : Int), (h : Int))) (T.grw rs os k h).1 (T.grw rs os k h).2) &&
  ps.all fun x => T.has b0 b1 b2 b3 b4 x.2.1 || T.has b0 b1 b2 b3 b4 x.2.2.1 || inB (y (x.2.1, x.1) - y (x.2.2.1, if x.2.2.1 = -1 then 0 else x.1)) x.2.2.2.1 x.2.2.2.2
theorem T.chk_tru {H : Nat} {rs : List (Int × Int)} {os : List (Int × Int × Int × Int)} {ps : List (Int × Int × Int × Int × Int)} {b0 b1 b2 b3 b4 : Bool} {y : Int × Int → Int} (h : T.chk H rs os ps b0 b1 b2 b3 b4 y = true) : T.Tru H rs os ps b0 b1 b2 b3 b4 y := by
  unfold T.chk at h
  rw [Bool.and_eq_true, List.all_eq_true, List.all_eq_true] at h
  obtain ⟨h1, h2⟩ := h
  refine ⟨fun k j a b c d => ?_, fun k j a b c d => ?_, fun x hx e1 e2 => ?_⟩
  · have q := h1 k.toNat (List.mem_range.2 (by omega))
    rw [Bool.and_eq_true, List.all_eq_true] at q
    have r := inB_iff.1 (q.1 j.toNat (List.mem_range.2 (by omega)))
    rw [Int.toNat_of_nonneg a, Int.toNat_of_nonneg c] at r
    exact r
  · have q := h1 k.toNat (List.mem_range.2 (by omega))
    rw [Bool.and_eq_true, List.all_eq_true, List.all_eq_true] at q
    have r := inB_iff.1 (q.2 j.toNat (List.mem_range.2 (by omega)))
    rw [Int.toNat_of_nonneg a, Int.toNat_of_nonneg c] at r
    exact r
  · have q := h2 x hx
    rw [e1, e2, Bool.false_or, Bool.false_or] at q
    exact inB_iff.1 q
/-- numbers from rows -/
def T.tab (rows : List (List Int)) : Int × Int → Int := fun m => if m.1 < 0 then 0 else (rows.getD m.1.toNat []).getD m.2.toNat 0
def T.rs0 : List (Int × Int) := [(-2, 3), (0, 1), (-10, 10)]
def T.os0 : List (Int × Int × Int × Int) := [(2, 1, -50, 50)]
def T.ps0 : List (Int × Int × Int × Int × Int) := [(0, 0, -1, 100, 104), (1, 0, 1, 40, 44), (3, 1, -1, 60, 61), (3, 2, 1, 5, 5)]
def T.ps1 : List (Int × Int × Int × Int × Int) := T.ps0 ++ [(1, 1, -1, 80, 90)]
theorem T.good0 : T.Good 3 T.rs0 T.os0 T.ps0 := T.valid_good.1 (by kernel_rfl)
theorem T.good1 : T.Good 3 T.rs0 T.os0 T.ps1 := T.valid_good.1 (by kernel_rfl)
abbrev T.web0 : List T.T6 := T.web 3 3 T.rs0 T.os0 T.ps0 false false false false false
theorem T.ok0 : T.WebOk 3 3 T.web0 := T.web_ok T.good0
theorem T.wit0 {y : Int × Int → Int} (h : T.chk 3 T.rs0 T.os0 T.ps0 false false false false false y = true) : T.Sat T.sHi T.web0 y := (T.sat_tru T.good0).2 (T.chk_tru h)
def T.w_off_lo : Int × Int → Int := T.tab [[100, 98, 101, 104], [58, 58, 59, 60], [145, 135, 75, 65]]
theorem T.s_off_lo : T.Sat T.sHi T.web0 T.w_off_lo := T.wit0 (by kernel_rfl)
def T.w_off_hi : Int × Int → Int := T.tab [[104, 105, 108, 111], [61, 61, 61, 61], [146, 136, 76, 66]]
theorem T.s_off_hi : T.Sat T.sHi T.web0 T.w_off_hi := T.wit0 (by kernel_rfl)
def T.w_low : Int × Int → Int := T.tab [[100, 98, 96, 94], [58, 58, 59, 60], [145, 135, 75, 65]]
theorem T.s_low : T.Sat T.sHi T.web0 T.w_low := T.wit0 (by kernel_rfl)
def T.w_ap_hi : Int × Int → Int := T.tab [[104, 104, 107, 110], [60, 60, 60, 60], [145, 135, 75, 65]]
theorem T.s_ap_hi : T.Sat T.sHi T.web0 T.w_ap_hi := T.wit0 (by kernel_rfl)
def T.w_dr_lo : Int × Int → Int := T.tab [[104, 104, 107, 110], [60, 60, 60, 60], [125, 115, 55, 65]]
theorem T.s_dr_lo : T.Sat T.sHi T.web0 T.w_dr_lo := T.wit0 (by kernel_rfl)
def T.w_dr_hi : Int × Int → Int := T.tab [[104, 104, 107, 110], [60, 60, 60, 60], [5, -5, 55, 65]]
theorem T.s_dr_hi : T.Sat T.sHi T.web0 T.w_dr_hi := T.wit0 (by kernel_rfl)
theorem T.ex_off : T.Told T.web0 (0, 1) (-1, 0) 98 105 := by
  refine ⟨fun y hy => ?_, ⟨T.w_off_lo, T.s_off_lo, by kernel_rfl⟩, ⟨T.w_off_hi, T.s_off_hi, by kernel_rfl⟩⟩
  have t := (T.sat_tru T.good0).1 hy
  have g00 : T.In (-2, 3) (y (0, 1) - y (0, 0)) := t.grow 0 0 (by omega) (by decide) (by omega) (by omega)
  have g01 : T.In (-2, 3) (y (0, 2) - y (0, 1)) := t.grow 0 1 (by omega) (by decide) (by omega) (by omega)
  have g02 : T.In (-2, 3) (y (0, 3) - y (0, 2)) := t.grow 0 2 (by omega) (by decide) (by omega) (by omega)
  have g10 : T.In (0, 1) (y (1, 1) - y (1, 0)) := t.grow 1 0 (by omega) (by decide) (by omega) (by omega)
  have g11 : T.In (0, 1) (y (1, 2) - y (1, 1)) := t.grow 1 1 (by omega) (by decide) (by omega) (by omega)
  have g12 : T.In (0, 1) (y (1, 3) - y (1, 2)) := t.grow 1 2 (by omega) (by decide) (by omega) (by omega)
  have g20 : T.In (-10, 10) (y (2, 1) - y (2, 0)) := t.grow 2 0 (by omega) (by decide) (by omega) (by omega)
  have g21 : T.In (-60, 60) (y (2, 2) - y (2, 1)) := t.grow 2 1 (by omega) (by decide) (by omega) (by omega)
  have g22 : T.In (-10, 10) (y (2, 3) - y (2, 2)) := t.grow 2 2 (by omega) (by decide) (by omega) (by omega)
  have a0 : T.In (100, 104) (y (0, 0) - y (-1, 0)) := t.cmp (0, 0, -1, 100, 104) (by decide) rfl rfl
  have a1 : T.In (40, 44) (y (0, 1) - y (1, 1)) := t.cmp (1, 0, 1, 40, 44) (by decide) rfl rfl
  have a2 : T.In (60, 61) (y (1, 3) - y (-1, 0)) := t.cmp (3, 1, -1, 60, 61) (by decide) rfl rfl
  have a3 : T.In (5, 5) (y (2, 3) - y (1, 3)) := t.cmp (3, 2, 1, 5, 5) (by decide) rfl rfl
  unfold T.In at g00 g01 g02 g10 g11 g12 g20 g21 g22 a0 a1 a2 a3
  simp only at g00 g01 g02 g10 g11 g12 g20 g21 g22 a0 a1 a2 a3
  omega
theorem T.ex_apart : T.Told T.web0 (0, 3) (1, 3) 34 50 := by
  refine ⟨fun y hy => ?_, ⟨T.w_low, T.s_low, by kernel_rfl⟩, ⟨T.w_ap_hi, T.s_ap_hi, by kernel_rfl⟩⟩
  have t := (T.sat_tru T.good0).1 hy
  have g00 : T.In (-2, 3) (y (0, 1) - y (0, 0)) := t.grow 0 0 (by omega) (by decide) (by omega) (by omega)
  have g01 : T.In (-2, 3) (y (0, 2) - y (0, 1)) := t.grow 0 1 (by omega) (by decide) (by omega) (by omega)
  have g02 : T.In (-2, 3) (y (0, 3) - y (0, 2)) := t.grow 0 2 (by omega) (by decide) (by omega) (by omega)
  have g10 : T.In (0, 1) (y (1, 1) - y (1, 0)) := t.grow 1 0 (by omega) (by decide) (by omega) (by omega)
  have g11 : T.In (0, 1) (y (1, 2) - y (1, 1)) := t.grow 1 1 (by omega) (by decide) (by omega) (by omega)
  have g12 : T.In (0, 1) (y (1, 3) - y (1, 2)) := t.grow 1 2 (by omega) (by decide) (by omega) (by omega)
  have g20 : T.In (-10, 10) (y (2, 1) - y (2, 0)) := t.grow 2 0 (by omega) (by decide) (by omega) (by omega)
  have g21 : T.In (-60, 60) (y (2, 2) - y (2, 1)) := t.grow 2 1 (by omega) (by decide) (by omega) (by omega)
  have g22 : T.In (-10, 10) (y (2, 3) - y (2, 2)) := t.grow 2 2 (by omega) (by decide) (by omega) (by omega)
  have a0 : T.In (100, 104) (y (0, 0) - y (-1, 0)) := t.cmp (0, 0, -1, 100, 104) (by decide) rfl rfl
  have a1 : T.In (40, 44) (y (0, 1) - y (1, 1)) := t.cmp (1, 0, 1, 40, 44) (by decide) rfl rfl
  have a2 : T.In (60, 61) (y (1, 3) - y (-1, 0)) := t.cmp (3, 1, -1, 60, 61) (by decide) rfl rfl
  have a3 : T.In (5, 5) (y (2, 3) - y (1, 3)) := t.cmp (3, 2, 1, 5, 5) (by decide) rfl rfl
  unfold T.In at g00 g01 g02 g10 g11 g12 g20 g21 g22 a0 a1 a2 a3
  simp only at g00 g01 g02 g10 g11 g12 g20 g21 g22 a0 a1 a2 a3
  omega
theorem T.ex_drift : T.Told T.web0 (2, 2) (2, 1) (-60) 60 := by
  refine ⟨fun y hy => ?_, ⟨T.w_dr_lo, T.s_dr_lo, by kernel_rfl⟩, ⟨T.w_dr_hi, T.s_dr_hi, by kernel_rfl⟩⟩
  have t := (T.sat_tru T.good0).1 hy
  have g00 : T.In (-2, 3) (y (0, 1) - y (0, 0)) := t.grow 0 0 (by omega) (by decide) (by omega) (by omega)
  have g01 : T.In (-2, 3) (y (0, 2) - y (0, 1)) := t.grow 0 1 (by omega) (by decide) (by omega) (by omega)
  have g02 : T.In (-2, 3) (y (0, 3) - y (0, 2)) := t.grow 0 2 (by omega) (by decide) (by omega) (by omega)
  have g10 : T.In (0, 1) (y (1, 1) - y (1, 0)) := t.grow 1 0 (by omega) (by decide) (by omega) (by omega)
  have g11 : T.In (0, 1) (y (1, 2) - y (1, 1)) := t.grow 1 1 (by omega) (by decide) (by omega) (by omega)
  have g12 : T.In (0, 1) (y (1, 3) - y (1, 2)) := t.grow 1 2 (by omega) (by decide) (by omega) (by omega)
  have g20 : T.In (-10, 10) (y (2, 1) - y (2, 0)) := t.grow 2 0 (by omega) (by decide) (by omega) (by omega)
  have g21 : T.In (-60, 60) (y (2, 2) - y (2, 1)) := t.grow 2 1 (by omega) (by decide) (by omega) (by omega)
  have g22 : T.In (-10, 10) (y (2, 3) - y (2, 2)) := t.grow 2 2 (by omega) (by decide) (by omega) (by omega)
  have a0 : T.In (100, 104) (y (0, 0) - y (-1, 0)) := t.cmp (0, 0, -1, 100, 104) (by decide) rfl rfl
  have a1 : T.In (40, 44) (y (0, 1) - y (1, 1)) := t.cmp (1, 0, 1, 40, 44) (by decide) rfl rfl
  have a2 : T.In (60, 61) (y (1, 3) - y (-1, 0)) := t.cmp (3, 1, -1, 60, 61) (by decide) rfl rfl
  have a3 : T.In (5, 5) (y (2, 3) - y (1, 3)) := t.cmp (3, 2, 1, 5, 5) (by decide) rfl rfl
  unfold T.In at g00 g01 g02 g10 g11 g12 g20 g21 g22 a0 a1 a2 a3
  simp only at g00 g01 g02 g10 g11 g12 g20 g21 g22 a0 a1 a2 a3
  omega
theorem T.ex_case : T.Told T.web0 (2, 1) (-1, 0) (-5) 136 := by
  refine ⟨fun y hy => ?_, ⟨T.w_dr_hi, T.s_dr_hi, by kernel_rfl⟩, ⟨T.w_off_hi, T.s_off_hi, by kernel_rfl⟩⟩
  have t := (T.sat_tru T.good0).1 hy
  have g00 : T.In (-2, 3) (y (0, 1) - y (0, 0)) := t.grow 0 0 (by omega) (by decide) (by omega) (by omega)
  have g01 : T.In (-2, 3) (y (0, 2) - y (0, 1)) := t.grow 0 1 (by omega) (by decide) (by omega) (by omega)
  have g02 : T.In (-2, 3) (y (0, 3) - y (0, 2)) := t.grow 0 2 (by omega) (by decide) (by omega) (by omega)
  have g10 : T.In (0, 1) (y (1, 1) - y (1, 0)) := t.grow 1 0 (by omega) (by decide) (by omega) (by omega)
  have g11 : T.In (0, 1) (y (1, 2) - y (1, 1)) := t.grow 1 1 (by omega) (by decide) (by omega) (by omega)
  have g12 : T.In (0, 1) (y (1, 3) - y (1, 2)) := t.grow 1 2 (by omega) (by decide) (by omega) (by omega)
  have g20 : T.In (-10, 10) (y (2, 1) - y (2, 0)) := t.grow 2 0 (by omega) (by decide) (by omega) (by omega)
  have g21 : T.In (-60, 60) (y (2, 2) - y (2, 1)) := t.grow 2 1 (by omega) (by decide) (by omega) (by omega)
  have g22 : T.In (-10, 10) (y (2, 3) - y (2, 2)) := t.grow 2 2 (by omega) (by decide) (by omega) (by omega)
  have a0 : T.In (100, 104) (y (0, 0) - y (-1, 0)) := t.cmp (0, 0, -1, 100, 104) (by decide) rfl rfl
  have a1 : T.In (40, 44) (y (0, 1) - y (1, 1)) := t.cmp (1, 0, 1, 40, 44) (by decide) rfl rfl
  have a2 : T.In (60, 61) (y (1, 3) - y (-1, 0)) := t.cmp (3, 1, -1, 60, 61) (by decide) rfl rfl
  have a3 : T.In (5, 5) (y (2, 3) - y (1, 3)) := t.cmp (3, 2, 1, 5, 5) (by decide) rfl rfl
  unfold T.In at g00 g01 g02 g10 g11 g12 g20 g21 g22 a0 a1 a2 a3
  simp only at g00 g01 g02 g10 g11 g12 g20 g21 g22 a0 a1 a2 a3
  omega
theorem T.ex_b0 : T.Told T.web0 (0, 3) (-1, 0) 94 111 := by
  refine ⟨fun y hy => ?_, ⟨T.w_low, T.s_low, by kernel_rfl⟩, ⟨T.w_off_hi, T.s_off_hi, by kernel_rfl⟩⟩
  have t := (T.sat_tru T.good0).1 hy
  have g00 : T.In (-2, 3) (y (0, 1) - y (0, 0)) := t.grow 0 0 (by omega) (by decide) (by omega) (by omega)
  have g01 : T.In (-2, 3) (y (0, 2) - y (0, 1)) := t.grow 0 1 (by omega) (by decide) (by omega) (by omega)
  have g02 : T.In (-2, 3) (y (0, 3) - y (0, 2)) := t.grow 0 2 (by omega) (by decide) (by omega) (by omega)
  have g10 : T.In (0, 1) (y (1, 1) - y (1, 0)) := t.grow 1 0 (by omega) (by decide) (by omega) (by omega)
  have g11 : T.In (0, 1) (y (1, 2) - y (1, 1)) := t.grow 1 1 (by omega) (by decide) (by omega) (by omega)
  have g12 : T.In (0, 1) (y (1, 3) - y (1, 2)) := t.grow 1 2 (by omega) (by decide) (by omega) (by omega)
  have g20 : T.In (-10, 10) (y (2, 1) - y (2, 0)) := t.grow 2 0 (by omega) (by decide) (by omega) (by omega)
  have g21 : T.In (-60, 60) (y (2, 2) - y (2, 1)) := t.grow 2 1 (by omega) (by decide) (by omega) (by omega)
  have g22 : T.In (-10, 10) (y (2, 3) - y (2, 2)) := t.grow 2 2 (by omega) (by decide) (by omega) (by omega)
  have a0 : T.In (100, 104) (y (0, 0) - y (-1, 0)) := t.cmp (0, 0, -1, 100, 104) (by decide) rfl rfl
  have a1 : T.In (40, 44) (y (0, 1) - y (1, 1)) := t.cmp (1, 0, 1, 40, 44) (by decide) rfl rfl
  have a2 : T.In (60, 61) (y (1, 3) - y (-1, 0)) := t.cmp (3, 1, -1, 60, 61) (by decide) rfl rfl
  have a3 : T.In (5, 5) (y (2, 3) - y (1, 3)) := t.cmp (3, 2, 1, 5, 5) (by decide) rfl rfl
  unfold T.In at g00 g01 g02 g10 g11 g12 g20 g21 g22 a0 a1 a2 a3
  simp only at g00 g01 g02 g10 g11 g12 g20 g21 g22 a0 a1 a2 a3
  omega
theorem T.ex_b1 : T.Told T.web0 (1, 3) (-1, 0) 60 61 := by
  refine ⟨fun y hy => ?_, ⟨T.w_low, T.s_low, by kernel_rfl⟩, ⟨T.w_off_hi, T.s_off_hi, by kernel_rfl⟩⟩
  have t := (T.sat_tru T.good0).1 hy
  have g00 : T.In (-2, 3) (y (0, 1) - y (0, 0)) := t.grow 0 0 (by omega) (by decide) (by omega) (by omega)
  have g01 : T.In (-2, 3) (y (0, 2) - y (0, 1)) := t.grow 0 1 (by omega) (by decide) (by omega) (by omega)
  have g02 : T.In (-2, 3) (y (0, 3) - y (0, 2)) := t.grow 0 2 (by omega) (by decide) (by omega) (by omega)
  have g10 : T.In (0, 1) (y (1, 1) - y (1, 0)) := t.grow 1 0 (by omega) (by decide) (by omega) (by omega)
  have g11 : T.In (0, 1) (y (1, 2) - y (1, 1)) := t.grow 1 1 (by omega) (by decide) (by omega) (by omega)
  have g12 : T.In (0, 1) (y (1, 3) - y (1, 2)) := t.grow 1 2 (by omega) (by decide) (by omega) (by omega)
  have g20 : T.In (-10, 10) (y (2, 1) - y (2, 0)) := t.grow 2 0 (by omega) (by decide) (by omega) (by omega)
  have g21 : T.In (-60, 60) (y (2, 2) - y (2, 1)) := t.grow 2 1 (by omega) (by decide) (by omega) (by omega)
  have g22 : T.In (-10, 10) (y (2, 3) - y (2, 2)) := t.grow 2 2 (by omega) (by decide) (by omega) (by omega)
  have a0 : T.In (100, 104) (y (0, 0) - y (-1, 0)) := t.cmp (0, 0, -1, 100, 104) (by decide) rfl rfl
  have a1 : T.In (40, 44) (y (0, 1) - y (1, 1)) := t.cmp (1, 0, 1, 40, 44) (by decide) rfl rfl
  have a2 : T.In (60, 61) (y (1, 3) - y (-1, 0)) := t.cmp (3, 1, -1, 60, 61) (by decide) rfl rfl
  have a3 : T.In (5, 5) (y (2, 3) - y (1, 3)) := t.cmp (3, 2, 1, 5, 5) (by decide) rfl rfl
  unfold T.In at g00 g01 g02 g10 g11 g12 g20 g21 g22 a0 a1 a2 a3
  simp only at g00 g01 g02 g10 g11 g12 g20 g21 g22 a0 a1 a2 a3
  omega
theorem T.ex_b2 : T.Told T.web0 (2, 3) (-1, 0) 65 66 := by
  refine ⟨fun y hy => ?_, ⟨T.w_low, T.s_low, by kernel_rfl⟩, ⟨T.w_off_hi, T.s_off_hi, by kernel_rfl⟩⟩
  have t := (T.sat_tru T.good0).1 hy
  have g00 : T.In (-2, 3) (y (0, 1) - y (0, 0)) := t.grow 0 0 (by omega) (by decide) (by omega) (by omega)
  have g01 : T.In (-2, 3) (y (0, 2) - y (0, 1)) := t.grow 0 1 (by omega) (by decide) (by omega) (by omega)
  have g02 : T.In (-2, 3) (y (0, 3) - y (0, 2)) := t.grow 0 2 (by omega) (by decide) (by omega) (by omega)
  have g10 : T.In (0, 1) (y (1, 1) - y (1, 0)) := t.grow 1 0 (by omega) (by decide) (by omega) (by omega)
  have g11 : T.In (0, 1) (y (1, 2) - y (1, 1)) := t.grow 1 1 (by omega) (by decide) (by omega) (by omega)
  have g12 : T.In (0, 1) (y (1, 3) - y (1, 2)) := t.grow 1 2 (by omega) (by decide) (by omega) (by omega)
  have g20 : T.In (-10, 10) (y (2, 1) - y (2, 0)) := t.grow 2 0 (by omega) (by decide) (by omega) (by omega)
  have g21 : T.In (-60, 60) (y (2, 2) - y (2, 1)) := t.grow 2 1 (by omega) (by decide) (by omega) (by omega)
  have g22 : T.In (-10, 10) (y (2, 3) - y (2, 2)) := t.grow 2 2 (by omega) (by decide) (by omega) (by omega)
  have a0 : T.In (100, 104) (y (0, 0) - y (-1, 0)) := t.cmp (0, 0, -1, 100, 104) (by decide) rfl rfl
  have a1 : T.In (40, 44) (y (0, 1) - y (1, 1)) := t.cmp (1, 0, 1, 40, 44) (by decide) rfl rfl
  have a2 : T.In (60, 61) (y (1, 3) - y (-1, 0)) := t.cmp (3, 1, -1, 60, 61) (by decide) rfl rfl
  have a3 : T.In (5, 5) (y (2, 3) - y (1, 3)) := t.cmp (3, 2, 1, 5, 5) (by decide) rfl rfl
  unfold T.In at g00 g01 g02 g10 g11 g12 g20 g21 g22 a0 a1 a2 a3
  simp only at g00 g01 g02 g10 g11 g12 g20 g21 g22 a0 a1 a2 a3
  omega
theorem T.no_without (b0 b1 b2 b3 b4 : Bool) (h1 : b1 = false) (h : ∃ y, T.Sat T.sHi (T.web 3 3 T.rs0 T.os0 T.ps1 b0 b1 b2 b3 b4) y) : False := by
  obtain ⟨y, hy⟩ := h
  subst h1
  have t := (T.sat_tru T.good1).1 hy
  have g10 : T.In (0, 1) (y (1, 1) - y (1, 0)) := t.grow 1 0 (by omega) (by decide) (by omega) (by omega)
  have g11 : T.In (0, 1) (y (1, 2) - y (1, 1)) := t.grow 1 1 (by omega) (by decide) (by omega) (by omega)
  have g12 : T.In (0, 1) (y (1, 3) - y (1, 2)) := t.grow 1 2 (by omega) (by decide) (by omega) (by omega)
  have a2 : T.In (60, 61) (y (1, 3) - y (-1, 0)) := t.cmp (3, 1, -1, 60, 61) (by decide) rfl rfl
  have a4 : T.In (80, 90) (y (1, 1) - y (-1, 0)) := t.cmp (1, 1, -1, 80, 90) (by decide) rfl rfl
  unfold T.In at g10 g11 g12 a2 a4
  simp only at g10 g11 g12 a2 a4
  omega
theorem T.with_one : ∃ y, T.Sat T.sHi (T.web 3 3 T.rs0 T.os0 T.ps1 false true false false false) y :=
  ⟨T.tab [[100, 100, 100, 100], [0, 0, 0, 0], [0, 0, 0, 0]], (T.sat_tru T.good1).2 (T.chk_tru (by kernel_rfl))⟩
theorem T.few_one {P : (Nat → Bool) → Bool} (p0 : P (fun _ => false) = false) (p1 : P (T.st (fun _ => false) 0 true) = false) (p2 : P (T.st (fun _ => false) 1 true) = true) : T.few P 3 0 = some (T.st (fun _ => false) 1 true) := by
  have c0 : T.ch P 3 0 0 (fun _ => false) = none := by
    show (if P (fun _ => false) = true then _ else _) = _
    rw [p0]; rfl
  have d0 : T.ch P 3 0 1 (T.st (fun _ => false) 0 true) = none := by
    show (if P _ = true then _ else _) = _
    rw [p1]; rfl
  have d1 : T.ch P 3 0 2 (T.st (fun _ => false) 1 true) = some (T.st (fun _ => false) 1 true) := by
    show (if P _ = true then _ else _) = _
    rw [p2]; rfl
  have c1 : T.ch P 3 1 0 (fun _ => false) = some (T.st (fun _ => false) 1 true) := by
    show (List.range' 0 (3 - 0)).findSome? (fun c => T.ch P 3 0 (c + 1) (T.st (fun _ => false) c true)) = _
    rw [T.find_step _ (show 0 < 3 by omega)]
    simp only [Nat.zero_add, d0]
    rw [T.find_step _ (show 1 < 3 by omega)]
    simp only [Nat.reduceAdd, d1]
  unfold T.few
  rw [T.find_step _ (show 0 < 3 + 1 by omega)]
  simp only [c0]
  rw [T.find_step _ (show 0 + 1 < 3 + 1 by omega)]
  simp only [Nat.zero_add, c1]
theorem T.canP_no {nR H : Nat} {rs : List (Int × Int)} {os : List (Int × Int × Int × Int)} {ps : List (Int × Int × Int × Int × Int)} {s : Nat → Bool} {b0 b1 b2 b3 b4 : Bool} (e0 : s 0 = b0) (e1 : s 1 = b1) (e2 : s 2 = b2) (e3 : s 3 = b3) (e4 : s 4 = b4) (h : ¬ ∃ y, T.Sat T.sHi (T.web nR H rs os ps b0 b1 b2 b3 b4) y) : T.canP nR H rs os ps s = false := by
  subst e0 e1 e2 e3 e4
  rw [Bool.eq_false_iff]
  exact fun q => h (T.canP_iff.1 q)
theorem T.canP_yes {nR H : Nat} {rs : List (Int × Int)} {os : List (Int × Int × Int × Int)} {ps : List (Int × Int × Int × Int × Int)} {s : Nat → Bool} {b0 b1 b2 b3 b4 : Bool} (e0 : s 0 = b0) (e1 : s 1 = b1) (e2 : s 2 = b2) (e3 : s 3 = b3) (e4 : s 4 = b4) (h : ∃ y, T.Sat T.sHi (T.web nR H rs os ps b0 b1 b2 b3 b4) y) : T.canP nR H rs os ps s = true := by
  subst e0 e1 e2 e3 e4
  exact T.canP_iff.2 h
theorem T.ex_wrong : T.few (T.canP 3 3 T.rs0 T.os0 T.ps1) 3 0 = some (T.st (fun _ => false) 1 true) :=
  T.few_one (T.canP_no (b0 := false) (b1 := false) (b2 := false) (b3 := false) (b4 := false) rfl rfl rfl rfl rfl (T.no_without _ _ _ _ _ rfl))
    (T.canP_no (b0 := true) (b1 := false) (b2 := false) (b3 := false) (b4 := false) rfl rfl rfl rfl rfl (T.no_without _ _ _ _ _ rfl))
    (T.canP_yes (b0 := false) (b1 := true) (b2 := false) (b3 := false) (b4 := false) rfl rfl rfl rfl rfl T.with_one)
end Go.Proofs.Ytcmdaiklkdeanaa
