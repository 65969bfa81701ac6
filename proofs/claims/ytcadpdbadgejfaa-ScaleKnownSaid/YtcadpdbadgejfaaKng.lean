import Derived.Deep.Cut
import Derived.Test.YtcadpdbadgejfaaKnf
/- The law ScaleKnown. -/
namespace Go.Proofs.Ytcadpdbadgejfaa
open Go.RowKit
theorem kn_wrong {w : World} {q : Nat} (h : mblk w q = some (.cells #[.int .i64 0, .int .i64 0, .int .i64 0, .int .i64 0, .int .i64 0, .int .i64 501, .int .i64 0, .int .i64 1, .int .i64 0, .int .i64 0, .int .i64 0, .int .i64 (-1), .int .i64 1, .int .i64 0, .int .i64 0, .int .i64 0, .int .i64 0, .int .i64 501, .int .i64 0, .int .i64 0, .int .i64 0, .int .i64 0, .int .i64 1, .int .i64 0, .int .i64 101, .int .i64 0, .int .i64 0, .int .i64 1, .int .i64 1, .int .i64 0] 25 (0, 0))) : ∀ i : Nat, i < 6 → ∃ f s j dl dh : Int, w.cell? ⟨q, i * 5, none⟩ = some (.int .i64 f) ∧ w.cell? ⟨q, i * 5 + 1, none⟩ = some (.int .i64 s) ∧ w.cell? ⟨q, i * 5 + 2, none⟩ = some (.int .i64 j) ∧ w.cell? ⟨q, i * 5 + 3, none⟩ = some (.int .i64 dl) ∧ w.cell? ⟨q, i * 5 + 4, none⟩ = some (.int .i64 dh) ∧ S.ok f s j dl dh = false := fun i hi => by
  have : i = 0 ∨ i = 1 ∨ i = 2 ∨ i = 3 ∨ i = 4 ∨ i = 5 := by omega
  rcases this with rfl | rfl | rfl | rfl | rfl | rfl
  · exact ⟨0, 0, 0, 0, 0, by rw [cellB h]; rfl, by rw [cellB h]; rfl, by rw [cellB h]; rfl, by rw [cellB h]; rfl, by rw [cellB h]; rfl, by kernel_rfl⟩
  · exact ⟨501, 0, 1, 0, 0, by rw [cellB h]; rfl, by rw [cellB h]; rfl, by rw [cellB h]; rfl, by rw [cellB h]; rfl, by rw [cellB h]; rfl, by kernel_rfl⟩
  · exact ⟨0, (-1), 1, 0, 0, by rw [cellB h]; rfl, by rw [cellB h]; rfl, by rw [cellB h]; rfl, by rw [cellB h]; rfl, by rw [cellB h]; rfl, by kernel_rfl⟩
  · exact ⟨0, 0, 501, 0, 0, by rw [cellB h]; rfl, by rw [cellB h]; rfl, by rw [cellB h]; rfl, by rw [cellB h]; rfl, by rw [cellB h]; rfl, by kernel_rfl⟩
  · exact ⟨0, 0, 1, 0, 101, by rw [cellB h]; rfl, by rw [cellB h]; rfl, by rw [cellB h]; rfl, by rw [cellB h]; rfl, by rw [cellB h]; rfl, by kernel_rfl⟩
  · exact ⟨0, 0, 1, 1, 0, by rw [cellB h]; rfl, by rw [cellB h]; rfl, by rw [cellB h]; rfl, by rw [cellB h]; rfl, by rw [cellB h]; rfl, by kernel_rfl⟩

set_option maxRecDepth 1000000 in
set_option maxHeartbeats 4000000 in
set_option linter.unusedSimpArgs false in
theorem scaleKnown_any (w0 : World) : Calls Try.prog 15 #[] w0 fun e w' => e = .returned (.bool true) ∧ Up w0 w' := by
  have HT1 := Lib.hid (fun w => B_To_any 0 101 w)
  have HT2 := Lib.hid (fun w => B_To_any 1 0 w)
  go_enter Try.func15, Try.ntmps15
  go_wp2_with fail
  refine (HT1.out _).mono ?_
  rintro e v1 ⟨rfl, u1⟩
  go_wp2_with fail
  refine (HT2.out _).mono ?_
  rintro e v2 ⟨rfl, u2⟩
  have k0 := blk_new v2 (.cells #[.int .i64 0, .int .i64 0, .int .i64 0, .int .i64 0, .int .i64 0, .int .i64 501, .int .i64 0, .int .i64 1, .int .i64 0, .int .i64 0, .int .i64 0, .int .i64 (-1), .int .i64 1, .int .i64 0, .int .i64 0, .int .i64 0, .int .i64 0, .int .i64 501, .int .i64 0, .int .i64 0, .int .i64 0, .int .i64 0, .int .i64 1, .int .i64 0, .int .i64 101, .int .i64 0, .int .i64 0, .int .i64 1, .int .i64 1, .int .i64 0] 25) _ rfl
  have U0 := (u1.trans u2).alloc (.cells #[.int .i64 0, .int .i64 0, .int .i64 0, .int .i64 0, .int .i64 0, .int .i64 501, .int .i64 0, .int .i64 1, .int .i64 0, .int .i64 0, .int .i64 0, .int .i64 (-1), .int .i64 1, .int .i64 0, .int .i64 0, .int .i64 0, .int .i64 0, .int .i64 501, .int .i64 0, .int .i64 0, .int .i64 0, .int .i64 0, .int .i64 1, .int .i64 0, .int .i64 101, .int .i64 0, .int .i64 0, .int .i64 1, .int .i64 1, .int .i64 0] 25)
  clear u1 u2 HT1 HT2
  go_wp2_with fail
  obtain ⟨q, hq⟩ : ∃ q, v2.heap.size = q := ⟨_, rfl⟩
  obtain ⟨w, hW⟩ : ∃ X, v2.alloc (.cells #[.int .i64 0, .int .i64 0, .int .i64 0, .int .i64 0, .int .i64 0, .int .i64 501, .int .i64 0, .int .i64 1, .int .i64 0, .int .i64 0, .int .i64 0, .int .i64 (-1), .int .i64 1, .int .i64 0, .int .i64 0, .int .i64 0, .int .i64 0, .int .i64 501, .int .i64 0, .int .i64 0, .int .i64 0, .int .i64 0, .int .i64 1, .int .i64 0, .int .i64 101, .int .i64 0, .int .i64 0, .int .i64 1, .int .i64 1, .int .i64 0] 25) = X := ⟨_, rfl⟩
  rw [hq] at k0
  rw [hW] at k0 U0
  rw [hW]
  try rw [hq]
  clear hW hq
  have HB := Lib.hid (kn_wrong k0)
  have hql := blk_lt k0
  have HU := Lib.hid U0
  clear k0 U0
  go_loopw [2] (fun iv wr => ∃ j : Nat, j ≤ 6 ∧ iv = .int .i64 j ∧ Up w wr) (fun iv _ => 6 - (intOf iv).toNat)
  case atStart => exact ⟨0, by omega, rfl, Up.refl _⟩
  case round =>
  obtain ⟨j, hj, rfl, V⟩ := hrel
  by_cases hlt : j < 6
  · obtain ⟨f, s, jk, dl, dh, q0, q1, q2, q3, q4, hv⟩ := HB.out j hlt
    have HQ := Lib.hid (fun w' (u : Up w w') => show w'.cell? ⟨q, j * 5, none⟩ = some (.int .i64 f) ∧ w'.cell? ⟨q, j * 5 + 1, none⟩ = some (.int .i64 s) ∧ w'.cell? ⟨q, j * 5 + 2, none⟩ = some (.int .i64 jk) ∧ w'.cell? ⟨q, j * 5 + 3, none⟩ = some (.int .i64 dl) ∧ w'.cell? ⟨q, j * 5 + 4, none⟩ = some (.int .i64 dh) from ⟨(u.facts.1 q _ hql).trans q0, (u.facts.1 q _ hql).trans q1, (u.facts.1 q _ hql).trans q2, (u.facts.1 q _ hql).trans q3, (u.facts.1 q _ hql).trans q4⟩)
    have HV := Lib.hid hv
    have HJ := Lib.hid (show j + 1 ≤ 6 from hlt)
    clear q0 q1 q2 q3 q4 hv HB HU
    obtain ⟨q0, q1, q2, q3, q4⟩ := HQ.out _ V
    go_wp2_with fail
    refine (IsPlan_no HV.out 20001).mono ?_
    rintro e x1 ⟨rfl, u1⟩
    have V1 := V.trans u1
    clear u1 V q0 q1 q2 q3 q4
    obtain ⟨q0, q1, q2, q3, q4⟩ := HQ.out _ V1
    go_wp2_with fail
    refine (Reach_no _ HV.out (-1)).mono ?_
    rintro e x2 ⟨rfl, u2⟩
    have V2 := (V1.trans u2).alloc (.cells #[.int .i64 0, .int .i64 0] 23)
    clear u2 V1 q0 q1 q2 q3 q4
    obtain ⟨q0, q1, q2, q3, q4⟩ := HQ.out _ V2
    go_wp2_with fail
    refine (Fewest_no _ HV.out 20001).mono ?_
    rintro e x3 ⟨rfl, u3⟩
    have V3 := V2.trans u3
    clear u3 V2 q0 q1 q2 q3 q4
    obtain ⟨q0, q1, q2, q3, q4⟩ := HQ.out _ V3
    go_wp2_with fail
    refine (Plan_no _ HV.out 20001).mono ?_
    rintro e x4 ⟨rfl, u4⟩
    have V4 := V3.trans u4
    clear u4 V3 q0 q1 q2 q3 q4
    obtain ⟨q0, q1, q2, q3, q4⟩ := HQ.out _ V4
    go_wp2_with fail
    refine (Shown_no _ HV.out (-1)).mono ?_
    rintro e x5 ⟨rfl, u5⟩
    have V5 := V4.trans u5
    clear u5 V4 q0 q1 q2 q3 q4
    go_wp2
    go_roundw
    case rel => exact ⟨j + 1, HJ.out, by go_num, V5⟩
    case measure => have := HJ.out; simp [intOf]; omega
  · have n9 : ¬ ((j : Int) < 6) := by omega
    have A := HU.out.trans V
    clear V HB hj hlt hql HU
    go_upto_if 68 with (fail)
    go_step
    go_step
    go_step
    go_step
    go_step
    go_step
    exact kn_tail12 _ _ _ _ _ _ _ _ _ _ _ _ _ _ _ _ _ _ _ _ _ _ _ _ _ _ _ _ _ _ _ _ _ _ _ _ _ _ _ _ _ _ _ _ _ _ _ _ _ _ _ _ _ _ _ _ _ _ _ _ _ _ _ _ _ _ _ _ _ _ _ _ _ _ _ _ _ _ _ _ _ _ _ _ _ _ _ _ _ _ _ _ _ _ _ _ _ _ _ _ _ _ _ _ _ _ _ _ _ _ _ _ _ _ _ _ _ _ _ _ _ _ _ _ _ _ _ _ _ A

end Go.Proofs.Ytcadpdbadgejfaa
