import Derived.Deep.Cut
import Derived.Test.YtcmdaiklkdeanaaKnb
/- The law BeatKnown: its loop. -/
namespace Go.Proofs.Ytcmdaiklkdeanaa
open Go.RowKit Go.Shelf
attribute [local go_sem] Oper.semAt_some
set_option maxRecDepth 1000000 in
set_option maxHeartbeats 8000000 in
set_option linter.unusedSimpArgs false in
theorem kn_tail11 (c0 c2 c3 c4 c5 c6 c7 c8 c9 c10 c11 c12 c13 c14 c15 c16 c17 c18 c19 c20 c21 c22 c23 c24 c25 c26 c27 c28 c29 c30 c31 c32 c33 c34 c35 c36 c37 c38 c39 c40 c41 c42 c43 c44 c45 c46 c47 c48 c49 c50 c51 c52 c53 c54 c55 c56 c57 c58 c59 c60 c61 c62 c63 c64 c65 c66 c67 c68 c69 c70 c71 c72 c73 c74 c75 c76 c77 c78 c79 c80 c81 c82 c83 c84 c85 c86 c87 c88 c89 c90 c91 c92 c93 c94 c95 c96 c97 c98 c99 c100 c101 c102 c103 c104 c105 c106 : Value) {w0 w : World} {q : Nat} (hql : q < w.heap.size) (HB : ∀ i, i < 10 → Kn.Bad w q i) (U : Up w0 w) : Code.wp Try.prog (Kn.rt 11 Kn.body) (bodyPost Try.prog Try.f14 fun e w' => e = .returned (.bool true) ∧ Up w0 w') ⟨#[c0, (.slice (some ⟨q, 0, none⟩) 10 10), c2, c3, c4, c5, c6, c7, c8, c9, c10, c11, c12, c13, c14, c15, c16, c17, c18, c19, c20, c21, c22, c23, c24, c25, c26, c27, c28, c29, c30, c31, c32, c33, c34, c35, c36, c37, c38, c39, c40, c41, c42, c43, c44, c45, c46, c47, c48, c49, c50, c51, c52, c53, c54, c55, c56, c57, c58, c59, c60, c61, c62, c63, c64, c65, c66, c67, c68, c69, c70, c71, c72, c73, c74, c75, c76, c77, c78, c79, c80, c81, c82, c83, c84, c85, c86, c87, c88, c89, c90, c91, c92, c93, c94, c95, c96, c97, c98, c99, c100, c101, c102, c103, c104, c105, c106, undef, undef, undef, undef, undef, undef, undef, undef, undef, undef, undef, undef, undef, undef, undef, undef, undef, undef, undef, undef, undef, undef, undef, undef, undef, undef, undef, undef, undef, undef, undef, undef, undef, undef, undef, undef, undef, undef, undef, undef, undef, undef, undef, undef, undef, undef, undef, undef, undef, undef, undef, undef, undef, undef, undef, undef, undef, undef, undef, undef, undef, undef, undef, undef, undef, undef, undef, undef, undef, undef, undef, undef, undef, undef, undef, undef, undef, undef, undef, undef, undef, undef, undef, undef, undef, undef, undef, undef, undef, undef, undef, undef, undef, undef, undef, undef, undef, undef, undef, undef, undef, undef, undef, undef, undef, undef, undef, undef, undef, undef, undef, undef, undef, undef, undef, undef, undef, undef, undef, undef, undef, undef, undef, undef, undef, undef, undef, undef, undef, undef, undef, undef, undef, undef, undef, undef, undef, undef, undef, undef, undef, undef, undef, undef, undef, undef, undef, undef, undef, undef, undef, undef, undef, undef, undef, undef, undef, undef, undef, undef, undef, undef, undef, undef, undef, undef, undef, undef, undef, undef, undef, undef, undef, undef, undef, undef, undef, undef, undef, undef, undef, undef, undef, undef, undef, undef, undef, undef, undef, undef, undef, undef, undef, undef, undef, undef, undef, undef, undef, undef, undef, undef, undef, undef, undef, undef, undef, undef, undef, undef, undef, undef, undef, undef, undef, undef, undef, undef, undef, undef, undef, undef, undef, undef, undef, undef, undef, undef, undef, undef, undef, undef, undef, undef, undef, undef, undef, undef, undef, undef, undef, undef, undef, undef, undef, undef, undef, undef, undef, undef, undef, undef, undef, undef, undef, undef, undef, undef, undef, undef, undef, undef, undef, undef, undef, undef, undef, undef, undef, undef, undef, undef, undef, undef, undef, undef, undef, undef, undef, undef, undef, undef, undef, undef, undef, undef, undef, undef, undef, undef, undef, undef, undef, undef, undef, undef, undef, undef, undef, undef, undef, undef, undef, undef, undef, undef, undef, undef, undef, undef, undef, undef, undef, undef, undef, undef, undef, undef, undef, undef, undef, undef, undef, undef, undef, undef, undef, undef, undef, undef, undef, undef, undef, undef, undef, undef, undef, undef, undef, undef, undef, undef, undef, undef, undef, undef, undef, undef], []⟩ w := by
  replace HB := Lib.hid HB
  have HU := Lib.hid U
  clear U
  conv => arg 2; whnf
  go_wp2_with fail
  go_loopw [2] (fun iv wr => ∃ j : Nat, j ≤ 10 ∧ iv = .int .i64 j ∧ Up w wr) (fun iv _ => 10 - (intOf iv).toNat)
  case atStart => exact ⟨0, by omega, rfl, Up.refl _⟩
  case round =>
  obtain ⟨m, hj, rfl, V⟩ := hrel
  by_cases hlt : m < 10
  · obtain ⟨Hi, aR, nR, cR, aO, nO, cO, aP, nP, cP, rs, os, ps, ⟨q0, q1, q2, q3⟩, I, J, K, hv⟩ := HB.out m hlt
    have HQ := Lib.hid (fun w' (u : Up w w') => show w'.cell? ⟨q, m * 4, none⟩ = some (.int .i64 Hi) ∧ w'.cell? ⟨q, m * 4 + 1, none⟩ = some (.slice aR nR cR) ∧ w'.cell? ⟨q, m * 4 + 2, none⟩ = some (.slice aO nO cO) ∧ w'.cell? ⟨q, m * 4 + 3, none⟩ = some (.slice aP nP cP) from ⟨(u.facts.1 q _ hql).trans q0, (u.facts.1 q _ hql).trans q1, (u.facts.1 q _ hql).trans q2, (u.facts.1 q _ hql).trans q3⟩)
    have HI := Lib.hid (fun w' (u : Up w w') => I.up u)
    have HO := Lib.hid (fun w' (u : Up w w') => J.up u)
    have HP := Lib.hid (fun w' (u : Up w w') => K.up u)
    have HV := Lib.hid hv
    have HJ := Lib.hid (show m + 1 ≤ 10 from hlt)
    clear q0 q1 q2 q3 hv HB HU I J K
    obtain ⟨q0, q1, q2, q3⟩ := HQ.out _ V
    go_wp2_with fail
    refine (kn_nI (HI.out _ V) (HO.out _ V) (HP.out _ V) HV.out).mono ?_
    rintro e x1 ⟨rfl, u1⟩
    have V1 := V.trans u1
    clear u1 V q0 q1 q2 q3
    obtain ⟨q0, q1, q2, q3⟩ := HQ.out _ V1
    go_wp2_with fail
    refine (kn_nO (HI.out _ V1) (HO.out _ V1) (HP.out _ V1) HV.out).mono ?_
    rintro e x2 ⟨rfl, u2⟩
    have V2 := (V1.trans u2).alloc (.cells #[.int .i64 0, .int .i64 0] 34)
    clear u2 V1 q0 q1 q2 q3
    obtain ⟨q0, q1, q2, q3⟩ := HQ.out _ V2
    go_wp2_with fail
    refine (kn_nA (HI.out _ V2) (HO.out _ V2) (HP.out _ V2) HV.out).mono ?_
    rintro e x3 ⟨rfl, u3⟩
    have V3 := (V2.trans u3).alloc (.cells #[.int .i64 0, .int .i64 0] 34)
    clear u3 V2 q0 q1 q2 q3
    obtain ⟨q0, q1, q2, q3⟩ := HQ.out _ V3
    go_wp2_with fail
    refine (kn_nD (HI.out _ V3) (HO.out _ V3) (HP.out _ V3) HV.out).mono ?_
    rintro e x4 ⟨rfl, u4⟩
    have V4 := (V3.trans u4).alloc (.cells #[.int .i64 0, .int .i64 0] 34)
    clear u4 V3 q0 q1 q2 q3
    obtain ⟨q0, q1, q2, q3⟩ := HQ.out _ V4
    go_wp2_with fail
    refine (kn_nC (HI.out _ V4) (HO.out _ V4) (HP.out _ V4) HV.out).mono ?_
    rintro e x5 ⟨rfl, u5⟩
    have V5 := V4.trans u5
    clear u5 V4 q0 q1 q2 q3
    obtain ⟨q0, q1, q2, q3⟩ := HQ.out _ V5
    go_wp2_with fail
    refine (kn_nW (HI.out _ V5) (HO.out _ V5) (HP.out _ V5) HV.out).mono ?_
    rintro e x6 ⟨rfl, u6⟩
    have V6 := V5.trans u6
    clear u6 V5 q0 q1 q2 q3
    obtain ⟨q0, q1, q2, q3⟩ := HQ.out _ V6
    go_wp2_with fail
    refine (kn_nB (HI.out _ V6) (HO.out _ V6) (HP.out _ V6) HV.out).mono ?_
    rintro e x7 ⟨rfl, u7⟩
    have V7 := V6.trans u7
    clear u7 V6 q0 q1 q2 q3
    obtain ⟨q0, q1, q2, q3⟩ := HQ.out _ V7
    go_wp2_with fail
    refine (kn_nK (HI.out _ V7) (HO.out _ V7) (HP.out _ V7) HV.out).mono ?_
    rintro e x8 ⟨rfl, u8⟩
    have V8 := V7.trans u8
    clear u8 V7 q0 q1 q2 q3
    go_wp2
    go_roundw
    case rel => exact ⟨m + 1, HJ.out, by go_num, V8⟩
    case measure => have := HJ.out; simp [intOf]; omega
  · have n9 : ¬ ((m : Int) < 10) := by omega
    have A := HU.out.trans V
    clear V HB hj hlt hql HU
    go_upto_if 110 with (fail)
    go_step
    go_step
    go_step
    go_step
    go_step
    go_step
    exact kn_tail12 _ _ _ _ _ _ _ _ _ _ _ _ _ _ _ _ _ _ _ _ _ _ _ _ _ _ _ _ _ _ _ _ _ _ _ _ _ _ _ _ _ _ _ _ _ _ _ _ _ _ _ _ _ _ _ _ _ _ _ _ _ _ _ _ _ _ _ _ _ _ _ _ _ _ _ _ _ _ _ _ _ _ _ _ _ _ _ _ _ _ _ _ _ _ _ _ _ _ _ _ _ _ _ _ _ _ _ _ _ _ _ _ _ _ _ _ _ _ _ _ _ _ _ _ _ _ _ _ _ _ _ _ _ _ _ _ _ _ _ _ _ _ _ _ _ _ _ _ _ _ _ _ _ _ _ _ _ _ _ _ _ _ _ _ _ _ _ _ _ _ _ _ _ _ _ _ _ _ _ _ _ _ _ _ _ _ _ _ _ _ _ _ _ _ _ _ _ _ _ _ _ _ _ _ _ A

end Go.Proofs.Ytcmdaiklkdeanaa
