import Derived.Deep.Cut
import Derived.Test.YtcadpdbadgejfaaKnc
/- The law ScaleKnown: its second loop. -/
namespace Go.Proofs.Ytcadpdbadgejfaa
open Go.RowKit
section
variable {f s j dl dh t : Int} {a a' : Option Addr} {n c n' c' : Nat} {xs : List Int} {ls : List (Int × Int × Int)} {w : World}
theorem kn_nE (I : Ints w (.slice a n c) xs) (I' : Lks w (.slice a' n' c') ls) (h : S.bookOk f s j dl dh t xs ls = false) : Calls Try.prog 27 #[BV f s j dl dh t (.slice a n c) (.slice a' n' c'), .int .i64 (-1)] w fun e w' => e = .returned (.tuple #[SpV 0 0, .int .i64 40]) ∧ Up w w' :=
  (Error_any I I' (-1)).mono fun e w' ⟨l, hh, r, he, T, u⟩ => by
    obtain ⟨rfl, rfl, rfl⟩ := T.no h
    exact ⟨he, u⟩
theorem kn_nT (I : Ints w (.slice a n c) xs) (I' : Lks w (.slice a' n' c') ls) (h : S.bookOk f s j dl dh t xs ls = false) : Calls Try.prog 31 #[BV f s j dl dh t (.slice a n c) (.slice a' n' c'), .int .i64 (-1)] w fun e w' => e = .returned (.tuple #[.int .i64 0, .int .i64 40]) ∧ Up w w' :=
  (Stated_any I I' (-1)).mono fun e w' ⟨l, hh, r, he, T, u⟩ => by
    obtain ⟨rfl, rfl, rfl⟩ := T.no h
    exact ⟨by rw [he]; kernel_rfl, u⟩
theorem kn_nW (I : Ints w (.slice a n c) xs) (I' : Lks w (.slice a' n' c') ls) (h : S.bookOk f s j dl dh t xs ls = false) : Calls Try.prog 33 #[BV f s j dl dh t (.slice a n c) (.slice a' n' c')] w fun e w' => e = .returned (.tuple #[.int .i64 0, .int .i64 0, .int .i64 40]) ∧ Up w w' :=
  (Worst_any I I').mono fun e w' ⟨tk, of, r, he, T, u⟩ => by
    obtain ⟨rfl, rfl, rfl⟩ := T.no h
    exact ⟨he, u⟩
theorem kn_nM (I : Ints w (.slice a n c) xs) (I' : Lks w (.slice a' n' c') ls) (h : S.bookOk f s j dl dh t xs ls = false) : Calls Try.prog 35 #[BV f s j dl dh t (.slice a n c) (.slice a' n' c')] w fun e w' => e = .returned (.tuple #[.int .i64 0, .int .i64 0, .int .i64 40]) ∧ Up w w' :=
  (Meets_any I I').mono fun e w' ⟨l, hh, r, T, u, ht⟩ => by
    obtain ⟨rfl, rfl, rfl⟩ := T.no h
    rcases ht with ⟨_, he⟩ | ⟨h1, _⟩
    · exact ⟨he, u⟩
    · omega
theorem kn_nC (I : Ints w (.slice a n c) xs) (I' : Lks w (.slice a' n' c') ls) (h : S.bookOk f s j dl dh t xs ls = false) : Calls Try.prog 29 #[BV f s j dl dh t (.slice a n c) (.slice a' n' c')] w fun e w' => e = .returned (.int .i64 40) ∧ Up w w' :=
  (Check_any I I').mono fun e w' ⟨he, u⟩ => by
    rw [h] at he
    exact ⟨he, u⟩
end
def Kn.Bad (w : World) (q i : Nat) : Prop := ∃ (f s j dl dh t : Int) (a : Option Addr) (n c : Nat) (a' : Option Addr) (n' c' : Nat) (xs : List Int) (ls : List (Int × Int × Int)), (w.cell? ⟨q, i * 8, none⟩ = some (.int .i64 f) ∧ w.cell? ⟨q, i * 8 + 1, none⟩ = some (.int .i64 s) ∧ w.cell? ⟨q, i * 8 + 2, none⟩ = some (.int .i64 j) ∧ w.cell? ⟨q, i * 8 + 3, none⟩ = some (.int .i64 dl) ∧ w.cell? ⟨q, i * 8 + 4, none⟩ = some (.int .i64 dh) ∧ w.cell? ⟨q, i * 8 + 5, none⟩ = some (.int .i64 t) ∧ w.cell? ⟨q, i * 8 + 6, none⟩ = some (.slice a n c) ∧ w.cell? ⟨q, i * 8 + 7, none⟩ = some (.slice a' n' c')) ∧ Ints w (.slice a n c) xs ∧ Lks w (.slice a' n' c') ls ∧ S.bookOk f s j dl dh t xs ls = false

set_option maxRecDepth 1000000 in
set_option maxHeartbeats 4000000 in
set_option linter.unusedSimpArgs false in
theorem kn_tail19 (c0 c1 c2 c3 c4 c5 c6 c7 c8 c9 c10 c11 c12 c14 c15 c16 c17 c18 c19 c20 c21 c22 c23 c24 c25 c26 c27 c28 c29 c30 c31 c32 c33 c34 c35 c36 c37 c38 c39 c40 c41 c42 c43 c44 c45 c46 c47 c48 c49 c50 c51 c52 c53 c54 c55 c56 c57 c58 c59 c60 c61 c62 c63 c64 c65 c66 c67 c68 c69 c70 c71 c72 c73 c74 c75 c76 c77 c78 c79 c80 c81 c82 c83 c84 c85 c86 c87 c88 c89 c90 c91 c92 c93 c94 c95 c96 c97 c98 c99 c100 c101 c102 c103 c104 c105 c106 c107 c108 c109 c110 c111 c112 c113 c114 c115 c116 c117 c118 c119 c120 c121 c122 c123 c124 c125 c126 c127 c128 c129 c130 c131 c132 c133 c134 c135 c136 c137 c138 c139 c140 c141 c142 c143 c144 c145 c146 c147 c148 c149 c150 c151 c152 c153 c154 c155 c156 c157 c158 c159 c160 c161 c162 c163 : Value) {w0 w : World} {q : Nat} (U0 : Up w0 w) (hql : q < w.heap.size) (HB : ∀ i, i < 7 → Kn.Bad w q i) :
    Code.wp Try.prog (Kn.rt 10 Kn.body) (bodyPost Try.prog Try.f15 fun e w' => e = .returned (.bool true) ∧ Up w0 w') ⟨#[c0, c1, c2, c3, c4, c5, c6, c7, c8, c9, c10, c11, c12, (.slice (some ⟨q, 0, none⟩) 7 7), c14, c15, c16, c17, c18, c19, c20, c21, c22, c23, c24, c25, c26, c27, c28, c29, c30, c31, c32, c33, c34, c35, c36, c37, c38, c39, c40, c41, c42, c43, c44, c45, c46, c47, c48, c49, c50, c51, c52, c53, c54, c55, c56, c57, c58, c59, c60, c61, c62, c63, c64, c65, c66, c67, c68, c69, c70, c71, c72, c73, c74, c75, c76, c77, c78, c79, c80, c81, c82, c83, c84, c85, c86, c87, c88, c89, c90, c91, c92, c93, c94, c95, c96, c97, c98, c99, c100, c101, c102, c103, c104, c105, c106, c107, c108, c109, c110, c111, c112, c113, c114, c115, c116, c117, c118, c119, c120, c121, c122, c123, c124, c125, c126, c127, c128, c129, c130, c131, c132, c133, c134, c135, c136, c137, c138, c139, c140, c141, c142, c143, c144, c145, c146, c147, c148, c149, c150, c151, c152, c153, c154, c155, c156, c157, c158, c159, c160, c161, c162, c163, undef, undef, undef, undef, undef, undef, undef, undef, undef, undef, undef, undef, undef, undef, undef, undef, undef, undef, undef, undef, undef, undef, undef, undef, undef, undef, undef, undef, undef, undef, undef, undef, undef, undef, undef, undef, undef, undef, undef, undef, undef, undef, undef, undef, undef, undef, undef, undef, undef, undef, undef, undef, undef, undef, undef, undef, undef, undef, undef, undef, undef, undef, undef, undef, undef, undef, undef, undef, undef, undef, undef, undef, undef, undef, undef, undef, undef, undef, undef, undef, undef, undef, undef, undef, undef, undef, undef, undef, undef, undef, undef, undef, undef, undef, undef, undef, undef, undef, undef, undef, undef, undef, undef, undef, undef, undef, undef, undef, undef, undef, undef, undef, undef, undef, undef, undef, undef, undef, undef, undef, undef, undef, undef, undef, undef, undef, undef, undef, undef, undef, undef, undef, undef, undef, undef, undef, undef, undef, undef, undef, undef, undef, undef, undef, undef, undef, undef, undef, undef, undef, undef, undef, undef, undef, undef, undef, undef, undef, undef, undef, undef, undef, undef, undef, undef, undef, undef, undef, undef, undef, undef, undef, undef, undef, undef, undef, undef, undef, undef, undef, undef, undef, undef, undef, undef, undef, undef, undef, undef, undef, undef, undef, undef, undef, undef, undef, undef, undef, undef, undef, undef, undef, undef, undef, undef, undef, undef, undef, undef, undef, undef, undef, undef, undef, undef, undef, undef, undef, undef, undef, undef, undef, undef, undef, undef, undef, undef, undef, undef, undef, undef, undef, undef, undef, undef, undef, undef, undef, undef, undef, undef, undef, undef, undef, undef, undef, undef, undef, undef, undef, undef, undef, undef, undef, undef, undef, undef, undef, undef, undef, undef, undef, undef, undef, undef, undef, undef, undef, undef, undef, undef, undef, undef, undef, undef], []⟩ w := by
  replace HB := Lib.hid HB
  have HU := Lib.hid U0
  clear U0
  conv => arg 2; whnf
  go_wp2_with fail
  go_loopw [14] (fun iv wr => ∃ j : Nat, j ≤ 7 ∧ iv = .int .i64 j ∧ Up w wr) (fun iv _ => 7 - (intOf iv).toNat)
  case atStart => exact ⟨0, by omega, rfl, Up.refl _⟩
  case round =>
  obtain ⟨m, hj, rfl, V⟩ := hrel
  by_cases hlt : m < 7
  · obtain ⟨f, s, j, dl, dh, t, a, n, c, a', n', c', xs, ls, ⟨q0, q1, q2, q3, q4, q5, q6, q7⟩, I, L, hv⟩ := HB.out m hlt
    have HQ := Lib.hid (fun w' (u : Up w w') => show w'.cell? ⟨q, m * 8, none⟩ = some (.int .i64 f) ∧ w'.cell? ⟨q, m * 8 + 1, none⟩ = some (.int .i64 s) ∧ w'.cell? ⟨q, m * 8 + 2, none⟩ = some (.int .i64 j) ∧ w'.cell? ⟨q, m * 8 + 3, none⟩ = some (.int .i64 dl) ∧ w'.cell? ⟨q, m * 8 + 4, none⟩ = some (.int .i64 dh) ∧ w'.cell? ⟨q, m * 8 + 5, none⟩ = some (.int .i64 t) ∧ w'.cell? ⟨q, m * 8 + 6, none⟩ = some (.slice a n c) ∧ w'.cell? ⟨q, m * 8 + 7, none⟩ = some (.slice a' n' c') from ⟨(u.facts.1 q _ hql).trans q0, (u.facts.1 q _ hql).trans q1, (u.facts.1 q _ hql).trans q2, (u.facts.1 q _ hql).trans q3, (u.facts.1 q _ hql).trans q4, (u.facts.1 q _ hql).trans q5, (u.facts.1 q _ hql).trans q6, (u.facts.1 q _ hql).trans q7⟩)
    have HI := Lib.hid (fun w' (u : Up w w') => I.up u)
    have HL := Lib.hid (fun w' (u : Up w w') => L.up u)
    have HV := Lib.hid hv
    have HJ := Lib.hid (show m + 1 ≤ 7 from hlt)
    clear q0 q1 q2 q3 q4 q5 q6 q7 hv HB HU I L
    obtain ⟨q0, q1, q2, q3, q4, q5, q6, q7⟩ := HQ.out _ V
    go_wp2_with fail
    refine (kn_nE (HI.out _ V) (HL.out _ V) HV.out).mono ?_
    rintro e x1 ⟨rfl, u1⟩
    have V1 := (V.trans u1).alloc (.cells #[.int .i64 0, .int .i64 0] 23)
    clear u1 V q0 q1 q2 q3 q4 q5 q6 q7
    obtain ⟨q0, q1, q2, q3, q4, q5, q6, q7⟩ := HQ.out _ V1
    go_wp2_with fail
    refine (kn_nT (HI.out _ V1) (HL.out _ V1) HV.out).mono ?_
    rintro e x2 ⟨rfl, u2⟩
    have V2 := V1.trans u2
    clear u2 V1 q0 q1 q2 q3 q4 q5 q6 q7
    obtain ⟨q0, q1, q2, q3, q4, q5, q6, q7⟩ := HQ.out _ V2
    go_wp2_with fail
    refine (kn_nW (HI.out _ V2) (HL.out _ V2) HV.out).mono ?_
    rintro e x3 ⟨rfl, u3⟩
    have V3 := V2.trans u3
    clear u3 V2 q0 q1 q2 q3 q4 q5 q6 q7
    obtain ⟨q0, q1, q2, q3, q4, q5, q6, q7⟩ := HQ.out _ V3
    go_wp2_with fail
    refine (kn_nM (HI.out _ V3) (HL.out _ V3) HV.out).mono ?_
    rintro e x4 ⟨rfl, u4⟩
    have V4 := V3.trans u4
    clear u4 V3 q0 q1 q2 q3 q4 q5 q6 q7
    obtain ⟨q0, q1, q2, q3, q4, q5, q6, q7⟩ := HQ.out _ V4
    go_wp2_with fail
    refine (kn_nC (HI.out _ V4) (HL.out _ V4) HV.out).mono ?_
    rintro e x5 ⟨rfl, u5⟩
    have V5 := V4.trans u5
    clear u5 V4 q0 q1 q2 q3 q4 q5 q6 q7
    go_wp2
    go_roundw
    case rel => exact ⟨m + 1, HJ.out, by go_num, V5⟩
    case measure => have := HJ.out; simp [intOf]; omega
  · have n9 : ¬ ((m : Int) < 7) := by omega
    have A := HU.out.trans V
    clear V HB hj hlt hql HU
    go_upto_if 167 with (fail)
    go_step
    go_step
    go_step
    go_step
    go_step
    go_step
    exact kn_tail28 _ _ _ _ _ _ _ _ _ _ _ _ _ _ _ _ _ _ _ _ _ _ _ _ _ _ _ _ _ _ _ _ _ _ _ _ _ _ _ _ _ _ _ _ _ _ _ _ _ _ _ _ _ _ _ _ _ _ _ _ _ _ _ _ _ _ _ _ _ _ _ _ _ _ _ _ _ _ _ _ _ _ _ _ _ _ _ _ _ _ _ _ _ _ _ _ _ _ _ _ _ _ _ _ _ _ _ _ _ _ _ _ _ _ _ _ _ _ _ _ _ _ _ _ _ _ _ _ _ _ _ _ _ _ _ _ _ _ _ _ _ _ _ _ _ _ _ _ _ _ _ _ _ _ _ _ _ _ _ _ _ _ _ _ _ _ _ _ _ _ _ _ _ _ _ _ _ _ _ _ _ _ _ _ _ _ _ _ _ _ _ _ _ _ _ _ _ _ _ _ _ _ _ _ _ _ _ _ _ _ _ _ _ _ _ _ _ _ _ _ _ _ _ _ _ _ A

end Go.Proofs.Ytcadpdbadgejfaa
