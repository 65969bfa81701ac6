import Derived.Deep.Cut
import Derived.Test.YtcadpdbadgejfaaKna
import Derived.Test.YtcadpdbadgejfaaKnb
/- The law ScaleKnown: regions 28 to 40. -/
namespace Go.Proofs.Ytcadpdbadgejfaa
open Go.RowKit
set_option maxRecDepth 1000000 in
set_option maxHeartbeats 4000000 in
set_option linter.unusedSimpArgs false in
theorem kn_tail28 (c0 c1 c2 c3 c4 c5 c6 c7 c8 c9 c10 c11 c12 c13 c14 c15 c16 c17 c18 c19 c20 c21 c22 c23 c24 c25 c26 c27 c28 c29 c30 c31 c32 c33 c34 c35 c36 c37 c38 c39 c40 c41 c42 c43 c44 c45 c46 c47 c48 c49 c50 c51 c52 c53 c54 c55 c56 c57 c58 c59 c60 c61 c62 c63 c64 c65 c66 c67 c68 c69 c70 c71 c72 c73 c74 c75 c76 c77 c78 c79 c80 c81 c82 c83 c84 c85 c86 c87 c88 c89 c90 c91 c92 c93 c94 c95 c96 c97 c98 c99 c100 c101 c102 c103 c104 c105 c106 c107 c108 c109 c110 c111 c112 c113 c114 c115 c116 c117 c118 c119 c120 c121 c122 c123 c124 c125 c126 c127 c128 c129 c130 c131 c132 c133 c134 c135 c136 c137 c138 c139 c140 c141 c142 c143 c144 c145 c146 c147 c148 c149 c150 c151 c152 c153 c154 c155 c156 c157 c158 c159 c160 c161 c162 c163 c164 c165 c166 c167 c168 c169 c170 c171 c172 c173 c174 c175 c176 c177 c178 c179 c180 c181 c182 c183 c184 c185 c186 c187 c188 c189 c190 c191 c192 c193 c194 c195 c196 c197 c198 c199 c200 c201 c202 c203 c204 c205 c206 c207 c208 c209 c210 c211 c212 c213 c214 c215 c216 c217 c218 c219 c220 c221 c222 c223 c224 c225 : Value) {w0 w : World} (U0 : Up w0 w) : Code.wp Try.prog (Kn.rt 11 Kn.body) (bodyPost Try.prog Try.f15 fun e w' => e = .returned (.bool true) ∧ Up w0 w') ⟨#[c0, c1, c2, c3, c4, c5, c6, c7, c8, c9, c10, c11, c12, c13, c14, c15, c16, c17, c18, c19, c20, c21, c22, c23, c24, c25, c26, c27, c28, c29, c30, c31, c32, c33, c34, c35, c36, c37, c38, c39, c40, c41, c42, c43, c44, c45, c46, c47, c48, c49, c50, c51, c52, c53, c54, c55, c56, c57, c58, c59, c60, c61, c62, c63, c64, c65, c66, c67, c68, c69, c70, c71, c72, c73, c74, c75, c76, c77, c78, c79, c80, c81, c82, c83, c84, c85, c86, c87, c88, c89, c90, c91, c92, c93, c94, c95, c96, c97, c98, c99, c100, c101, c102, c103, c104, c105, c106, c107, c108, c109, c110, c111, c112, c113, c114, c115, c116, c117, c118, c119, c120, c121, c122, c123, c124, c125, c126, c127, c128, c129, c130, c131, c132, c133, c134, c135, c136, c137, c138, c139, c140, c141, c142, c143, c144, c145, c146, c147, c148, c149, c150, c151, c152, c153, c154, c155, c156, c157, c158, c159, c160, c161, c162, c163, c164, c165, c166, c167, c168, c169, c170, c171, c172, c173, c174, c175, c176, c177, c178, c179, c180, c181, c182, c183, c184, c185, c186, c187, c188, c189, c190, c191, c192, c193, c194, c195, c196, c197, c198, c199, c200, c201, c202, c203, c204, c205, c206, c207, c208, c209, c210, c211, c212, c213, c214, c215, c216, c217, c218, c219, c220, c221, c222, c223, c224, c225, undef, undef, undef, undef, undef, undef, undef, undef, undef, undef, undef, undef, undef, undef, undef, undef, undef, undef, undef, undef, undef, undef, undef, undef, undef, undef, undef, undef, undef, undef, undef, undef, undef, undef, undef, undef, undef, undef, undef, undef, undef, undef, undef, undef, undef, undef, undef, undef, undef, undef, undef, undef, undef, undef, undef, undef, undef, undef, undef, undef, undef, undef, undef, undef, undef, undef, undef, undef, undef, undef, undef, undef, undef, undef, undef, undef, undef, undef, undef, undef, undef, undef, undef, undef, undef, undef, undef, undef, undef, undef, undef, undef, undef, undef, undef, undef, undef, undef, undef, undef, undef, undef, undef, undef, undef, undef, undef, undef, undef, undef, undef, undef, undef, undef, undef, undef, undef, undef, undef, undef, undef, undef, undef, undef, undef, undef, undef, undef, undef, undef, undef, undef, undef, undef, undef, undef, undef, undef, undef, undef, undef, undef, undef, undef, undef, undef, undef, undef, undef, undef, undef, undef, undef, undef, undef, undef, undef, undef, undef, undef, undef, undef, undef, undef, undef, undef, undef, undef, undef, undef, undef, undef, undef, undef, undef, undef, undef, undef, undef, undef, undef, undef, undef, undef, undef, undef, undef, undef, undef, undef, undef, undef, undef, undef, undef, undef, undef, undef, undef, undef, undef, undef, undef, undef, undef, undef, undef, undef, undef, undef, undef, undef, undef], []⟩ w := by
  have HTo := Lib.hid (fun w => B_To_any 20 30 w)
  have HRu := Lib.hid (fun w => l_rule_any w)
  have HV := Lib.hid U0
  have UU := Up.refl w
  clear U0
  conv => arg 2; whnf
  go_wp2_with fail
  refine (HTo.out _).mono ?_
  rintro e w1 ⟨rfl, u⟩
  have bq := blk_new w1 (.cells #[.int .i64 3, .int .i64 20, .int .i64 30] 71) _ rfl
  replace UU := (UU.trans u).alloc (.cells #[.int .i64 3, .int .i64 20, .int .i64 30] 71)
  clear u
  go_wp2_with fail
  refine (l_book_one bq).mono ?_
  rintro e w2 ⟨g, ra, rc, rfl, u, I, L⟩
  have HU := Lib.hid (UU.trans u)
  have HI := Lib.hid (fun w' (u : Up w2 w') => I.up u)
  have HL := Lib.hid (fun w' (u : Up w2 w') => L.up u)
  have m25 := blk_new w2 (.cells (BC 10 5 4 (-1) 2 10 (.slice (some ⟨g, 0, none⟩) 3 3) (.slice ra 3 rc)) 44) _ rfl
  have A := Up.alloc (Up.refl w2) (.cells (BC 10 5 4 (-1) 2 10 (.slice (some ⟨g, 0, none⟩) 3 3) (.slice ra 3 rc)) 44)
  clear UU u I L bq HTo
  go_wp2_with fail
  obtain ⟨p25, hp⟩ : ∃ q, w2.heap.size = q := ⟨_, rfl⟩
  obtain ⟨W2, hW⟩ : ∃ W, w2.alloc (.cells (BC 10 5 4 (-1) 2 10 (.slice (some ⟨g, 0, none⟩) 3 3) (.slice ra 3 rc)) 44) = W := ⟨_, rfl⟩
  rw [hp] at m25
  rw [hW] at m25 A
  try rw [hW]
  try rw [hp]
  clear hW hp
  refine (kn_E2 (HI.out _ A) (HL.out _ A)).mono ?_
  rintro e w3 ⟨rfl, u⟩
  replace m25 := blk_keep (.cells #[.int .i64 0, .int .i64 0] 23) (u.blk m25)
  replace A := (A.trans u).alloc (.cells #[.int .i64 0, .int .i64 0] 23)
  clear u
  go_wp2_with fail
  refine (kn_T2 (HI.out _ A) (HL.out _ A)).mono ?_
  rintro e w4 ⟨rfl, u⟩
  replace m25 := u.blk m25
  replace A := A.trans u
  clear u
  go_wp2_with fail
  refine (kn_W2 (HI.out _ A) (HL.out _ A)).mono ?_
  rintro e w5 ⟨rfl, u⟩
  replace m25 := u.blk m25
  replace A := A.trans u
  clear u
  go_wp2_with fail
  refine (kn_M2 (HI.out _ A) (HL.out _ A)).mono ?_
  rintro e w6 ⟨rfl, u⟩
  replace m25 := u.blk m25
  replace A := A.trans u
  clear u
  go_wp2_with fail
  refine (kn_E3 (HI.out _ A) (HL.out _ A)).mono ?_
  rintro e w7 ⟨rfl, u⟩
  replace A := (A.trans u).alloc (.cells #[.int .i64 0, .int .i64 0] 23)
  clear u
  clear m25 HI HL
  go_wp2_with fail
  refine (l_book_nil _).mono ?_
  rintro e w8 ⟨gb, gl, rfl, u, IS, IL⟩
  replace A := A.trans u
  clear u
  go_wp2_with fail
  refine (kn_T3 IS IL).mono ?_
  rintro e w9 ⟨rfl, u⟩
  replace A := A.trans u
  clear u
  clear IS IL
  go_wp2_with fail
  refine (HRu.out _).mono ?_
  rintro e w10 ⟨rfl, u⟩
  replace A := A.trans u
  clear u
  go_wp2_with fail
  refine (Reach_ask _ exRule 201 (by omega)).mono ?_
  rintro e w11 ⟨rfl, u⟩
  replace A := (A.trans u).alloc (.cells #[.int .i64 0, .int .i64 0] 23)
  clear u
  go_wp2_with fail
  refine (HRu.out _).mono ?_
  rintro e w12 ⟨rfl, u⟩
  replace A := A.trans u
  clear u
  go_wp2_with fail
  refine (Fewest_ask _ exRule 20001 (by omega)).mono ?_
  rintro e w13 ⟨rfl, u⟩
  replace A := A.trans u
  clear u
  go_wp2_with fail
  refine (HRu.out _).mono ?_
  rintro e w14 ⟨rfl, u⟩
  replace A := A.trans u
  clear u
  go_wp2_with fail
  refine (Shown_ask1 _ exRule 10000001 (by omega)).mono ?_
  rintro e w15 ⟨rfl, u⟩
  replace A := A.trans u
  clear u
  go_wp2_with fail
  refine (HRu.out _).mono ?_
  rintro e w16 ⟨rfl, u⟩
  replace A := A.trans u
  clear u
  have I5 := ints_lit (w := w16) (xs := [5]) (cs := #[.int .i64 5]) w16.heap.size rfl (by decide) (fun j hj => by
    have : j = 0 := by have : j < 1 := hj; omega
    subst this
    rfl)
  replace A := A.alloc (.cells #[.int .i64 5] 3)
  go_wp2_with fail
  refine (kn_S2 I5).mono ?_
  rintro e w17 ⟨rfl, u⟩
  replace A := A.trans u
  clear u
  clear I5 HRu
  replace A := HV.out.trans (HU.out.trans A)
  clear HV HU
  go_upto_if 320 with (fail)
  go_step
  go_step
  go_step
  go_step
  exact kn_tail41 _ _ _ _ _ _ _ _ _ _ _ _ _ _ _ _ _ _ _ _ _ _ _ _ _ _ _ _ _ _ _ _ _ _ _ _ _ _ _ _ _ _ _ _ _ _ _ _ _ _ _ _ _ _ _ _ _ _ _ _ _ _ _ _ _ _ _ _ _ _ _ _ _ _ _ _ _ _ _ _ _ _ _ _ _ _ _ _ _ _ _ _ _ _ _ _ _ _ _ _ _ _ _ _ _ _ _ _ _ _ _ _ _ _ _ _ _ _ _ _ _ _ _ _ _ _ _ _ _ _ _ _ _ _ _ _ _ _ _ _ _ _ _ _ _ _ _ _ _ _ _ _ _ _ _ _ _ _ _ _ _ _ _ _ _ _ _ _ _ _ _ _ _ _ _ _ _ _ _ _ _ _ _ _ _ _ _ _ _ _ _ _ _ _ _ _ _ _ _ _ _ _ _ _ _ _ _ _ _ _ _ _ _ _ _ _ _ _ _ _ _ _ _ _ _ _ _ _ _ _ _ _ _ _ _ _ _ _ _ _ _ _ _ _ _ _ _ _ _ _ _ _ _ _ _ _ _ _ _ _ _ _ _ _ _ _ _ _ _ _ _ _ _ _ _ _ _ _ _ _ _ _ _ _ _ _ _ _ _ _ _ _ _ _ _ _ _ _ _ _ _ _ _ _ _ _ _ _ _ _ _ _ _ _ _ _ _ _ _ _ _ A

end Go.Proofs.Ytcadpdbadgejfaa
