import Derived.Deep.Cut
import Derived.Test.YtlpkheoljbdajaaKna
/- The law StarKnown: regions 35 to 47. -/
namespace Go.Proofs.Ytlpkheoljbdajaa
open Go.RowKit Go.Shelf
attribute [local go_sem] Oper.semAt_some
set_option maxRecDepth 1000000 in
set_option maxHeartbeats 8000000 in
set_option linter.unusedSimpArgs false in
theorem kn_tail17 (c0 c2 c3 c4 c5 c6 c7 c8 c9 c10 c11 c12 c13 c14 c15 c16 c17 c18 c19 c20 c21 c22 c23 c24 c25 c26 c27 c28 c29 c30 c31 c32 c33 c34 c35 c36 c37 c38 c39 c40 c41 c42 c43 c44 c45 c46 c47 c48 c49 c50 c51 c52 c53 c54 c55 c56 c57 c58 c59 c60 c61 c62 c63 c64 c65 c66 c67 c68 c69 c70 c71 c72 c73 c74 c75 c76 c77 c78 c79 c80 c81 c82 c83 c84 c85 c86 c87 c88 c89 c90 c91 c92 c93 c94 c95 c96 c97 c98 c99 c100 c101 c102 c103 c104 c105 c106 c107 c108 c109 c110 c111 c112 c113 c114 c115 c116 c117 c118 c119 c120 c121 c122 c123 c124 c125 c126 c127 c128 c129 c130 c131 c132 c133 c134 c135 c136 c137 c138 c139 c140 c141 c142 c143 c144 c145 c146 c147 c148 c149 c150 c151 c152 c153 c154 c155 c156 c157 c158 c159 c160 c161 c162 c163 c164 c165 c166 c167 c168 c169 c170 c171 c172 c173 c174 c175 c176 c177 c178 c179 c180 c181 c182 c183 c184 c185 c186 c187 c188 c189 c190 c191 c192 c193 c194 c195 c196 c197 c198 c199 c200 c201 c202 c203 c204 c205 c206 c207 c208 c209 c210 c211 c212 c213 c214 c215 c216 c217 c218 c219 c220 c221 c222 c223 c224 c225 c226 c227 c228 c229 c230 c231 c232 c233 c234 c235 c236 c237 c238 c239 c240 c241 c242 c243 c244 c245 c246 c247 c248 c249 c250 c251 c252 c253 c254 c255 c256 c257 c258 c259 c260 c261 c262 c263 c264 c265 c266 c267 c268 c269 c270 c271 c272 c273 c274 c275 c276 c277 c278 c279 c280 c281 c282 c283 c284 c285 c286 c287 c288 c289 c290 c291 c292 c293 c294 : Value) {w0 w : World} {pb : Nat} {aP aQ aL : Option Addr} {cP cQ cL : Nat} (I : Sps w (.slice aP 2 cP) T.ps0) (J : Sps w (.slice aQ 1 cQ) T.qs0) (K : Lks w (.slice aL 4 cL) T.ls0) (mB : mblk w pb = some (.cells (BoC 3 0 100 (-10) 20 (.slice aP 2 cP) (.slice aQ 1 cQ) (.slice aL 4 cL)) 27 (0, 0))) (U : Up w0 w) : Code.wp Try.prog (Kn.rt 17 Kn.body) (bodyPost Try.prog Try.f16 fun e w' => e = .returned (.bool true) ∧ Up w0 w') ⟨#[c0, (.pointer (some ⟨pb, 0, none⟩)), c2, c3, c4, c5, c6, c7, c8, c9, c10, c11, c12, c13, c14, c15, c16, c17, c18, c19, c20, c21, c22, c23, c24, c25, c26, c27, c28, c29, c30, c31, c32, c33, c34, c35, c36, c37, c38, c39, c40, c41, c42, c43, c44, c45, c46, c47, c48, c49, c50, c51, c52, c53, c54, c55, c56, c57, c58, c59, c60, c61, c62, c63, c64, c65, c66, c67, c68, c69, c70, c71, c72, c73, c74, c75, c76, c77, c78, c79, c80, c81, c82, c83, c84, c85, c86, c87, c88, c89, c90, c91, c92, c93, c94, c95, c96, c97, c98, c99, c100, c101, c102, c103, c104, c105, c106, c107, c108, c109, c110, c111, c112, c113, c114, c115, c116, c117, c118, c119, c120, c121, c122, c123, c124, c125, c126, c127, c128, c129, c130, c131, c132, c133, c134, c135, c136, c137, c138, c139, c140, c141, c142, c143, c144, c145, c146, c147, c148, c149, c150, c151, c152, c153, c154, c155, c156, c157, c158, c159, c160, c161, c162, c163, c164, c165, c166, c167, c168, c169, c170, c171, c172, c173, c174, c175, c176, c177, c178, c179, c180, c181, c182, c183, c184, c185, c186, c187, c188, c189, c190, c191, c192, c193, c194, c195, c196, c197, c198, c199, c200, c201, c202, c203, c204, c205, c206, c207, c208, c209, c210, c211, c212, c213, c214, c215, c216, c217, c218, c219, c220, c221, c222, c223, c224, c225, c226, c227, c228, c229, c230, c231, c232, c233, c234, c235, c236, c237, c238, c239, c240, c241, c242, c243, c244, c245, c246, c247, c248, c249, c250, c251, c252, c253, c254, c255, c256, c257, c258, c259, c260, c261, c262, c263, c264, c265, c266, c267, c268, c269, c270, c271, c272, c273, c274, c275, c276, c277, c278, c279, c280, c281, c282, c283, c284, c285, c286, c287, c288, c289, c290, c291, c292, c293, c294, undef, undef, undef, undef, undef, undef, undef, undef, undef, undef, undef, undef, undef, undef, undef, undef, undef, undef, undef, undef, undef, undef, undef, undef, undef, undef, undef, undef, undef, undef, undef, undef, undef, undef, undef, undef, undef, undef, undef, undef, undef, undef, undef, undef, undef, undef, undef, undef, undef, undef, undef, undef, undef, undef, undef, undef, undef, undef, undef, undef, undef, undef, undef, undef, undef, undef, undef, undef, undef, undef, undef, undef, undef, undef, undef, undef, undef, undef, undef, undef, undef, undef, undef, undef, undef, undef, undef, undef, undef, undef, undef, undef, undef, undef, undef, undef, undef, undef, undef, undef, undef, undef, undef, undef, undef, undef, undef, undef, undef, undef, undef, undef, undef, undef, undef, undef, undef, undef, undef, undef, undef, undef, undef, undef, undef, undef, undef, undef, undef, undef, undef, undef, undef, undef, undef, undef, undef, undef, undef, undef, undef, undef, undef, undef, undef, undef, undef, undef, undef, undef, undef, undef, undef, undef, undef, undef, undef, undef, undef, undef, undef, undef, undef, undef, undef, undef, undef, undef, undef, undef, undef, undef, undef, undef, undef, undef, undef, undef, undef, undef, undef, undef, undef, undef, undef, undef, undef, undef, undef, undef, undef, undef, undef, undef, undef, undef, undef, undef, undef, undef, undef, undef, undef, undef, undef, undef, undef, undef, undef, undef, undef, undef, undef, undef, undef, undef, undef, undef], []⟩ w := by
  conv => arg 2; whnf
  go_wp2_with fail
  refine (l_book_nil _).mono ?_
  rintro e x1 ⟨⟨g1, g2, aT, cT, rfl, I2, J2, K2⟩, u2⟩
  replace U := U.trans u2
  replace mB := u2.blk mB
  replace I := I.up u2
  replace J := J.up u2
  replace K := K.up u2
  clear u2 
  have dmBmT := blk_lt mB
  have gmT := U.size
  have mT := blk_new x1 (.cells (BoC 3 0 100 (-10) 20 (.slice (some ⟨g1, 0, none⟩) 2 2) (.slice (some ⟨g2, 0, none⟩) 1 1) (.slice aT 4 cT)) 27) _ rfl
  replace mB := blk_keep (.cells (BoC 3 0 100 (-10) 20 (.slice (some ⟨g1, 0, none⟩) 2 2) (.slice (some ⟨g2, 0, none⟩) 1 1) (.slice aT 4 cT)) 27) mB
  replace U := U.alloc (.cells (BoC 3 0 100 (-10) 20 (.slice (some ⟨g1, 0, none⟩) 2 2) (.slice (some ⟨g2, 0, none⟩) 1 1) (.slice aT 4 cT)) 27)
  replace I := I.up ((Up.refl x1).alloc (.cells (BoC 3 0 100 (-10) 20 (.slice (some ⟨g1, 0, none⟩) 2 2) (.slice (some ⟨g2, 0, none⟩) 1 1) (.slice aT 4 cT)) 27))
  replace J := J.up ((Up.refl x1).alloc (.cells (BoC 3 0 100 (-10) 20 (.slice (some ⟨g1, 0, none⟩) 2 2) (.slice (some ⟨g2, 0, none⟩) 1 1) (.slice aT 4 cT)) 27))
  replace K := K.up ((Up.refl x1).alloc (.cells (BoC 3 0 100 (-10) 20 (.slice (some ⟨g1, 0, none⟩) 2 2) (.slice (some ⟨g2, 0, none⟩) 1 1) (.slice aT 4 cT)) 27))
  replace I2 := I2.up ((Up.refl x1).alloc (.cells (BoC 3 0 100 (-10) 20 (.slice (some ⟨g1, 0, none⟩) 2 2) (.slice (some ⟨g2, 0, none⟩) 1 1) (.slice aT 4 cT)) 27))
  replace J2 := J2.up ((Up.refl x1).alloc (.cells (BoC 3 0 100 (-10) 20 (.slice (some ⟨g1, 0, none⟩) 2 2) (.slice (some ⟨g2, 0, none⟩) 1 1) (.slice aT 4 cT)) 27))
  replace K2 := K2.up ((Up.refl x1).alloc (.cells (BoC 3 0 100 (-10) 20 (.slice (some ⟨g1, 0, none⟩) 2 2) (.slice (some ⟨g2, 0, none⟩) 1 1) (.slice aT 4 cT)) 27))
  go_wp2_with fail
  obtain ⟨pmT, hpmT⟩ : ∃ z, x1.heap.size = z := ⟨_, rfl⟩
  obtain ⟨W3, hW3⟩ : ∃ z, x1.alloc (.cells (BoC 3 0 100 (-10) 20 (.slice (some ⟨g1, 0, none⟩) 2 2) (.slice (some ⟨g2, 0, none⟩) 1 1) (.slice aT 4 cT)) 27) = z := ⟨_, rfl⟩
  rw [hpmT] at mT dmBmT gmT
  rw [hW3] at mT U mB I J K I2 J2 K2
  rw [hW3, hpmT]
  skip
  clear hpmT hW3
  refine (kn_a1 I J K).mono ?_
  rintro e x4 ⟨rfl, u5⟩
  replace U := U.trans u5
  replace mB := u5.blk mB
  replace mT := u5.blk mT
  replace I := I.up u5
  replace J := J.up u5
  replace K := K.up u5
  replace I2 := I2.up u5
  replace J2 := J2.up u5
  replace K2 := K2.up u5
  clear u5 
  have dmBn1 := blk_lt mB
  have dmTn1 := blk_lt mT
  have gn1 := U.size
  have n1 := blk_new x4 (.cells #[.int .i64 0, .int .i64 0] 23) _ rfl
  replace mB := blk_keep (.cells #[.int .i64 0, .int .i64 0] 23) mB
  replace mT := blk_keep (.cells #[.int .i64 0, .int .i64 0] 23) mT
  replace U := U.alloc (.cells #[.int .i64 0, .int .i64 0] 23)
  replace I := I.up ((Up.refl x4).alloc (.cells #[.int .i64 0, .int .i64 0] 23))
  replace J := J.up ((Up.refl x4).alloc (.cells #[.int .i64 0, .int .i64 0] 23))
  replace K := K.up ((Up.refl x4).alloc (.cells #[.int .i64 0, .int .i64 0] 23))
  replace I2 := I2.up ((Up.refl x4).alloc (.cells #[.int .i64 0, .int .i64 0] 23))
  replace J2 := J2.up ((Up.refl x4).alloc (.cells #[.int .i64 0, .int .i64 0] 23))
  replace K2 := K2.up ((Up.refl x4).alloc (.cells #[.int .i64 0, .int .i64 0] 23))
  go_wp2_with fail
  obtain ⟨pn1, hpn1⟩ : ∃ z, x4.heap.size = z := ⟨_, rfl⟩
  obtain ⟨W6, hW6⟩ : ∃ z, x4.alloc (.cells #[.int .i64 0, .int .i64 0] 23) = z := ⟨_, rfl⟩
  rw [hpn1] at n1 dmBn1 dmTn1 gn1
  rw [hW6] at n1 U mB mT I J K I2 J2 K2
  rw [hW6, hpn1]
  skip
  clear hpn1 hW6
  clear n1
  clear dmBn1 dmTn1 gn1
  refine (kn_a2 I J K).mono ?_
  rintro e x7 ⟨rfl, u8⟩
  replace U := U.trans u8
  replace mB := u8.blk mB
  replace mT := u8.blk mT
  replace I := I.up u8
  replace J := J.up u8
  replace K := K.up u8
  replace I2 := I2.up u8
  replace J2 := J2.up u8
  replace K2 := K2.up u8
  clear u8 
  have dmBn2 := blk_lt mB
  have dmTn2 := blk_lt mT
  have gn2 := U.size
  have n2 := blk_new x7 (.cells #[.int .i64 0, .int .i64 0] 23) _ rfl
  replace mB := blk_keep (.cells #[.int .i64 0, .int .i64 0] 23) mB
  replace mT := blk_keep (.cells #[.int .i64 0, .int .i64 0] 23) mT
  replace U := U.alloc (.cells #[.int .i64 0, .int .i64 0] 23)
  replace I := I.up ((Up.refl x7).alloc (.cells #[.int .i64 0, .int .i64 0] 23))
  replace J := J.up ((Up.refl x7).alloc (.cells #[.int .i64 0, .int .i64 0] 23))
  replace K := K.up ((Up.refl x7).alloc (.cells #[.int .i64 0, .int .i64 0] 23))
  replace I2 := I2.up ((Up.refl x7).alloc (.cells #[.int .i64 0, .int .i64 0] 23))
  replace J2 := J2.up ((Up.refl x7).alloc (.cells #[.int .i64 0, .int .i64 0] 23))
  replace K2 := K2.up ((Up.refl x7).alloc (.cells #[.int .i64 0, .int .i64 0] 23))
  go_wp2_with fail
  obtain ⟨pn2, hpn2⟩ : ∃ z, x7.heap.size = z := ⟨_, rfl⟩
  obtain ⟨W9, hW9⟩ : ∃ z, x7.alloc (.cells #[.int .i64 0, .int .i64 0] 23) = z := ⟨_, rfl⟩
  rw [hpn2] at n2 dmBn2 dmTn2 gn2
  rw [hW9] at n2 U mB mT I J K I2 J2 K2
  rw [hW9, hpn2]
  skip
  clear hpn2 hW9
  clear n2
  clear dmBn2 dmTn2 gn2
  refine (kn_a3 I J K).mono ?_
  rintro e x10 ⟨rfl, u11⟩
  replace U := U.trans u11
  replace mB := u11.blk mB
  replace mT := u11.blk mT
  replace I := I.up u11
  replace J := J.up u11
  replace K := K.up u11
  replace I2 := I2.up u11
  replace J2 := J2.up u11
  replace K2 := K2.up u11
  clear u11 
  have dmBn3 := blk_lt mB
  have dmTn3 := blk_lt mT
  have gn3 := U.size
  have n3 := blk_new x10 (.cells #[.int .i64 0, .int .i64 0] 23) _ rfl
  replace mB := blk_keep (.cells #[.int .i64 0, .int .i64 0] 23) mB
  replace mT := blk_keep (.cells #[.int .i64 0, .int .i64 0] 23) mT
  replace U := U.alloc (.cells #[.int .i64 0, .int .i64 0] 23)
  replace I := I.up ((Up.refl x10).alloc (.cells #[.int .i64 0, .int .i64 0] 23))
  replace J := J.up ((Up.refl x10).alloc (.cells #[.int .i64 0, .int .i64 0] 23))
  replace K := K.up ((Up.refl x10).alloc (.cells #[.int .i64 0, .int .i64 0] 23))
  replace I2 := I2.up ((Up.refl x10).alloc (.cells #[.int .i64 0, .int .i64 0] 23))
  replace J2 := J2.up ((Up.refl x10).alloc (.cells #[.int .i64 0, .int .i64 0] 23))
  replace K2 := K2.up ((Up.refl x10).alloc (.cells #[.int .i64 0, .int .i64 0] 23))
  go_wp2_with fail
  obtain ⟨pn3, hpn3⟩ : ∃ z, x10.heap.size = z := ⟨_, rfl⟩
  obtain ⟨W12, hW12⟩ : ∃ z, x10.alloc (.cells #[.int .i64 0, .int .i64 0] 23) = z := ⟨_, rfl⟩
  rw [hpn3] at n3 dmBn3 dmTn3 gn3
  rw [hW12] at n3 U mB mT I J K I2 J2 K2
  rw [hW12, hpn3]
  skip
  clear hpn3 hW12
  clear n3
  clear dmBn3 dmTn3 gn3
  refine (kn_a4 I J K).mono ?_
  rintro e x13 ⟨rfl, u14⟩
  replace U := U.trans u14
  replace mB := u14.blk mB
  replace mT := u14.blk mT
  replace I := I.up u14
  replace J := J.up u14
  replace K := K.up u14
  replace I2 := I2.up u14
  replace J2 := J2.up u14
  replace K2 := K2.up u14
  clear u14 
  have dmBn4 := blk_lt mB
  have dmTn4 := blk_lt mT
  have gn4 := U.size
  have n4 := blk_new x13 (.cells #[.int .i64 0, .int .i64 0] 23) _ rfl
  replace mB := blk_keep (.cells #[.int .i64 0, .int .i64 0] 23) mB
  replace mT := blk_keep (.cells #[.int .i64 0, .int .i64 0] 23) mT
  replace U := U.alloc (.cells #[.int .i64 0, .int .i64 0] 23)
  replace I := I.up ((Up.refl x13).alloc (.cells #[.int .i64 0, .int .i64 0] 23))
  replace J := J.up ((Up.refl x13).alloc (.cells #[.int .i64 0, .int .i64 0] 23))
  replace K := K.up ((Up.refl x13).alloc (.cells #[.int .i64 0, .int .i64 0] 23))
  replace I2 := I2.up ((Up.refl x13).alloc (.cells #[.int .i64 0, .int .i64 0] 23))
  replace J2 := J2.up ((Up.refl x13).alloc (.cells #[.int .i64 0, .int .i64 0] 23))
  replace K2 := K2.up ((Up.refl x13).alloc (.cells #[.int .i64 0, .int .i64 0] 23))
  go_wp2_with fail
  obtain ⟨pn4, hpn4⟩ : ∃ z, x13.heap.size = z := ⟨_, rfl⟩
  obtain ⟨W15, hW15⟩ : ∃ z, x13.alloc (.cells #[.int .i64 0, .int .i64 0] 23) = z := ⟨_, rfl⟩
  rw [hpn4] at n4 dmBn4 dmTn4 gn4
  rw [hW15] at n4 U mB mT I J K I2 J2 K2
  rw [hW15, hpn4]
  skip
  clear hpn4 hW15
  clear n4
  clear dmBn4 dmTn4 gn4
  refine (kn_a5 I2 J2 K2).mono ?_
  rintro e x16 ⟨rfl, u17⟩
  replace U := U.trans u17
  replace mB := u17.blk mB
  replace mT := u17.blk mT
  replace I := I.up u17
  replace J := J.up u17
  replace K := K.up u17
  replace I2 := I2.up u17
  replace J2 := J2.up u17
  replace K2 := K2.up u17
  clear u17 
  have dmBn5 := blk_lt mB
  have dmTn5 := blk_lt mT
  have gn5 := U.size
  have n5 := blk_new x16 (.cells #[.slice none 0 0, .slice none 0 0, .slice none 0 0] 30) _ rfl
  replace mB := blk_keep (.cells #[.slice none 0 0, .slice none 0 0, .slice none 0 0] 30) mB
  replace mT := blk_keep (.cells #[.slice none 0 0, .slice none 0 0, .slice none 0 0] 30) mT
  replace U := U.alloc (.cells #[.slice none 0 0, .slice none 0 0, .slice none 0 0] 30)
  replace I := I.up ((Up.refl x16).alloc (.cells #[.slice none 0 0, .slice none 0 0, .slice none 0 0] 30))
  replace J := J.up ((Up.refl x16).alloc (.cells #[.slice none 0 0, .slice none 0 0, .slice none 0 0] 30))
  replace K := K.up ((Up.refl x16).alloc (.cells #[.slice none 0 0, .slice none 0 0, .slice none 0 0] 30))
  replace I2 := I2.up ((Up.refl x16).alloc (.cells #[.slice none 0 0, .slice none 0 0, .slice none 0 0] 30))
  replace J2 := J2.up ((Up.refl x16).alloc (.cells #[.slice none 0 0, .slice none 0 0, .slice none 0 0] 30))
  replace K2 := K2.up ((Up.refl x16).alloc (.cells #[.slice none 0 0, .slice none 0 0, .slice none 0 0] 30))
  go_wp2_with fail
  obtain ⟨pn5, hpn5⟩ : ∃ z, x16.heap.size = z := ⟨_, rfl⟩
  obtain ⟨W18, hW18⟩ : ∃ z, x16.alloc (.cells #[.slice none 0 0, .slice none 0 0, .slice none 0 0] 30) = z := ⟨_, rfl⟩
  rw [hpn5] at n5 dmBn5 dmTn5 gn5
  rw [hW18] at n5 U mB mT I J K I2 J2 K2
  rw [hW18, hpn5]
  skip
  clear hpn5 hW18
  clear n5
  clear dmBn5 dmTn5 gn5
  refine (kn_f1 I2 J2 K2).mono ?_
  rintro e x19 ⟨rfl, u20⟩
  replace U := U.trans u20
  replace mB := u20.blk mB
  replace mT := u20.blk mT
  replace I := I.up u20
  replace J := J.up u20
  replace K := K.up u20
  replace I2 := I2.up u20
  replace J2 := J2.up u20
  replace K2 := K2.up u20
  clear u20 
  have dmBn6 := blk_lt mB
  have dmTn6 := blk_lt mT
  have gn6 := U.size
  have n6 := blk_new x19 (.cells #[.int .i64 0, .int .i64 0] 23) _ rfl
  replace mB := blk_keep (.cells #[.int .i64 0, .int .i64 0] 23) mB
  replace mT := blk_keep (.cells #[.int .i64 0, .int .i64 0] 23) mT
  replace U := U.alloc (.cells #[.int .i64 0, .int .i64 0] 23)
  replace I := I.up ((Up.refl x19).alloc (.cells #[.int .i64 0, .int .i64 0] 23))
  replace J := J.up ((Up.refl x19).alloc (.cells #[.int .i64 0, .int .i64 0] 23))
  replace K := K.up ((Up.refl x19).alloc (.cells #[.int .i64 0, .int .i64 0] 23))
  replace I2 := I2.up ((Up.refl x19).alloc (.cells #[.int .i64 0, .int .i64 0] 23))
  replace J2 := J2.up ((Up.refl x19).alloc (.cells #[.int .i64 0, .int .i64 0] 23))
  replace K2 := K2.up ((Up.refl x19).alloc (.cells #[.int .i64 0, .int .i64 0] 23))
  go_wp2_with fail
  obtain ⟨pn6, hpn6⟩ : ∃ z, x19.heap.size = z := ⟨_, rfl⟩
  obtain ⟨W21, hW21⟩ : ∃ z, x19.alloc (.cells #[.int .i64 0, .int .i64 0] 23) = z := ⟨_, rfl⟩
  rw [hpn6] at n6 dmBn6 dmTn6 gn6
  rw [hW21] at n6 U mB mT I J K I2 J2 K2
  rw [hW21, hpn6]
  skip
  clear hpn6 hW21
  clear n6
  clear dmBn6 dmTn6 gn6
  refine (kn_f2 I2 J2 K2).mono ?_
  rintro e x22 ⟨rfl, u23⟩
  replace U := U.trans u23
  replace mB := u23.blk mB
  replace mT := u23.blk mT
  replace I := I.up u23
  replace J := J.up u23
  replace K := K.up u23
  replace I2 := I2.up u23
  replace J2 := J2.up u23
  replace K2 := K2.up u23
  clear u23 
  have dmBn7 := blk_lt mB
  have dmTn7 := blk_lt mT
  have gn7 := U.size
  have n7 := blk_new x22 (.cells #[.int .i64 0, .int .i64 0] 23) _ rfl
  replace mB := blk_keep (.cells #[.int .i64 0, .int .i64 0] 23) mB
  replace mT := blk_keep (.cells #[.int .i64 0, .int .i64 0] 23) mT
  replace U := U.alloc (.cells #[.int .i64 0, .int .i64 0] 23)
  replace I := I.up ((Up.refl x22).alloc (.cells #[.int .i64 0, .int .i64 0] 23))
  replace J := J.up ((Up.refl x22).alloc (.cells #[.int .i64 0, .int .i64 0] 23))
  replace K := K.up ((Up.refl x22).alloc (.cells #[.int .i64 0, .int .i64 0] 23))
  replace I2 := I2.up ((Up.refl x22).alloc (.cells #[.int .i64 0, .int .i64 0] 23))
  replace J2 := J2.up ((Up.refl x22).alloc (.cells #[.int .i64 0, .int .i64 0] 23))
  replace K2 := K2.up ((Up.refl x22).alloc (.cells #[.int .i64 0, .int .i64 0] 23))
  go_wp2_with fail
  obtain ⟨pn7, hpn7⟩ : ∃ z, x22.heap.size = z := ⟨_, rfl⟩
  obtain ⟨W24, hW24⟩ : ∃ z, x22.alloc (.cells #[.int .i64 0, .int .i64 0] 23) = z := ⟨_, rfl⟩
  rw [hpn7] at n7 dmBn7 dmTn7 gn7
  rw [hW24] at n7 U mB mT I J K I2 J2 K2
  rw [hW24, hpn7]
  skip
  clear hpn7 hW24
  clear n7
  clear dmBn7 dmTn7 gn7
  refine (kn_f3 I2 J2 K2).mono ?_
  rintro e x25 ⟨rfl, u26⟩
  replace U := U.trans u26
  replace mB := u26.blk mB
  replace mT := u26.blk mT
  replace I := I.up u26
  replace J := J.up u26
  replace K := K.up u26
  replace I2 := I2.up u26
  replace J2 := J2.up u26
  replace K2 := K2.up u26
  clear u26 
  have dmBn8 := blk_lt mB
  have dmTn8 := blk_lt mT
  have gn8 := U.size
  have n8 := blk_new x25 (.cells #[.slice none 0 0, .slice none 0 0, .slice none 0 0] 30) _ rfl
  replace mB := blk_keep (.cells #[.slice none 0 0, .slice none 0 0, .slice none 0 0] 30) mB
  replace mT := blk_keep (.cells #[.slice none 0 0, .slice none 0 0, .slice none 0 0] 30) mT
  replace U := U.alloc (.cells #[.slice none 0 0, .slice none 0 0, .slice none 0 0] 30)
  replace I := I.up ((Up.refl x25).alloc (.cells #[.slice none 0 0, .slice none 0 0, .slice none 0 0] 30))
  replace J := J.up ((Up.refl x25).alloc (.cells #[.slice none 0 0, .slice none 0 0, .slice none 0 0] 30))
  replace K := K.up ((Up.refl x25).alloc (.cells #[.slice none 0 0, .slice none 0 0, .slice none 0 0] 30))
  replace I2 := I2.up ((Up.refl x25).alloc (.cells #[.slice none 0 0, .slice none 0 0, .slice none 0 0] 30))
  replace J2 := J2.up ((Up.refl x25).alloc (.cells #[.slice none 0 0, .slice none 0 0, .slice none 0 0] 30))
  replace K2 := K2.up ((Up.refl x25).alloc (.cells #[.slice none 0 0, .slice none 0 0, .slice none 0 0] 30))
  go_wp2_with fail
  obtain ⟨pn8, hpn8⟩ : ∃ z, x25.heap.size = z := ⟨_, rfl⟩
  obtain ⟨W27, hW27⟩ : ∃ z, x25.alloc (.cells #[.slice none 0 0, .slice none 0 0, .slice none 0 0] 30) = z := ⟨_, rfl⟩
  rw [hpn8] at n8 dmBn8 dmTn8 gn8
  rw [hW27] at n8 U mB mT I J K I2 J2 K2
  rw [hW27, hpn8]
  skip
  clear hpn8 hW27
  clear n8
  clear dmBn8 dmTn8 gn8
  refine (kn_f4 I2 J2 K2).mono ?_
  rintro e x28 ⟨rfl, u29⟩
  replace U := U.trans u29
  replace mB := u29.blk mB
  replace mT := u29.blk mT
  replace I := I.up u29
  replace J := J.up u29
  replace K := K.up u29
  replace I2 := I2.up u29
  replace J2 := J2.up u29
  replace K2 := K2.up u29
  clear u29 
  go_wp2_with fail
  refine (kn_f5 I2 J2 K2).mono ?_
  rintro e x30 ⟨⟨ta, tb, rfl⟩, u31⟩
  replace U := U.trans u31
  replace mB := u31.blk mB
  replace mT := u31.blk mT
  replace I := I.up u31
  replace J := J.up u31
  replace K := K.up u31
  replace I2 := I2.up u31
  replace J2 := J2.up u31
  replace K2 := K2.up u31
  clear u31 I2 J2 K2
  go_upto_if 384 with (fail)
  go_step
  go_step
  go_step
  go_step
  exact kn_tail29 _ _ _ _ _ _ _ _ _ _ _ _ _ _ _ _ _ _ _ _ _ _ _ _ _ _ _ _ _ _ _ _ _ _ _ _ _ _ _ _ _ _ _ _ _ _ _ _ _ _ _ _ _ _ _ _ _ _ _ _ _ _ _ _ _ _ _ _ _ _ _ _ _ _ _ _ _ _ _ _ _ _ _ _ _ _ _ _ _ _ _ _ _ _ _ _ _ _ _ _ _ _ _ _ _ _ _ _ _ _ _ _ _ _ _ _ _ _ _ _ _ _ _ _ _ _ _ _ _ _ _ _ _ _ _ _ _ _ _ _ _ _ _ _ _ _ _ _ _ _ _ _ _ _ _ _ _ _ _ _ _ _ _ _ _ _ _ _ _ _ _ _ _ _ _ _ _ _ _ _ _ _ _ _ _ _ _ _ _ _ _ _ _ _ _ _ _ _ _ _ _ _ _ _ _ _ _ _ _ _ _ _ _ _ _ _ _ _ _ _ _ _ _ _ _ _ _ _ _ _ _ _ _ _ _ _ _ _ _ _ _ _ _ _ _ _ _ _ _ _ _ _ _ _ _ _ _ _ _ _ _ _ _ _ _ _ _ _ _ _ _ _ _ _ _ _ _ _ _ _ _ _ _ _ _ _ _ _ _ _ _ _ _ _ _ _ _ _ _ _ _ _ _ _ _ _ _ _ _ _ _ _ _ _ _ _ _ _ _ _ _ _ _ _ _ _ _ _ _ _ _ _ _ _ _ _ _ _ _ _ _ _ _ _ _ _ _ _ _ _ _ _ _ _ _ _ _ _ _ _ _ _ _ _ _ _ _ _ _ _ _ _ _ _ _ _ _ _ _ _ _ _ _ _ I J K mB U

end Go.Proofs.Ytlpkheoljbdajaa

/- The law StarKnown: region 28 and its second loop. -/
namespace Go.Proofs.Ytlpkheoljbdajaa
open Go.RowKit Go.Shelf
attribute [local go_sem] Oper.semAt_some
set_option maxRecDepth 1000000 in
set_option maxHeartbeats 8000000 in
set_option linter.unusedSimpArgs false in
theorem kn_tail15 (c0 c2 c3 c4 c5 c6 c7 c8 c9 c10 c11 c12 c13 c14 c15 c16 c17 c18 c19 c20 c21 c22 c23 c24 c25 c26 c27 c28 c29 c30 c31 c32 c33 c34 c35 c36 c37 c38 c39 c40 c41 c42 c43 c44 c45 c46 c47 c48 c49 c50 c51 c52 c53 c54 c55 c56 c57 c58 c59 c60 c61 c62 c63 c64 c65 c66 c67 c68 c69 c70 c71 c72 c73 c74 c75 c76 c77 c78 c79 c80 c81 c82 c83 c84 c85 c86 c87 c88 c89 c90 c91 c92 c93 c94 c95 c96 c97 c98 c99 c100 c101 c102 c103 c104 c105 c106 c107 c108 c109 c110 c111 c112 c113 c114 c115 c116 c117 c118 c119 c120 c121 c122 c123 c124 c125 c126 c127 c128 c129 c130 c131 c132 c133 c134 c135 c136 c137 c138 c139 c140 c141 c142 c143 c144 c145 c146 c147 c148 c149 c150 c151 c152 c153 c154 c155 c156 c157 c158 c159 c160 c161 c162 c163 c164 c165 c166 c167 c168 c169 c170 c171 c172 c173 c174 c175 c176 c177 c178 c179 c180 c181 c182 c183 c184 c185 c186 c187 c188 c189 c190 c191 c192 c193 c194 c195 c196 c197 c198 c199 c200 c201 c202 c203 c204 c205 c206 c207 c208 c209 c210 c211 c212 c213 c214 c215 c216 c217 c218 c219 c220 c221 c222 c223 c224 c225 c226 c227 c228 c229 c230 c231 c232 c233 c234 c235 c236 c237 c238 c239 c240 c241 : Value) {w0 w : World} {pb : Nat} {aP aQ aL : Option Addr} {cP cQ cL : Nat} (I : Sps w (.slice aP 2 cP) T.ps0) (J : Sps w (.slice aQ 1 cQ) T.qs0) (K : Lks w (.slice aL 4 cL) T.ls0) (mB : mblk w pb = some (.cells (BoC 3 0 100 (-10) 20 (.slice aP 2 cP) (.slice aQ 1 cQ) (.slice aL 4 cL)) 27 (0, 0))) (U : Up w0 w) : Code.wp Try.prog (Kn.rt 15 Kn.body) (bodyPost Try.prog Try.f16 fun e w' => e = .returned (.bool true) ∧ Up w0 w') ⟨#[c0, (.pointer (some ⟨pb, 0, none⟩)), c2, c3, c4, c5, c6, c7, c8, c9, c10, c11, c12, c13, c14, c15, c16, c17, c18, c19, c20, c21, c22, c23, c24, c25, c26, c27, c28, c29, c30, c31, c32, c33, c34, c35, c36, c37, c38, c39, c40, c41, c42, c43, c44, c45, c46, c47, c48, c49, c50, c51, c52, c53, c54, c55, c56, c57, c58, c59, c60, c61, c62, c63, c64, c65, c66, c67, c68, c69, c70, c71, c72, c73, c74, c75, c76, c77, c78, c79, c80, c81, c82, c83, c84, c85, c86, c87, c88, c89, c90, c91, c92, c93, c94, c95, c96, c97, c98, c99, c100, c101, c102, c103, c104, c105, c106, c107, c108, c109, c110, c111, c112, c113, c114, c115, c116, c117, c118, c119, c120, c121, c122, c123, c124, c125, c126, c127, c128, c129, c130, c131, c132, c133, c134, c135, c136, c137, c138, c139, c140, c141, c142, c143, c144, c145, c146, c147, c148, c149, c150, c151, c152, c153, c154, c155, c156, c157, c158, c159, c160, c161, c162, c163, c164, c165, c166, c167, c168, c169, c170, c171, c172, c173, c174, c175, c176, c177, c178, c179, c180, c181, c182, c183, c184, c185, c186, c187, c188, c189, c190, c191, c192, c193, c194, c195, c196, c197, c198, c199, c200, c201, c202, c203, c204, c205, c206, c207, c208, c209, c210, c211, c212, c213, c214, c215, c216, c217, c218, c219, c220, c221, c222, c223, c224, c225, c226, c227, c228, c229, c230, c231, c232, c233, c234, c235, c236, c237, c238, c239, c240, c241, undef, undef, undef, undef, undef, undef, undef, undef, undef, undef, undef, undef, undef, undef, undef, undef, undef, undef, undef, undef, undef, undef, undef, undef, undef, undef, undef, undef, undef, undef, undef, undef, undef, undef, undef, undef, undef, undef, undef, undef, undef, undef, undef, undef, undef, undef, undef, undef, undef, undef, undef, undef, undef, undef, undef, undef, undef, undef, undef, undef, undef, undef, undef, undef, undef, undef, undef, undef, undef, undef, undef, undef, undef, undef, undef, undef, undef, undef, undef, undef, undef, undef, undef, undef, undef, undef, undef, undef, undef, undef, undef, undef, undef, undef, undef, undef, undef, undef, undef, undef, undef, undef, undef, undef, undef, undef, undef, undef, undef, undef, undef, undef, undef, undef, undef, undef, undef, undef, undef, undef, undef, undef, undef, undef, undef, undef, undef, undef, undef, undef, undef, undef, undef, undef, undef, undef, undef, undef, undef, undef, undef, undef, undef, undef, undef, undef, undef, undef, undef, undef, undef, undef, undef, undef, undef, undef, undef, undef, undef, undef, undef, undef, undef, undef, undef, undef, undef, undef, undef, undef, undef, undef, undef, undef, undef, undef, undef, undef, undef, undef, undef, undef, undef, undef, undef, undef, undef, undef, undef, undef, undef, undef, undef, undef, undef, undef, undef, undef, undef, undef, undef, undef, undef, undef, undef, undef, undef, undef, undef, undef, undef, undef, undef, undef, undef, undef, undef, undef, undef, undef, undef, undef, undef, undef, undef, undef, undef, undef, undef, undef, undef, undef, undef, undef, undef, undef, undef, undef, undef, undef, undef, undef, undef, undef, undef, undef, undef, undef, undef, undef, undef, undef, undef, undef, undef, undef, undef, undef, undef, undef, undef, undef, undef, undef, undef, undef, undef, undef, undef, undef, undef], []⟩ w := by
  have hmx : Try.prog.follows .mixedOrders = true := by kernel_rfl
  conv => arg 2; whnf
  go_wp2_with fail
  obtain ⟨Z, hZ⟩ : ∃ z, ((((((((((((((((((((((((w.alloc (.cells #[.int .i64 50, .int .i64 60] 3)).alloc (.cells #[.int .i64 (-5), .int .i64 10] 3)).alloc (.cells #[.int .i64 40] 3)).alloc (.cells #[.int .i64 50, .int .i64 60, .int .i64 75] 3)).alloc (.cells #[.int .i64 (-5)] 3)).alloc (.cells #[.int .i64 40] 3)).alloc (.cells #[.int .i64 50, .int .i64 60, .int .i64 75] 3)).alloc (.cells #[.int .i64 (-5), .int .i64 10] 3)).alloc (.cells #[.int .i64 50, .int .i64 60, .int .i64 81] 3)).alloc (.cells #[.int .i64 (-5), .int .i64 10] 3)).alloc (.cells #[.int .i64 40] 3)).alloc (.cells #[.int .i64 50, .int .i64 60, .int .i64 75] 3)).alloc (.cells #[.int .i64 (-5), .int .i64 21] 3)).alloc (.cells #[.int .i64 40] 3)).alloc (.cells #[.int .i64 50, .int .i64 60, .int .i64 75] 3)).alloc (.cells #[.int .i64 (-5), .int .i64 10] 3)).alloc (.cells #[.int .i64 61] 3)).alloc (.cells #[.int .i64 50, .int .i64 60, .int .i64 75] 3)).alloc (.cells #[.int .i64 1, .int .i64 10] 3)).alloc (.cells #[.int .i64 40] 3)).alloc (.cells #[.int .i64 50, .int .i64 60, .int .i64 75] 3)).alloc (.cells #[.int .i64 (-5), .int .i64 10] 3)).alloc (.cells #[.int .i64 34] 3)).alloc (.cells #[.slice none 0 0, .slice none 0 0, .slice none 0 0, .slice (some ⟨w.heap.size, 0, none⟩) 2 2, .slice (some ⟨w.heap.size + 1, 0, none⟩) 2 2, .slice (some ⟨w.heap.size + 1 + 1, 0, none⟩) 1 1, .slice (some ⟨w.heap.size + 1 + 1 + 1, 0, none⟩) 3 3, .slice (some ⟨w.heap.size + 1 + 1 + 1 + 1, 0, none⟩) 1 1, .slice (some ⟨w.heap.size + 1 + 1 + 1 + 1 + 1, 0, none⟩) 1 1, .slice (some ⟨w.heap.size + 1 + 1 + 1 + 1 + 1 + 1, 0, none⟩) 3 3, .slice (some ⟨w.heap.size + 1 + 1 + 1 + 1 + 1 + 1 + 1, 0, none⟩) 2 2, .slice none 0 0, .slice (some ⟨w.heap.size + 1 + 1 + 1 + 1 + 1 + 1 + 1 + 1, 0, none⟩) 3 3, .slice (some ⟨w.heap.size + 1 + 1 + 1 + 1 + 1 + 1 + 1 + 1 + 1, 0, none⟩) 2 2, .slice (some ⟨w.heap.size + 1 + 1 + 1 + 1 + 1 + 1 + 1 + 1 + 1 + 1, 0, none⟩) 1 1, .slice (some ⟨w.heap.size + 1 + 1 + 1 + 1 + 1 + 1 + 1 + 1 + 1 + 1 + 1, 0, none⟩) 3 3, .slice (some ⟨w.heap.size + 1 + 1 + 1 + 1 + 1 + 1 + 1 + 1 + 1 + 1 + 1 + 1, 0, none⟩) 2 2, .slice (some ⟨w.heap.size + 1 + 1 + 1 + 1 + 1 + 1 + 1 + 1 + 1 + 1 + 1 + 1 + 1, 0, none⟩) 1 1, .slice (some ⟨w.heap.size + 1 + 1 + 1 + 1 + 1 + 1 + 1 + 1 + 1 + 1 + 1 + 1 + 1 + 1, 0, none⟩) 3 3, .slice (some ⟨w.heap.size + 1 + 1 + 1 + 1 + 1 + 1 + 1 + 1 + 1 + 1 + 1 + 1 + 1 + 1 + 1, 0, none⟩) 2 2, .slice (some ⟨w.heap.size + 1 + 1 + 1 + 1 + 1 + 1 + 1 + 1 + 1 + 1 + 1 + 1 + 1 + 1 + 1 + 1, 0, none⟩) 1 1, .slice (some ⟨w.heap.size + 1 + 1 + 1 + 1 + 1 + 1 + 1 + 1 + 1 + 1 + 1 + 1 + 1 + 1 + 1 + 1 + 1, 0, none⟩) 3 3, .slice (some ⟨w.heap.size + 1 + 1 + 1 + 1 + 1 + 1 + 1 + 1 + 1 + 1 + 1 + 1 + 1 + 1 + 1 + 1 + 1 + 1, 0, none⟩) 2 2, .slice (some ⟨w.heap.size + 1 + 1 + 1 + 1 + 1 + 1 + 1 + 1 + 1 + 1 + 1 + 1 + 1 + 1 + 1 + 1 + 1 + 1 + 1, 0, none⟩) 1 1, .slice (some ⟨w.heap.size + 1 + 1 + 1 + 1 + 1 + 1 + 1 + 1 + 1 + 1 + 1 + 1 + 1 + 1 + 1 + 1 + 1 + 1 + 1 + 1, 0, none⟩) 3 3, .slice (some ⟨w.heap.size + 1 + 1 + 1 + 1 + 1 + 1 + 1 + 1 + 1 + 1 + 1 + 1 + 1 + 1 + 1 + 1 + 1 + 1 + 1 + 1 + 1, 0, none⟩) 2 2, .slice (some ⟨w.heap.size + 1 + 1 + 1 + 1 + 1 + 1 + 1 + 1 + 1 + 1 + 1 + 1 + 1 + 1 + 1 + 1 + 1 + 1 + 1 + 1 + 1 + 1, 0, none⟩) 1 1] 30)) = z := ⟨_, rfl⟩
  obtain ⟨q, hq⟩ : ∃ q, w.heap.size + 1 + 1 + 1 + 1 + 1 + 1 + 1 + 1 + 1 + 1 + 1 + 1 + 1 + 1 + 1 + 1 + 1 + 1 + 1 + 1 + 1 + 1 + 1 = q := ⟨_, rfl⟩
  have UZ : Up w Z := by rw [← hZ]; exact Kn.lay_up (Kn.nos w.heap.size) w
  have L : ∀ j x, (Kn.nos w.heap.size)[j]? = some x → mblk Z (w.heap.size + j) = some x := by rw [← hZ]; exact fun j x h => Kn.lay_at (Kn.nos w.heap.size) w j x h
  have HN := kn_nos L
  have hql := blk_lt (L 23 _ rfl)
  rw [show w.heap.size + 23 = q by omega] at HN hql
  rw [hZ, hq]
  clear hZ hq L
  replace mB := UZ.blk mB
  replace I := I.up UZ
  replace J := J.up UZ
  replace K := K.up UZ
  have HU := Lib.hid (U.trans UZ)
  replace HN := Lib.hid HN
  have HB := Lib.hid (fun w' (u : Up Z w') => u.blk mB)
  have HI := Lib.hid (fun w' (u : Up Z w') => I.up u)
  have HJ := Lib.hid (fun w' (u : Up Z w') => J.up u)
  have HK := Lib.hid (fun w' (u : Up Z w') => K.up u)
  clear U UZ mB I J K
  go_loopw [24] (fun iv wr => ∃ j : Nat, j ≤ 9 ∧ iv = .int .i64 j ∧ Up Z wr) (fun iv _ => 9 - (intOf iv).toNat)
  case atStart => exact ⟨0, by omega, rfl, Up.refl _⟩
  case round =>
  obtain ⟨m, hj, rfl, V⟩ := hrel
  by_cases hlt : m < 9
  · obtain ⟨aO, nO, cO, aE, nE, cE, aA, nA, cA, os, pe, pa, ⟨qa, qb, qc⟩, IO, IE, IA, bo, ba, hno⟩ := HN.out m hlt
    have HQ := Lib.hid (fun w' (u : Up Z w') => show mblk w' pb = some (.cells (BoC 3 0 100 (-10) 20 (.slice aP 2 cP) (.slice aQ 1 cQ) (.slice aL 4 cL)) 27 (0, 0)) ∧ w'.cell? ⟨q, m * 3, none⟩ = some (.slice aO nO cO) ∧ w'.cell? ⟨q, m * 3 + 1, none⟩ = some (.slice aE nE cE) ∧ w'.cell? ⟨q, m * 3 + 2, none⟩ = some (.slice aA nA cA) from ⟨HB.out w' u, (u.facts.1 q _ hql).trans qa, (u.facts.1 q _ hql).trans qb, (u.facts.1 q _ hql).trans qc⟩)
    have HC := Lib.hid (fun w' (u : Up Z w') => kn_it (HI.out w' u) (HJ.out w' u) (HK.out w' u) (IO.up u) (IE.up u) (IA.up u) bo ba hno)
    have HM := Lib.hid (show m + 1 ≤ 9 from hlt)
    clear qa qb qc IO IE IA bo ba hno HU HB HI HJ HK HN hj
    go_wp2_with fail
    refine wp_region_held_drew (S := fun w' => Up Z w' ∧ mblk w' pb = some (.cells (BoC 3 0 100 (-10) 20 (.slice aP 2 cP) (.slice aQ 1 cQ) (.slice aL 4 cL)) 27 (0, 0)) ∧ w'.cell? ⟨q, m * 3, none⟩ = some (.slice aO nO cO) ∧ w'.cell? ⟨q, m * 3 + 1, none⟩ = some (.slice aE nE cE) ∧ w'.cell? ⟨q, m * 3 + 2, none⟩ = some (.slice aA nA cA)) (by as_aux_lemma => kernel_rfl) ⟨V.drew, HQ.out _ V.drew⟩ (fun hHeld => ?_)
    clear V
    refine takeH (i := 0) (d := (some 282)) (v := ?v1) rfl rfl (by as_aux_lemma => kernel_rfl) (by as_aux_lemma => kernel_rfl) (by as_aux_lemma => kernel_rfl) (fun _ _ _ h => h) (by rfl) ?hy1 (by assumption) ?_
    case hy1 => ((intro w hSw; (try dsimp only at hSw); (try go_split_ands); go_simp); try with_reducible rfl)
    simp only [Act.put, List.setIfInBounds_toArray]; dsimp only [List.set_cons_zero, List.set_cons_succ]
    refine takeH (i := 1) (d := (some 283)) (v := ?v2) rfl rfl (by as_aux_lemma => kernel_rfl) (by as_aux_lemma => kernel_rfl) (by as_aux_lemma => kernel_rfl) (fun _ _ _ h => h) (by rfl) ?hy2 (by assumption) ?_
    case hy2 => ((intro w hSw; (try dsimp only at hSw); (try go_split_ands); go_simp); try with_reducible rfl)
    simp only [Act.put, List.setIfInBounds_toArray]; dsimp only [List.set_cons_zero, List.set_cons_succ]
    refine takeH (i := 2) (d := (some 284)) (v := ?v3) rfl rfl (by as_aux_lemma => kernel_rfl) (by as_aux_lemma => kernel_rfl) (by as_aux_lemma => kernel_rfl) (fun _ _ _ h => h) (by rfl) ?hy3 (by assumption) ?_
    case hy3 => ((intro w hSw; (try dsimp only at hSw); (try go_split_ands); go_simp); try with_reducible rfl)
    simp only [Act.put, List.setIfInBounds_toArray]; dsimp only [List.set_cons_zero, List.set_cons_succ]
    refine takeH (i := 3) (d := (some 285)) (v := ?v4) rfl rfl (by as_aux_lemma => kernel_rfl) (by as_aux_lemma => kernel_rfl) (by as_aux_lemma => kernel_rfl) (fun _ _ _ h => h) (by rfl) ?hy4 (by assumption) ?_
    case hy4 => ((intro w hSw; (try dsimp only at hSw); (try go_split_ands); go_simp); try with_reducible rfl)
    simp only [Act.put, List.setIfInBounds_toArray]; dsimp only [List.set_cons_zero, List.set_cons_succ]
    refine takeH (i := 4) (d := (some 286)) (v := ?v5) rfl rfl (by as_aux_lemma => kernel_rfl) (by as_aux_lemma => kernel_rfl) (by as_aux_lemma => kernel_rfl) (fun _ _ _ h => h) (by rfl) ?hy5 (by assumption) ?_
    case hy5 => ((intro w hSw; (try dsimp only at hSw); (try go_split_ands); go_simp); try with_reducible rfl)
    simp only [Act.put, List.setIfInBounds_toArray]; dsimp only [List.set_cons_zero, List.set_cons_succ]
    refine wpAnyH_ready (rs := [5]) (by as_aux_lemma => kernel_rfl) (by simp) ?_
    refine AllReadyH.cons rfl (fun K hK => ?_) AllReadyH.nil
    go_simp
    refine (HC.out _ hHeld.1).mono ?_
    rintro e x1 ⟨rfl, u1⟩
    go_wp2_with fail
    have V1 := hHeld.1.trans u1
    refine hK.out _ _ ⟨V1, HQ.out _ V1⟩ (fun hHeld => ?_)
    clear hK K u1 V1
    refine takeH (i := 6) (d := (some 281)) (v := ?v7) rfl rfl (by as_aux_lemma => kernel_rfl) (by as_aux_lemma => kernel_rfl) (by as_aux_lemma => kernel_rfl) (fun _ _ _ h => h) (by rfl) ?hy7 (by assumption) ?_
    case hy7 => ((intro w hSw; (try dsimp only at hSw); (try go_split_ands); go_simp); try with_reducible rfl)
    simp only [Act.put, List.setIfInBounds_toArray]; dsimp only [List.set_cons_zero, List.set_cons_succ]
    refine takeH (i := 7) (d := (some 288)) (v := ?v8) rfl rfl (by as_aux_lemma => kernel_rfl) (by as_aux_lemma => kernel_rfl) (by as_aux_lemma => kernel_rfl) (fun _ _ _ h => h) (by rfl) ?hy8 (by assumption) ?_
    case hy8 => ((intro w hSw; (try dsimp only at hSw); (try go_split_ands); go_simp); try with_reducible rfl)
    simp only [Act.put, List.setIfInBounds_toArray]; dsimp only [List.set_cons_zero, List.set_cons_succ]
    refine takeH (i := 8) (d := (some 289)) (v := ?v9) rfl rfl (by as_aux_lemma => kernel_rfl) (by as_aux_lemma => kernel_rfl) (by as_aux_lemma => kernel_rfl) (fun _ _ _ h => h) (by rfl) ?hy9 (by assumption) ?_
    case hy9 => ((intro w hSw; (try dsimp only at hSw); (try go_split_ands); go_simp); try with_reducible rfl)
    simp only [Act.put, List.setIfInBounds_toArray]; dsimp only [List.set_cons_zero, List.set_cons_succ]
    refine takeH (i := 9) (d := (some 25)) (v := ?v10) rfl rfl (by as_aux_lemma => kernel_rfl) (by as_aux_lemma => kernel_rfl) (by as_aux_lemma => kernel_rfl) (fun _ _ _ h => h) (by rfl) ?hy10 (by assumption) ?_
    case hy10 => ((intro w hSw; (try dsimp only at hSw); (try go_split_ands); go_simp); try with_reducible rfl)
    simp only [Act.put, List.setIfInBounds_toArray]; dsimp only [List.set_cons_zero, List.set_cons_succ]
    refine takeH (i := 10) (d := (some 26)) (v := ?v11) rfl rfl (by as_aux_lemma => kernel_rfl) (by as_aux_lemma => kernel_rfl) (by as_aux_lemma => kernel_rfl) (fun _ _ _ h => h) (by rfl) ?hy11 (by assumption) ?_
    case hy11 => ((intro w hSw; (try dsimp only at hSw); (try go_split_ands); go_simp); try with_reducible rfl)
    simp only [Act.put, List.setIfInBounds_toArray]; dsimp only [List.set_cons_zero, List.set_cons_succ]
    refine wpAnyH_done (by as_aux_lemma => kernel_rfl) ?_ _
    have V := hHeld.1
    clear hHeld
    go_wp2
    go_roundw
    case rel => exact ⟨m + 1, HM.out, by go_num, V⟩
    case measure => have := HM.out; simp [intOf]; omega
  · have n9 : ¬ ((m : Int) < 9) := by omega
    have mB := HB.out _ V
    have I := HI.out _ V
    have J := HJ.out _ V
    have K := HK.out _ V
    have A := HU.out.trans V
    clear V HN hj hlt hql HU HB HI HJ HK
    go_upto_if 278 with (fail)
    go_step
    go_step
    go_step
    go_step
    go_step
    go_step
    exact kn_tail17 _ _ _ _ _ _ _ _ _ _ _ _ _ _ _ _ _ _ _ _ _ _ _ _ _ _ _ _ _ _ _ _ _ _ _ _ _ _ _ _ _ _ _ _ _ _ _ _ _ _ _ _ _ _ _ _ _ _ _ _ _ _ _ _ _ _ _ _ _ _ _ _ _ _ _ _ _ _ _ _ _ _ _ _ _ _ _ _ _ _ _ _ _ _ _ _ _ _ _ _ _ _ _ _ _ _ _ _ _ _ _ _ _ _ _ _ _ _ _ _ _ _ _ _ _ _ _ _ _ _ _ _ _ _ _ _ _ _ _ _ _ _ _ _ _ _ _ _ _ _ _ _ _ _ _ _ _ _ _ _ _ _ _ _ _ _ _ _ _ _ _ _ _ _ _ _ _ _ _ _ _ _ _ _ _ _ _ _ _ _ _ _ _ _ _ _ _ _ _ _ _ _ _ _ _ _ _ _ _ _ _ _ _ _ _ _ _ _ _ _ _ _ _ _ _ _ _ _ _ _ _ _ _ _ _ _ _ _ _ _ _ _ _ _ _ _ _ _ _ _ _ _ _ _ _ _ _ _ _ _ _ _ _ _ _ _ _ _ _ _ _ _ _ _ _ _ _ _ _ _ _ _ _ _ _ _ _ _ _ _ _ _ _ _ I J K mB A

end Go.Proofs.Ytlpkheoljbdajaa

/- The law StarKnown: its first loop. -/
namespace Go.Proofs.Ytlpkheoljbdajaa
open Go.RowKit Go.Shelf
attribute [local go_sem] Oper.semAt_some
set_option maxRecDepth 1000000 in
set_option maxHeartbeats 8000000 in
set_option linter.unusedSimpArgs false in
theorem kn_tail14 (c0 c3 c4 c5 c6 c7 c8 c9 c10 c11 c12 c13 c14 c15 c16 c17 c18 c19 c20 c21 c22 c23 c24 c25 c26 c27 c28 c29 c30 c31 c32 c33 c34 c35 c36 c37 c38 c39 c40 c41 c42 c43 c44 c45 c46 c47 c48 c49 c50 c51 c52 c53 c54 c55 c56 c57 c58 c59 c60 c61 c62 c63 c64 c65 c66 c67 c68 c69 c70 c71 c72 c73 c74 c75 c76 c77 c78 c79 c80 c81 c82 c83 c84 c85 c86 c87 c88 c89 c90 c91 c92 c93 c94 c95 c96 c97 c98 c99 c100 c101 c102 c103 c104 c105 c106 c107 c108 c109 c110 c111 c112 c113 c114 c115 c116 c117 c118 c119 : Value) {w0 w : World} {pb q : Nat} {aP aQ aL : Option Addr} {cP cQ cL : Nat} (I : Sps w (.slice aP 2 cP) T.ps0) (J : Sps w (.slice aQ 1 cQ) T.qs0) (K : Lks w (.slice aL 4 cL) T.ls0) (mB : mblk w pb = some (.cells (BoC 3 0 100 (-10) 20 (.slice aP 2 cP) (.slice aQ 1 cQ) (.slice aL 4 cL)) 27 (0, 0))) (hql : q < w.heap.size) (HN : ∀ i, i < 12 → Kn.Bad w q i) (U : Up w0 w) : Code.wp Try.prog (Kn.rt 14 Kn.body) (bodyPost Try.prog Try.f16 fun e w' => e = .returned (.bool true) ∧ Up w0 w') ⟨#[c0, (.pointer (some ⟨pb, 0, none⟩)), (.slice (some ⟨q, 0, none⟩) 12 12), c3, c4, c5, c6, c7, c8, c9, c10, c11, c12, c13, c14, c15, c16, c17, c18, c19, c20, c21, c22, c23, c24, c25, c26, c27, c28, c29, c30, c31, c32, c33, c34, c35, c36, c37, c38, c39, c40, c41, c42, c43, c44, c45, c46, c47, c48, c49, c50, c51, c52, c53, c54, c55, c56, c57, c58, c59, c60, c61, c62, c63, c64, c65, c66, c67, c68, c69, c70, c71, c72, c73, c74, c75, c76, c77, c78, c79, c80, c81, c82, c83, c84, c85, c86, c87, c88, c89, c90, c91, c92, c93, c94, c95, c96, c97, c98, c99, c100, c101, c102, c103, c104, c105, c106, c107, c108, c109, c110, c111, c112, c113, c114, c115, c116, c117, c118, c119, undef, undef, undef, undef, undef, undef, undef, undef, undef, undef, undef, undef, undef, undef, undef, undef, undef, undef, undef, undef, undef, undef, undef, undef, undef, undef, undef, undef, undef, undef, undef, undef, undef, undef, undef, undef, undef, undef, undef, undef, undef, undef, undef, undef, undef, undef, undef, undef, undef, undef, undef, undef, undef, undef, undef, undef, undef, undef, undef, undef, undef, undef, undef, undef, undef, undef, undef, undef, undef, undef, undef, undef, undef, undef, undef, undef, undef, undef, undef, undef, undef, undef, undef, undef, undef, undef, undef, undef, undef, undef, undef, undef, undef, undef, undef, undef, undef, undef, undef, undef, undef, undef, undef, undef, undef, undef, undef, undef, undef, undef, undef, undef, undef, undef, undef, undef, undef, undef, undef, undef, undef, undef, undef, undef, undef, undef, undef, undef, undef, undef, undef, undef, undef, undef, undef, undef, undef, undef, undef, undef, undef, undef, undef, undef, undef, undef, undef, undef, undef, undef, undef, undef, undef, undef, undef, undef, undef, undef, undef, undef, undef, undef, undef, undef, undef, undef, undef, undef, undef, undef, undef, undef, undef, undef, undef, undef, undef, undef, undef, undef, undef, undef, undef, undef, undef, undef, undef, undef, undef, undef, undef, undef, undef, undef, undef, undef, undef, undef, undef, undef, undef, undef, undef, undef, undef, undef, undef, undef, undef, undef, undef, undef, undef, undef, undef, undef, undef, undef, undef, undef, undef, undef, undef, undef, undef, undef, undef, undef, undef, undef, undef, undef, undef, undef, undef, undef, undef, undef, undef, undef, undef, undef, undef, undef, undef, undef, undef, undef, undef, undef, undef, undef, undef, undef, undef, undef, undef, undef, undef, undef, undef, undef, undef, undef, undef, undef, undef, undef, undef, undef, undef, undef, undef, undef, undef, undef, undef, undef, undef, undef, undef, undef, undef, undef, undef, undef, undef, undef, undef, undef, undef, undef, undef, undef, undef, undef, undef, undef, undef, undef, undef, undef, undef, undef, undef, undef, undef, undef, undef, undef, undef, undef, undef, undef, undef, undef, undef, undef, undef, undef, undef, undef, undef, undef, undef, undef, undef, undef, undef, undef, undef, undef, undef, undef, undef, undef, undef, undef, undef, undef, undef, undef, undef, undef, undef, undef, undef, undef, undef, undef, undef, undef, undef, undef, undef, undef, undef, undef, undef, undef, undef, undef, undef, undef, undef, undef, undef, undef, undef, undef, undef, undef, undef, undef, undef, undef, undef, undef, undef, undef, undef, undef, undef, undef, undef, undef, undef, undef, undef, undef, undef, undef, undef], []⟩ w := by
  have hmx : Try.prog.follows .mixedOrders = true := by kernel_rfl
  replace HN := Lib.hid HN
  have HU := Lib.hid U
  have HB := Lib.hid (fun w' (u : Up w w') => u.blk mB)
  have HI := Lib.hid (fun w' (u : Up w w') => I.up u)
  have HJ := Lib.hid (fun w' (u : Up w w') => J.up u)
  have HK := Lib.hid (fun w' (u : Up w w') => K.up u)
  clear U mB I J K
  conv => arg 2; whnf
  go_wp2_with fail
  go_loopw [3] (fun iv wr => ∃ j : Nat, j ≤ 12 ∧ iv = .int .i64 j ∧ Up w wr) (fun iv _ => 12 - (intOf iv).toNat)
  case atStart => exact ⟨0, by omega, rfl, Up.refl _⟩
  case round =>
  obtain ⟨m, hj, rfl, V⟩ := hrel
  by_cases hlt : m < 12
  · obtain ⟨M, bl, bh, rl, rh, aP', nP, cP', aQ', nQ, cQ', aL', nL, cL', ps, qs, ls, ⟨q0, q1, q2, q3, q4, q5, q6, q7⟩, I, J, K, hv⟩ := HN.out m hlt
    have HQ := Lib.hid (fun w' (u : Up w w') => show w'.cell? ⟨q, m * 8, none⟩ = some (.int .i64 M) ∧ w'.cell? ⟨q, m * 8 + 1, none⟩ = some (.int .i64 bl) ∧ w'.cell? ⟨q, m * 8 + 2, none⟩ = some (.int .i64 bh) ∧ w'.cell? ⟨q, m * 8 + 3, none⟩ = some (.int .i64 rl) ∧ w'.cell? ⟨q, m * 8 + 4, none⟩ = some (.int .i64 rh) ∧ w'.cell? ⟨q, m * 8 + 5, none⟩ = some (.slice aP' nP cP') ∧ w'.cell? ⟨q, m * 8 + 6, none⟩ = some (.slice aQ' nQ cQ') ∧ w'.cell? ⟨q, m * 8 + 7, none⟩ = some (.slice aL' nL cL') from ⟨(u.facts.1 q _ hql).trans q0, (u.facts.1 q _ hql).trans q1, (u.facts.1 q _ hql).trans q2, (u.facts.1 q _ hql).trans q3, (u.facts.1 q _ hql).trans q4, (u.facts.1 q _ hql).trans q5, (u.facts.1 q _ hql).trans q6, (u.facts.1 q _ hql).trans q7⟩)
    have H1 := Lib.hid (fun w' (u : Up w w') => I.up u)
    have H2 := Lib.hid (fun w' (u : Up w w') => J.up u)
    have H3 := Lib.hid (fun w' (u : Up w w') => K.up u)
    have HV := Lib.hid hv
    have HM := Lib.hid (show m + 1 ≤ 12 from hlt)
    clear q0 q1 q2 q3 q4 q5 q6 q7 hv HB HU HI HJ HK HN I J K
    obtain ⟨q0, q1, q2, q3, q4, q5, q6, q7⟩ := HQ.out _ V
    go_wp2_with fail
    clear q0 q1 q2 q3 q4 q5 q6 q7
    refine wp_region_held_drew (S := fun w' => Up w w' ∧ w'.cell? ⟨q, m * 8, none⟩ = some (.int .i64 M) ∧ w'.cell? ⟨q, m * 8 + 1, none⟩ = some (.int .i64 bl) ∧ w'.cell? ⟨q, m * 8 + 2, none⟩ = some (.int .i64 bh) ∧ w'.cell? ⟨q, m * 8 + 3, none⟩ = some (.int .i64 rl) ∧ w'.cell? ⟨q, m * 8 + 4, none⟩ = some (.int .i64 rh) ∧ w'.cell? ⟨q, m * 8 + 5, none⟩ = some (.slice aP' nP cP') ∧ w'.cell? ⟨q, m * 8 + 6, none⟩ = some (.slice aQ' nQ cQ') ∧ w'.cell? ⟨q, m * 8 + 7, none⟩ = some (.slice aL' nL cL')) (by as_aux_lemma => kernel_rfl) ⟨V.drew, HQ.out _ V.drew⟩ (fun hHeld => ?_)
    clear V
    refine takeH (i := 0) (d := (some 127)) (v := ?v12) rfl rfl (by as_aux_lemma => kernel_rfl) (by as_aux_lemma => kernel_rfl) (by as_aux_lemma => kernel_rfl) (fun _ _ _ h => h) (by rfl) ?hy12 (by assumption) ?_
    case hy12 => ((intro w hSw; (try dsimp only at hSw); (try go_split_ands); go_simp); try with_reducible rfl)
    simp only [Act.put, List.setIfInBounds_toArray]; dsimp only [List.set_cons_zero, List.set_cons_succ]
    refine takeH (i := 1) (d := (some 128)) (v := ?v13) rfl rfl (by as_aux_lemma => kernel_rfl) (by as_aux_lemma => kernel_rfl) (by as_aux_lemma => kernel_rfl) (fun _ _ _ h => h) (by rfl) ?hy13 (by assumption) ?_
    case hy13 => ((intro w hSw; (try dsimp only at hSw); (try go_split_ands); go_simp); try with_reducible rfl)
    simp only [Act.put, List.setIfInBounds_toArray]; dsimp only [List.set_cons_zero, List.set_cons_succ]
    refine takeH (i := 2) (d := (some 129)) (v := ?v14) rfl rfl (by as_aux_lemma => kernel_rfl) (by as_aux_lemma => kernel_rfl) (by as_aux_lemma => kernel_rfl) (fun _ _ _ h => h) (by rfl) ?hy14 (by assumption) ?_
    case hy14 => ((intro w hSw; (try dsimp only at hSw); (try go_split_ands); go_simp); try with_reducible rfl)
    simp only [Act.put, List.setIfInBounds_toArray]; dsimp only [List.set_cons_zero, List.set_cons_succ]
    refine takeH (i := 3) (d := (some 130)) (v := ?v15) rfl rfl (by as_aux_lemma => kernel_rfl) (by as_aux_lemma => kernel_rfl) (by as_aux_lemma => kernel_rfl) (fun _ _ _ h => h) (by rfl) ?hy15 (by assumption) ?_
    case hy15 => ((intro w hSw; (try dsimp only at hSw); (try go_split_ands); go_simp); try with_reducible rfl)
    simp only [Act.put, List.setIfInBounds_toArray]; dsimp only [List.set_cons_zero, List.set_cons_succ]
    refine wpAnyH_ready (rs := [4]) (by as_aux_lemma => kernel_rfl) (by simp) ?_
    refine AllReadyH.cons rfl (fun K hK => ?_) AllReadyH.nil
    go_simp
    refine (l_truth_any _).mono ?_
    rintro e x0 ⟨⟨aO, aE, aA, rfl, _, _, _⟩, u0⟩
    go_wp2_with fail
    have V0 := hHeld.1.trans u0
    refine hK.out _ _ ⟨V0, HQ.out _ V0⟩ (fun hHeld => ?_)
    clear hK K u0 V0
    refine wpAnyH_ready (rs := [5]) (by as_aux_lemma => kernel_rfl) (by simp) ?_
    refine AllReadyH.cons rfl (fun K hK => ?_) AllReadyH.nil
    go_simp
    refine (kn_nI (H1.out _ hHeld.1) (H2.out _ hHeld.1) (H3.out _ hHeld.1) HV.out).mono ?_
    rintro e x0 ⟨rfl, u0⟩
    go_wp2_with fail
    have V0 := hHeld.1.trans u0
    refine hK.out _ _ ⟨V0, HQ.out _ V0⟩ (fun hHeld => ?_)
    clear hK K u0 V0
    refine takeH (i := 6) (d := (some 126)) (v := ?v18) rfl rfl (by as_aux_lemma => kernel_rfl) (by as_aux_lemma => kernel_rfl) (by as_aux_lemma => kernel_rfl) (fun _ _ _ h => h) (by rfl) ?hy18 (by assumption) ?_
    case hy18 => ((intro w hSw; (try dsimp only at hSw); (try go_split_ands); go_simp); try with_reducible rfl)
    simp only [Act.put, List.setIfInBounds_toArray]; dsimp only [List.set_cons_zero, List.set_cons_succ]
    refine takeH (i := 7) (d := (some 133)) (v := ?v19) rfl rfl (by as_aux_lemma => kernel_rfl) (by as_aux_lemma => kernel_rfl) (by as_aux_lemma => kernel_rfl) (fun _ _ _ h => h) (by rfl) ?hy19 (by assumption) ?_
    case hy19 => ((intro w hSw; (try dsimp only at hSw); (try go_split_ands); go_simp); try with_reducible rfl)
    simp only [Act.put, List.setIfInBounds_toArray]; dsimp only [List.set_cons_zero, List.set_cons_succ]
    refine takeH (i := 8) (d := (some 134)) (v := ?v20) rfl rfl (by as_aux_lemma => kernel_rfl) (by as_aux_lemma => kernel_rfl) (by as_aux_lemma => kernel_rfl) (fun _ _ _ h => h) (by rfl) ?hy20 (by assumption) ?_
    case hy20 => ((intro w hSw; (try dsimp only at hSw); (try go_split_ands); go_simp); try with_reducible rfl)
    simp only [Act.put, List.setIfInBounds_toArray]; dsimp only [List.set_cons_zero, List.set_cons_succ]
    refine takeH (i := 9) (d := (some 4)) (v := ?v21) rfl rfl (by as_aux_lemma => kernel_rfl) (by as_aux_lemma => kernel_rfl) (by as_aux_lemma => kernel_rfl) (fun _ _ _ h => h) (by rfl) ?hy21 (by assumption) ?_
    case hy21 => ((intro w hSw; (try dsimp only at hSw); (try go_split_ands); go_simp); try with_reducible rfl)
    simp only [Act.put, List.setIfInBounds_toArray]; dsimp only [List.set_cons_zero, List.set_cons_succ]
    refine takeH (i := 10) (d := (some 5)) (v := ?v22) rfl rfl (by as_aux_lemma => kernel_rfl) (by as_aux_lemma => kernel_rfl) (by as_aux_lemma => kernel_rfl) (fun _ _ _ h => h) (by rfl) ?hy22 (by assumption) ?_
    case hy22 => ((intro w hSw; (try dsimp only at hSw); (try go_split_ands); go_simp); try with_reducible rfl)
    simp only [Act.put, List.setIfInBounds_toArray]; dsimp only [List.set_cons_zero, List.set_cons_succ]
    refine wpAnyH_done (by as_aux_lemma => kernel_rfl) ?_ _
    have V := hHeld.1
    clear hHeld
    obtain ⟨q0, q1, q2, q3, q4, q5, q6, q7⟩ := HQ.out _ V
    go_wp2_with fail
    refine (kn_nO (H1.out _ V) (H2.out _ V) (H3.out _ V) HV.out).mono ?_
    rintro e x1 ⟨rfl, u1⟩
    have V1 := (V.trans u1).alloc (.cells #[.int .i64 0, .int .i64 0] 23)
    clear u1 V q0 q1 q2 q3 q4 q5 q6 q7
    obtain ⟨q0, q1, q2, q3, q4, q5, q6, q7⟩ := HQ.out _ V1
    go_wp2_with fail
    refine (kn_nB (H1.out _ V1) (H2.out _ V1) (H3.out _ V1) HV.out).mono ?_
    rintro e x2 ⟨rfl, u2⟩
    have V2 := (V1.trans u2).alloc (.cells #[.int .i64 0, .int .i64 0] 23)
    clear u2 V1 q0 q1 q2 q3 q4 q5 q6 q7
    obtain ⟨q0, q1, q2, q3, q4, q5, q6, q7⟩ := HQ.out _ V2
    go_wp2_with fail
    refine (kn_nE (H1.out _ V2) (H2.out _ V2) (H3.out _ V2) HV.out).mono ?_
    rintro e x3 ⟨rfl, u3⟩
    have V3 := (V2.trans u3).alloc (.cells #[.int .i64 0, .int .i64 0] 23)
    clear u3 V2 q0 q1 q2 q3 q4 q5 q6 q7
    obtain ⟨q0, q1, q2, q3, q4, q5, q6, q7⟩ := HQ.out _ V3
    go_wp2_with fail
    refine (kn_nA (H1.out _ V3) (H2.out _ V3) (H3.out _ V3) HV.out).mono ?_
    rintro e x4 ⟨rfl, u4⟩
    have V4 := (V3.trans u4).alloc (.cells #[.int .i64 0, .int .i64 0] 23)
    clear u4 V3 q0 q1 q2 q3 q4 q5 q6 q7
    obtain ⟨q0, q1, q2, q3, q4, q5, q6, q7⟩ := HQ.out _ V4
    go_wp2_with fail
    refine (kn_nC (H1.out _ V4) (H2.out _ V4) (H3.out _ V4) HV.out).mono ?_
    rintro e x5 ⟨rfl, u5⟩
    have V5 := (V4.trans u5).alloc (.cells #[.slice none 0 0, .slice none 0 0, .slice none 0 0] 30)
    clear u5 V4 q0 q1 q2 q3 q4 q5 q6 q7
    obtain ⟨q0, q1, q2, q3, q4, q5, q6, q7⟩ := HQ.out _ V5
    go_wp2_with fail
    refine (kn_nW (H1.out _ V5) (H2.out _ V5) (H3.out _ V5) HV.out).mono ?_
    rintro e x6 ⟨rfl, u6⟩
    have V6 := V5.trans u6
    clear u6 V5 q0 q1 q2 q3 q4 q5 q6 q7
    obtain ⟨q0, q1, q2, q3, q4, q5, q6, q7⟩ := HQ.out _ V6
    go_wp2_with fail
    refine (kn_nD (H1.out _ V6) (H2.out _ V6) (H3.out _ V6) HV.out).mono ?_
    rintro e x7 ⟨rfl, u7⟩
    have V7 := V6.trans u7
    clear u7 V6 q0 q1 q2 q3 q4 q5 q6 q7
    obtain ⟨q0, q1, q2, q3, q4, q5, q6, q7⟩ := HQ.out _ V7
    go_wp2_with fail
    refine (kn_nX (H1.out _ V7) (H2.out _ V7) (H3.out _ V7) HV.out).mono ?_
    rintro e x8 ⟨rfl, u8⟩
    have V8 := V7.trans u8
    clear u8 V7 q0 q1 q2 q3 q4 q5 q6 q7
    obtain ⟨q0, q1, q2, q3, q4, q5, q6, q7⟩ := HQ.out _ V8
    go_wp2_with fail
    refine (kn_nK (H1.out _ V8) (H2.out _ V8) (H3.out _ V8) HV.out).mono ?_
    rintro e x9 ⟨rfl, u9⟩
    have V9 := V8.trans u9
    clear u9 V8 q0 q1 q2 q3 q4 q5 q6 q7
    go_wp2
    go_roundw
    case rel => exact ⟨m + 1, HM.out, by go_num, V9⟩
    case measure => have := HM.out; simp [intOf]; omega
  · have n9 : ¬ ((m : Int) < 12) := by omega
    have mB := HB.out _ V
    have I := HI.out _ V
    have J := HJ.out _ V
    have K := HK.out _ V
    have A := HU.out.trans V
    clear V HN hj hlt hql HU HB HI HJ HK
    go_upto_if 123 with (fail)
    go_step
    go_step
    go_step
    go_step
    go_step
    go_step
    exact kn_tail15 _ _ _ _ _ _ _ _ _ _ _ _ _ _ _ _ _ _ _ _ _ _ _ _ _ _ _ _ _ _ _ _ _ _ _ _ _ _ _ _ _ _ _ _ _ _ _ _ _ _ _ _ _ _ _ _ _ _ _ _ _ _ _ _ _ _ _ _ _ _ _ _ _ _ _ _ _ _ _ _ _ _ _ _ _ _ _ _ _ _ _ _ _ _ _ _ _ _ _ _ _ _ _ _ _ _ _ _ _ _ _ _ _ _ _ _ _ _ _ _ _ _ _ _ _ _ _ _ _ _ _ _ _ _ _ _ _ _ _ _ _ _ _ _ _ _ _ _ _ _ _ _ _ _ _ _ _ _ _ _ _ _ _ _ _ _ _ _ _ _ _ _ _ _ _ _ _ _ _ _ _ _ _ _ _ _ _ _ _ _ _ _ _ _ _ _ _ _ _ _ _ _ _ _ _ _ _ _ _ _ _ _ _ _ _ _ _ _ _ _ _ _ _ _ _ _ _ _ _ _ _ _ _ _ _ _ _ _ _ _ _ I J K mB A

end Go.Proofs.Ytlpkheoljbdajaa
