import Derived.Test.YtlpkheoljbdajaaKnM
/- The law StarKnown: its end, regions 48 to 58. -/
namespace Go.Proofs.Ytlpkheoljbdajaa
open Go.RowKit Go.Shelf
attribute [local go_sem] Oper.semAt_some
theorem kn_alike {w : World} {v : Value} {q : Nat} (S : Ints w v [7]) (k : mblk w q = some (.cells #[.int .i64 7] 3 (0, 0))) : Calls Try.prog 33 #[v, .slice (some ⟨q, 0, none⟩) 1 1] w fun e w' => e = .returned (.bool true) ∧ Up w w' :=
  B_Alike_any S (ints1 k)
set_option maxRecDepth 1000000 in
set_option maxHeartbeats 8000000 in
set_option linter.unusedSimpArgs false in
theorem kn_tail29 (c0 c2 c3 c4 c5 c6 c7 c8 c9 c10 c11 c12 c13 c14 c15 c16 c17 c18 c19 c20 c21 c22 c23 c24 c25 c26 c27 c28 c29 c30 c31 c32 c33 c34 c35 c36 c37 c38 c39 c40 c41 c42 c43 c44 c45 c46 c47 c48 c49 c50 c51 c52 c53 c54 c55 c56 c57 c58 c59 c60 c61 c62 c63 c64 c65 c66 c67 c68 c69 c70 c71 c72 c73 c74 c75 c76 c77 c78 c79 c80 c81 c82 c83 c84 c85 c86 c87 c88 c89 c90 c91 c92 c93 c94 c95 c96 c97 c98 c99 c100 c101 c102 c103 c104 c105 c106 c107 c108 c109 c110 c111 c112 c113 c114 c115 c116 c117 c118 c119 c120 c121 c122 c123 c124 c125 c126 c127 c128 c129 c130 c131 c132 c133 c134 c135 c136 c137 c138 c139 c140 c141 c142 c143 c144 c145 c146 c147 c148 c149 c150 c151 c152 c153 c154 c155 c156 c157 c158 c159 c160 c161 c162 c163 c164 c165 c166 c167 c168 c169 c170 c171 c172 c173 c174 c175 c176 c177 c178 c179 c180 c181 c182 c183 c184 c185 c186 c187 c188 c189 c190 c191 c192 c193 c194 c195 c196 c197 c198 c199 c200 c201 c202 c203 c204 c205 c206 c207 c208 c209 c210 c211 c212 c213 c214 c215 c216 c217 c218 c219 c220 c221 c222 c223 c224 c225 c226 c227 c228 c229 c230 c231 c232 c233 c234 c235 c236 c237 c238 c239 c240 c241 c242 c243 c244 c245 c246 c247 c248 c249 c250 c251 c252 c253 c254 c255 c256 c257 c258 c259 c260 c261 c262 c263 c264 c265 c266 c267 c268 c269 c270 c271 c272 c273 c274 c275 c276 c277 c278 c279 c280 c281 c282 c283 c284 c285 c286 c287 c288 c289 c290 c291 c292 c293 c294 c295 c296 c297 c298 c299 c300 c301 c302 c303 c304 c305 c306 c307 c308 c309 c310 c311 c312 c313 c314 c315 c316 c317 c318 c319 c320 c321 c322 c323 c324 c325 c326 c327 c328 c329 c330 c331 c332 c333 c334 c335 c336 c337 c338 c339 c340 c341 c342 c343 c344 c345 c346 c347 c348 c349 c350 c351 c352 c353 c354 c355 c356 c357 c358 c359 c360 c361 c362 c363 c364 c365 c366 c367 c368 c369 c370 c371 c372 c373 c374 c375 c376 c377 c378 c379 c380 c381 c382 c383 c384 : Value) {w0 w : World} {pb : Nat} {aP aQ aL : Option Addr} {cP cQ cL : Nat} (I : Sps w (.slice aP 2 cP) T.ps0) (J : Sps w (.slice aQ 1 cQ) T.qs0) (K : Lks w (.slice aL 4 cL) T.ls0) (mB : mblk w pb = some (.cells (BoC 3 0 100 (-10) 20 (.slice aP 2 cP) (.slice aQ 1 cQ) (.slice aL 4 cL)) 27 (0, 0))) (U : Up w0 w) : Code.wp Try.prog (Kn.rt 29 Kn.body) (bodyPost Try.prog Try.f16 fun e w' => e = .returned (.bool true) ∧ Up w0 w') ⟨#[c0, (.pointer (some ⟨pb, 0, none⟩)), c2, c3, c4, c5, c6, c7, c8, c9, c10, c11, c12, c13, c14, c15, c16, c17, c18, c19, c20, c21, c22, c23, c24, c25, c26, c27, c28, c29, c30, c31, c32, c33, c34, c35, c36, c37, c38, c39, c40, c41, c42, c43, c44, c45, c46, c47, c48, c49, c50, c51, c52, c53, c54, c55, c56, c57, c58, c59, c60, c61, c62, c63, c64, c65, c66, c67, c68, c69, c70, c71, c72, c73, c74, c75, c76, c77, c78, c79, c80, c81, c82, c83, c84, c85, c86, c87, c88, c89, c90, c91, c92, c93, c94, c95, c96, c97, c98, c99, c100, c101, c102, c103, c104, c105, c106, c107, c108, c109, c110, c111, c112, c113, c114, c115, c116, c117, c118, c119, c120, c121, c122, c123, c124, c125, c126, c127, c128, c129, c130, c131, c132, c133, c134, c135, c136, c137, c138, c139, c140, c141, c142, c143, c144, c145, c146, c147, c148, c149, c150, c151, c152, c153, c154, c155, c156, c157, c158, c159, c160, c161, c162, c163, c164, c165, c166, c167, c168, c169, c170, c171, c172, c173, c174, c175, c176, c177, c178, c179, c180, c181, c182, c183, c184, c185, c186, c187, c188, c189, c190, c191, c192, c193, c194, c195, c196, c197, c198, c199, c200, c201, c202, c203, c204, c205, c206, c207, c208, c209, c210, c211, c212, c213, c214, c215, c216, c217, c218, c219, c220, c221, c222, c223, c224, c225, c226, c227, c228, c229, c230, c231, c232, c233, c234, c235, c236, c237, c238, c239, c240, c241, c242, c243, c244, c245, c246, c247, c248, c249, c250, c251, c252, c253, c254, c255, c256, c257, c258, c259, c260, c261, c262, c263, c264, c265, c266, c267, c268, c269, c270, c271, c272, c273, c274, c275, c276, c277, c278, c279, c280, c281, c282, c283, c284, c285, c286, c287, c288, c289, c290, c291, c292, c293, c294, c295, c296, c297, c298, c299, c300, c301, c302, c303, c304, c305, c306, c307, c308, c309, c310, c311, c312, c313, c314, c315, c316, c317, c318, c319, c320, c321, c322, c323, c324, c325, c326, c327, c328, c329, c330, c331, c332, c333, c334, c335, c336, c337, c338, c339, c340, c341, c342, c343, c344, c345, c346, c347, c348, c349, c350, c351, c352, c353, c354, c355, c356, c357, c358, c359, c360, c361, c362, c363, c364, c365, c366, c367, c368, c369, c370, c371, c372, c373, c374, c375, c376, c377, c378, c379, c380, c381, c382, c383, c384, undef, undef, undef, undef, undef, undef, undef, undef, undef, undef, undef, undef, undef, undef, undef, undef, undef, undef, undef, undef, undef, undef, undef, undef, undef, undef, undef, undef, undef, undef, undef, undef, undef, undef, undef, undef, undef, undef, undef, undef, undef, undef, undef, undef, undef, undef, undef, undef, undef, undef, undef, undef, undef, undef, undef, undef, undef, undef, undef, undef, undef, undef, undef, undef, undef, undef, undef, undef, undef, undef, undef, undef, undef, undef, undef, undef, undef, undef, undef, undef, undef, undef, undef, undef, undef, undef, undef, undef, undef, undef, undef, undef, undef, undef, undef, undef, undef, undef, undef, undef, undef, undef, undef, undef, undef, undef, undef, undef, undef, undef, undef, undef, undef, undef, undef, undef, undef, undef, undef, undef, undef, undef, undef, undef, undef, undef, undef, undef], []⟩ w := by
  have hmx : Try.prog.follows .mixedOrders = true := by kernel_rfl
  conv => arg 2; whnf
  go_wp2_with fail
  refine (kn_t1 I J K).mono ?_
  rintro e x1 ⟨rfl, u2⟩
  replace U := U.trans u2
  replace mB := u2.blk mB
  replace I := I.up u2
  replace J := J.up u2
  replace K := K.up u2
  clear u2 
  have dmBm1 := blk_lt mB
  have gm1 := U.size
  have m1 := blk_new x1 (.cells #[.int .i64 30, .int .i64 85] 23) _ rfl
  replace mB := blk_keep (.cells #[.int .i64 30, .int .i64 85] 23) mB
  replace U := U.alloc (.cells #[.int .i64 30, .int .i64 85] 23)
  replace I := I.up ((Up.refl x1).alloc (.cells #[.int .i64 30, .int .i64 85] 23))
  replace J := J.up ((Up.refl x1).alloc (.cells #[.int .i64 30, .int .i64 85] 23))
  replace K := K.up ((Up.refl x1).alloc (.cells #[.int .i64 30, .int .i64 85] 23))
  obtain ⟨pm1, hpm1⟩ : ∃ z, x1.heap.size = z := ⟨_, rfl⟩
  obtain ⟨W3, hW3⟩ : ∃ z, x1.alloc (.cells #[.int .i64 30, .int .i64 85] 23) = z := ⟨_, rfl⟩
  rw [hpm1] at m1 dmBm1 gm1
  rw [hW3] at m1 U mB I J K
  go_wp2_with fail
  clear hpm1 hW3
  refine (kn_t2 I J K).mono ?_
  rintro e x4 ⟨rfl, u5⟩
  replace U := U.trans u5
  replace mB := u5.blk mB
  replace m1 := u5.blk m1
  replace I := I.up u5
  replace J := J.up u5
  replace K := K.up u5
  clear u5 
  have dmBm2 := blk_lt mB
  have dm1m2 := blk_lt m1
  have gm2 := U.size
  have m2 := blk_new x4 (.cells #[.int .i64 45, .int .i64 85] 23) _ rfl
  replace mB := blk_keep (.cells #[.int .i64 45, .int .i64 85] 23) mB
  replace m1 := blk_keep (.cells #[.int .i64 45, .int .i64 85] 23) m1
  replace U := U.alloc (.cells #[.int .i64 45, .int .i64 85] 23)
  replace I := I.up ((Up.refl x4).alloc (.cells #[.int .i64 45, .int .i64 85] 23))
  replace J := J.up ((Up.refl x4).alloc (.cells #[.int .i64 45, .int .i64 85] 23))
  replace K := K.up ((Up.refl x4).alloc (.cells #[.int .i64 45, .int .i64 85] 23))
  obtain ⟨pm2, hpm2⟩ : ∃ z, x4.heap.size = z := ⟨_, rfl⟩
  obtain ⟨W6, hW6⟩ : ∃ z, x4.alloc (.cells #[.int .i64 45, .int .i64 85] 23) = z := ⟨_, rfl⟩
  rw [hpm2] at m2 dmBm2 dm1m2 gm2
  rw [hW6] at m2 U mB m1 I J K
  go_wp2_with fail
  clear hpm2 hW6
  refine (kn_t3 I J K).mono ?_
  rintro e x7 ⟨rfl, u8⟩
  replace U := U.trans u8
  replace mB := u8.blk mB
  replace m1 := u8.blk m1
  replace m2 := u8.blk m2
  replace I := I.up u8
  replace J := J.up u8
  replace K := K.up u8
  clear u8 
  have dmBm3 := blk_lt mB
  have dm1m3 := blk_lt m1
  have dm2m3 := blk_lt m2
  have gm3 := U.size
  have m3 := blk_new x7 (.cells #[.int .i64 20, .int .i64 40] 23) _ rfl
  replace mB := blk_keep (.cells #[.int .i64 20, .int .i64 40] 23) mB
  replace m1 := blk_keep (.cells #[.int .i64 20, .int .i64 40] 23) m1
  replace m2 := blk_keep (.cells #[.int .i64 20, .int .i64 40] 23) m2
  replace U := U.alloc (.cells #[.int .i64 20, .int .i64 40] 23)
  replace I := I.up ((Up.refl x7).alloc (.cells #[.int .i64 20, .int .i64 40] 23))
  replace J := J.up ((Up.refl x7).alloc (.cells #[.int .i64 20, .int .i64 40] 23))
  replace K := K.up ((Up.refl x7).alloc (.cells #[.int .i64 20, .int .i64 40] 23))
  obtain ⟨pm3, hpm3⟩ : ∃ z, x7.heap.size = z := ⟨_, rfl⟩
  obtain ⟨W9, hW9⟩ : ∃ z, x7.alloc (.cells #[.int .i64 20, .int .i64 40] 23) = z := ⟨_, rfl⟩
  rw [hpm3] at m3 dmBm3 dm1m3 dm2m3 gm3
  rw [hW9] at m3 U mB m1 m2 I J K
  go_wp2_with fail
  clear hpm3 hW9
  refine (kn_t4 I J K).mono ?_
  rintro e x10 ⟨rfl, u11⟩
  replace U := U.trans u11
  replace mB := u11.blk mB
  replace m1 := u11.blk m1
  replace m2 := u11.blk m2
  replace m3 := u11.blk m3
  replace I := I.up u11
  replace J := J.up u11
  replace K := K.up u11
  clear u11 
  have dmBm4 := blk_lt mB
  have dm1m4 := blk_lt m1
  have dm2m4 := blk_lt m2
  have dm3m4 := blk_lt m3
  have gm4 := U.size
  have m4 := blk_new x10 (.cells #[.int .i64 0, .int .i64 20] 23) _ rfl
  replace mB := blk_keep (.cells #[.int .i64 0, .int .i64 20] 23) mB
  replace m1 := blk_keep (.cells #[.int .i64 0, .int .i64 20] 23) m1
  replace m2 := blk_keep (.cells #[.int .i64 0, .int .i64 20] 23) m2
  replace m3 := blk_keep (.cells #[.int .i64 0, .int .i64 20] 23) m3
  replace U := U.alloc (.cells #[.int .i64 0, .int .i64 20] 23)
  replace I := I.up ((Up.refl x10).alloc (.cells #[.int .i64 0, .int .i64 20] 23))
  replace J := J.up ((Up.refl x10).alloc (.cells #[.int .i64 0, .int .i64 20] 23))
  replace K := K.up ((Up.refl x10).alloc (.cells #[.int .i64 0, .int .i64 20] 23))
  go_wp2_with fail
  obtain ⟨pm4, hpm4⟩ : ∃ z, x10.heap.size = z := ⟨_, rfl⟩
  obtain ⟨W12, hW12⟩ : ∃ z, x10.alloc (.cells #[.int .i64 0, .int .i64 20] 23) = z := ⟨_, rfl⟩
  rw [hpm4] at m4 dmBm4 dm1m4 dm2m4 dm3m4 gm4
  rw [hW12] at m4 U mB m1 m2 m3 I J K
  rw [hW12, hpm4]
  skip
  clear hpm4 hW12
  refine (kn_t5 I J K).mono ?_
  rintro e x13 ⟨rfl, u14⟩
  replace U := U.trans u14
  replace mB := u14.blk mB
  replace m1 := u14.blk m1
  replace m2 := u14.blk m2
  replace m3 := u14.blk m3
  replace m4 := u14.blk m4
  replace I := I.up u14
  replace J := J.up u14
  replace K := K.up u14
  clear u14 
  have dmBm5 := blk_lt mB
  have dm1m5 := blk_lt m1
  have dm2m5 := blk_lt m2
  have dm3m5 := blk_lt m3
  have dm4m5 := blk_lt m4
  have gm5 := U.size
  have m5 := blk_new x13 (.cells #[.int .i64 (-20), .int .i64 20] 23) _ rfl
  replace mB := blk_keep (.cells #[.int .i64 (-20), .int .i64 20] 23) mB
  replace m1 := blk_keep (.cells #[.int .i64 (-20), .int .i64 20] 23) m1
  replace m2 := blk_keep (.cells #[.int .i64 (-20), .int .i64 20] 23) m2
  replace m3 := blk_keep (.cells #[.int .i64 (-20), .int .i64 20] 23) m3
  replace m4 := blk_keep (.cells #[.int .i64 (-20), .int .i64 20] 23) m4
  replace U := U.alloc (.cells #[.int .i64 (-20), .int .i64 20] 23)
  replace I := I.up ((Up.refl x13).alloc (.cells #[.int .i64 (-20), .int .i64 20] 23))
  replace J := J.up ((Up.refl x13).alloc (.cells #[.int .i64 (-20), .int .i64 20] 23))
  replace K := K.up ((Up.refl x13).alloc (.cells #[.int .i64 (-20), .int .i64 20] 23))
  obtain ⟨pm5, hpm5⟩ : ∃ z, x13.heap.size = z := ⟨_, rfl⟩
  obtain ⟨W15, hW15⟩ : ∃ z, x13.alloc (.cells #[.int .i64 (-20), .int .i64 20] 23) = z := ⟨_, rfl⟩
  rw [hpm5] at m5 dmBm5 dm1m5 dm2m5 dm3m5 dm4m5 gm5
  rw [hW15] at m5 U mB m1 m2 m3 m4 I J K
  go_wp2_with fail
  clear hpm5 hW15
  refine (kn_t6 I J K).mono ?_
  rintro e x16 ⟨⟨av, cv, rfl⟩, u17⟩
  replace U := U.trans u17
  replace mB := u17.blk mB
  replace m1 := u17.blk m1
  replace m2 := u17.blk m2
  replace m3 := u17.blk m3
  replace m4 := u17.blk m4
  replace m5 := u17.blk m5
  replace I := I.up u17
  replace J := J.up u17
  replace K := K.up u17
  clear u17 
  go_wp2_with fail
  refine (kn_t7 I J K).mono ?_
  rintro e x18 ⟨⟨ai, ci, rfl⟩, u19⟩
  replace U := U.trans u19
  replace mB := u19.blk mB
  replace m1 := u19.blk m1
  replace m2 := u19.blk m2
  replace m3 := u19.blk m3
  replace m4 := u19.blk m4
  replace m5 := u19.blk m5
  replace I := I.up u19
  replace J := J.up u19
  replace K := K.up u19
  clear u19 I J K
  clear mB
  go_wp2_with fail
  refine (B_To_any 7 7 _).mono ?_
  rintro e x20 ⟨rfl, u21⟩
  replace U := U.trans u21
  replace m1 := u21.blk m1
  replace m2 := u21.blk m2
  replace m3 := u21.blk m3
  replace m4 := u21.blk m4
  replace m5 := u21.blk m5
  clear u21 
  have dm1m6 := blk_lt m1
  have dm2m6 := blk_lt m2
  have dm3m6 := blk_lt m3
  have dm4m6 := blk_lt m4
  have dm5m6 := blk_lt m5
  have gm6 := U.size
  have m6 := blk_new x20 (.cells (BoC 1 7 7 0 0 (.slice none 0 0) (.slice none 0 0) (.slice none 0 0)) 27) _ rfl
  replace m1 := blk_keep (.cells (BoC 1 7 7 0 0 (.slice none 0 0) (.slice none 0 0) (.slice none 0 0)) 27) m1
  replace m2 := blk_keep (.cells (BoC 1 7 7 0 0 (.slice none 0 0) (.slice none 0 0) (.slice none 0 0)) 27) m2
  replace m3 := blk_keep (.cells (BoC 1 7 7 0 0 (.slice none 0 0) (.slice none 0 0) (.slice none 0 0)) 27) m3
  replace m4 := blk_keep (.cells (BoC 1 7 7 0 0 (.slice none 0 0) (.slice none 0 0) (.slice none 0 0)) 27) m4
  replace m5 := blk_keep (.cells (BoC 1 7 7 0 0 (.slice none 0 0) (.slice none 0 0) (.slice none 0 0)) 27) m5
  replace U := U.alloc (.cells (BoC 1 7 7 0 0 (.slice none 0 0) (.slice none 0 0) (.slice none 0 0)) 27)
  go_wp2_with fail
  obtain ⟨pm6, hpm6⟩ : ∃ z, x20.heap.size = z := ⟨_, rfl⟩
  obtain ⟨W22, hW22⟩ : ∃ z, x20.alloc (.cells (BoC 1 7 7 0 0 (.slice none 0 0) (.slice none 0 0) (.slice none 0 0)) 27) = z := ⟨_, rfl⟩
  rw [hpm6] at m6 dm1m6 dm2m6 dm3m6 dm4m6 dm5m6 gm6
  rw [hW22] at m6 U m1 m2 m3 m4 m5
  rw [hW22, hpm6]
  skip
  clear hpm6 hW22
  refine (kn_s1).mono ?_
  rintro e x23 ⟨⟨wa, wb, rfl⟩, u24⟩
  replace U := U.trans u24
  replace m1 := u24.blk m1
  replace m2 := u24.blk m2
  replace m3 := u24.blk m3
  replace m4 := u24.blk m4
  replace m5 := u24.blk m5
  replace m6 := u24.blk m6
  clear u24 
  go_wp2_with fail
  refine (kn_s2).mono ?_
  rintro e x25 ⟨⟨aO, cO, aE, cE, aA, cA, rfl, IT⟩, u26⟩
  replace U := U.trans u26
  replace m1 := u26.blk m1
  replace m2 := u26.blk m2
  replace m3 := u26.blk m3
  replace m4 := u26.blk m4
  replace m5 := u26.blk m5
  replace m6 := u26.blk m6
  clear u26 
  clear m6
  have dm1m7 := blk_lt m1
  have dm2m7 := blk_lt m2
  have dm3m7 := blk_lt m3
  have dm4m7 := blk_lt m4
  have dm5m7 := blk_lt m5
  have gm7 := U.size
  have m7 := blk_new x25 (.cells #[.slice aO 1 cO, .slice aE 0 cE, .slice aA 0 cA] 30) _ rfl
  replace m1 := blk_keep (.cells #[.slice aO 1 cO, .slice aE 0 cE, .slice aA 0 cA] 30) m1
  replace m2 := blk_keep (.cells #[.slice aO 1 cO, .slice aE 0 cE, .slice aA 0 cA] 30) m2
  replace m3 := blk_keep (.cells #[.slice aO 1 cO, .slice aE 0 cE, .slice aA 0 cA] 30) m3
  replace m4 := blk_keep (.cells #[.slice aO 1 cO, .slice aE 0 cE, .slice aA 0 cA] 30) m4
  replace m5 := blk_keep (.cells #[.slice aO 1 cO, .slice aE 0 cE, .slice aA 0 cA] 30) m5
  replace U := U.alloc (.cells #[.slice aO 1 cO, .slice aE 0 cE, .slice aA 0 cA] 30)
  replace IT := IT.up ((Up.refl x25).alloc (.cells #[.slice aO 1 cO, .slice aE 0 cE, .slice aA 0 cA] 30))
  go_wp2_with fail
  obtain ⟨pm7, hpm7⟩ : ∃ z, x25.heap.size = z := ⟨_, rfl⟩
  obtain ⟨W27, hW27⟩ : ∃ z, x25.alloc (.cells #[.slice aO 1 cO, .slice aE 0 cE, .slice aA 0 cA] 30) = z := ⟨_, rfl⟩
  rw [hpm7] at m7 dm1m7 dm2m7 dm3m7 dm4m7 dm5m7 gm7
  rw [hW27] at m7 U m1 m2 m3 m4 m5 IT
  rw [hW27, hpm7]
  skip
  clear hpm7 hW27
  have F29 := Lib.hid (fun w (u : Up W27 w) => cellB (u.blk m1))
  have F30 := Lib.hid (fun w (u : Up W27 w) => cellB (u.blk m2))
  have F31 := Lib.hid (fun w (u : Up W27 w) => cellB (u.blk m3))
  have F32 := Lib.hid (fun w (u : Up W27 w) => cellB (u.blk m4))
  have F33 := Lib.hid (fun w (u : Up W27 w) => cellB (u.blk m5))
  have F34 := Lib.hid (fun w (u : Up W27 w) => cellB (u.blk m7))
  refine (wpIn_wide (n := 5)).1 ?_
  refine wpIn_nrm ?_
  refine T.regionQ (fun w' => Up W27 w') 69 12 hmx (by as_aux_lemma => kernel_rfl) (by as_aux_lemma => kernel_rfl) ((Up.refl W27).drew) (fun hCl => ?_)
  refine T.qT 0 (some 433) ?v1 rfl rfl hCl ?hy1 (fun hCl' => ?_)
  case hy1 => (intro w hSw; refine T.qVal ?_ hSw; (try dsimp only [List.getElem_toArray, List.getElem_cons_succ, List.getElem_cons_zero]); go_simp; try with_reducible rfl)
  simp only [Act.put, List.setIfInBounds_toArray]; dsimp only [List.set_cons_zero, List.set_cons_succ]; replace hCl := hCl'; clear hCl'
  refine T.qT 1 (some 434) ?v2 rfl rfl hCl ?hy2 (fun hCl' => ?_)
  case hy2 => (intro w hSw; refine T.qVal ?_ hSw; (try dsimp only [List.getElem_toArray, List.getElem_cons_succ, List.getElem_cons_zero]); go_simp; try with_reducible rfl)
  simp only [Act.put, List.setIfInBounds_toArray]; dsimp only [List.set_cons_zero, List.set_cons_succ]; replace hCl := hCl'; clear hCl'
  refine T.qT 2 (some 435) ?v3 rfl rfl hCl ?hy3 (fun hCl' => ?_)
  case hy3 => (intro w hSw; refine T.qVal ?_ hSw; (try dsimp only [List.getElem_toArray, List.getElem_cons_succ, List.getElem_cons_zero]); go_simp; try with_reducible rfl)
  simp only [Act.put, List.setIfInBounds_toArray]; dsimp only [List.set_cons_zero, List.set_cons_succ]; replace hCl := hCl'; clear hCl'
  refine T.qT 3 (some 436) ?v4 rfl rfl hCl ?hy4 (fun hCl' => ?_)
  case hy4 => (intro w hSw; refine T.qVal ?_ hSw; (have fF29 := F29.out w hSw; have fF30 := F30.out w hSw; have fF31 := F31.out w hSw; have fF32 := F32.out w hSw; have fF33 := F33.out w hSw; have fF34 := F34.out w hSw); (try dsimp only [List.getElem_toArray, List.getElem_cons_succ, List.getElem_cons_zero]); go_simp; try with_reducible rfl)
  simp only [Act.put, List.setIfInBounds_toArray]; dsimp only [List.set_cons_zero, List.set_cons_succ]; replace hCl := hCl'; clear hCl'
  refine T.qT 4 (some 437) ((SpV 30 85)) rfl rfl hCl ?hy5 (fun hCl' => ?_)
  case hy5 => (intro w hSw; (have fF29 := F29.out w hSw; have fF30 := F30.out w hSw; have fF31 := F31.out w hSw; have fF32 := F32.out w hSw; have fF33 := F33.out w hSw; have fF34 := F34.out w hSw); (try dsimp only [List.getElem_toArray, List.getElem_cons_succ, List.getElem_cons_zero]); go_simp; (refine (callsIn_wide.2 (B_To_any 30 85 _)).mono ?_; rintro e w3 ⟨rfl, u3⟩; exact ⟨rfl, hSw.trans u3⟩))
  simp only [Act.put, List.setIfInBounds_toArray]; dsimp only [List.set_cons_zero, List.set_cons_succ]
  replace hCl := hCl'; clear hCl'
  refine T.qT 5 (some 438) ?v6 rfl rfl hCl ?hy6 (fun hCl' => ?_)
  case hy6 => (intro w hSw; refine T.qVal ?_ hSw; (try dsimp only [List.getElem_toArray, List.getElem_cons_succ, List.getElem_cons_zero]); go_simp; try with_reducible rfl)
  simp only [Act.put, List.setIfInBounds_toArray]; dsimp only [List.set_cons_zero, List.set_cons_succ]; replace hCl := hCl'; clear hCl'
  refine T.qT 6 (some 439) ?v7 rfl rfl hCl ?hy7 (fun hCl' => ?_)
  case hy7 => (intro w hSw; refine T.qVal ?_ hSw; (try dsimp only [List.getElem_toArray, List.getElem_cons_succ, List.getElem_cons_zero]); go_simp; try with_reducible rfl)
  simp only [Act.put, List.setIfInBounds_toArray]; dsimp only [List.set_cons_zero, List.set_cons_succ]; replace hCl := hCl'; clear hCl'
  refine T.qT 7 (some 440) ?v8 rfl rfl hCl ?hy8 (fun hCl' => ?_)
  case hy8 => (intro w hSw; refine T.qVal ?_ hSw; (try dsimp only [List.getElem_toArray, List.getElem_cons_succ, List.getElem_cons_zero]); go_simp; try with_reducible rfl)
  simp only [Act.put, List.setIfInBounds_toArray]; dsimp only [List.set_cons_zero, List.set_cons_succ]; replace hCl := hCl'; clear hCl'
  refine T.qT 8 (some 441) ?v9 rfl rfl hCl ?hy9 (fun hCl' => ?_)
  case hy9 => (intro w hSw; refine T.qVal ?_ hSw; (try dsimp only [List.getElem_toArray, List.getElem_cons_succ, List.getElem_cons_zero]); go_simp; try with_reducible rfl)
  simp only [Act.put, List.setIfInBounds_toArray]; dsimp only [List.set_cons_zero, List.set_cons_succ]; replace hCl := hCl'; clear hCl'
  refine T.qT 9 (some 442) ?v10 rfl rfl hCl ?hy10 (fun hCl' => ?_)
  case hy10 => (intro w hSw; refine T.qVal ?_ hSw; (try dsimp only [List.getElem_toArray, List.getElem_cons_succ, List.getElem_cons_zero]); go_simp; try with_reducible rfl)
  simp only [Act.put, List.setIfInBounds_toArray]; dsimp only [List.set_cons_zero, List.set_cons_succ]; replace hCl := hCl'; clear hCl'
  refine T.qT 10 (some 443) ?v11 rfl rfl hCl ?hy11 (fun hCl' => ?_)
  case hy11 => (intro w hSw; refine T.qVal ?_ hSw; (try dsimp only [List.getElem_toArray, List.getElem_cons_succ, List.getElem_cons_zero]); go_simp; try with_reducible rfl)
  simp only [Act.put, List.setIfInBounds_toArray]; dsimp only [List.set_cons_zero, List.set_cons_succ]; replace hCl := hCl'; clear hCl'
  refine T.qT 11 (some 444) ?v12 rfl rfl hCl ?hy12 (fun hCl' => ?_)
  case hy12 => (intro w hSw; refine T.qVal ?_ hSw; (try dsimp only [List.getElem_toArray, List.getElem_cons_succ, List.getElem_cons_zero]); go_simp; try with_reducible rfl)
  simp only [Act.put, List.setIfInBounds_toArray]; dsimp only [List.set_cons_zero, List.set_cons_succ]; replace hCl := hCl'; clear hCl'
  refine T.qT 12 (some 445) ?v13 rfl rfl hCl ?hy13 (fun hCl' => ?_)
  case hy13 => (intro w hSw; refine T.qVal ?_ hSw; (have fF29 := F29.out w hSw; have fF30 := F30.out w hSw; have fF31 := F31.out w hSw; have fF32 := F32.out w hSw; have fF33 := F33.out w hSw; have fF34 := F34.out w hSw); (try dsimp only [List.getElem_toArray, List.getElem_cons_succ, List.getElem_cons_zero]); go_simp; try with_reducible rfl)
  simp only [Act.put, List.setIfInBounds_toArray]; dsimp only [List.set_cons_zero, List.set_cons_succ]; replace hCl := hCl'; clear hCl'
  refine T.qT 13 (some 446) ((SpV 45 85)) rfl rfl hCl ?hy14 (fun hCl' => ?_)
  case hy14 => (intro w hSw; (have fF29 := F29.out w hSw; have fF30 := F30.out w hSw; have fF31 := F31.out w hSw; have fF32 := F32.out w hSw; have fF33 := F33.out w hSw; have fF34 := F34.out w hSw); (try dsimp only [List.getElem_toArray, List.getElem_cons_succ, List.getElem_cons_zero]); go_simp; (refine (callsIn_wide.2 (B_To_any 45 85 _)).mono ?_; rintro e w3 ⟨rfl, u3⟩; exact ⟨rfl, hSw.trans u3⟩))
  simp only [Act.put, List.setIfInBounds_toArray]; dsimp only [List.set_cons_zero, List.set_cons_succ]
  replace hCl := hCl'; clear hCl'
  refine T.qT 14 (some 447) ?v15 rfl rfl hCl ?hy15 (fun hCl' => ?_)
  case hy15 => (intro w hSw; refine T.qVal ?_ hSw; (try dsimp only [List.getElem_toArray, List.getElem_cons_succ, List.getElem_cons_zero]); go_simp; try with_reducible rfl)
  simp only [Act.put, List.setIfInBounds_toArray]; dsimp only [List.set_cons_zero, List.set_cons_succ]; replace hCl := hCl'; clear hCl'
  refine T.qT 15 (some 448) ?v16 rfl rfl hCl ?hy16 (fun hCl' => ?_)
  case hy16 => (intro w hSw; refine T.qVal ?_ hSw; (try dsimp only [List.getElem_toArray, List.getElem_cons_succ, List.getElem_cons_zero]); go_simp; try with_reducible rfl)
  simp only [Act.put, List.setIfInBounds_toArray]; dsimp only [List.set_cons_zero, List.set_cons_succ]; replace hCl := hCl'; clear hCl'
  refine T.qT 16 (some 449) ?v17 rfl rfl hCl ?hy17 (fun hCl' => ?_)
  case hy17 => (intro w hSw; refine T.qVal ?_ hSw; (try dsimp only [List.getElem_toArray, List.getElem_cons_succ, List.getElem_cons_zero]); go_simp; try with_reducible rfl)
  simp only [Act.put, List.setIfInBounds_toArray]; dsimp only [List.set_cons_zero, List.set_cons_succ]; replace hCl := hCl'; clear hCl'
  refine T.qT 17 (some 450) ?v18 rfl rfl hCl ?hy18 (fun hCl' => ?_)
  case hy18 => (intro w hSw; refine T.qVal ?_ hSw; (try dsimp only [List.getElem_toArray, List.getElem_cons_succ, List.getElem_cons_zero]); go_simp; try with_reducible rfl)
  simp only [Act.put, List.setIfInBounds_toArray]; dsimp only [List.set_cons_zero, List.set_cons_succ]; replace hCl := hCl'; clear hCl'
  refine T.qT 18 (some 451) ?v19 rfl rfl hCl ?hy19 (fun hCl' => ?_)
  case hy19 => (intro w hSw; refine T.qVal ?_ hSw; (try dsimp only [List.getElem_toArray, List.getElem_cons_succ, List.getElem_cons_zero]); go_simp; try with_reducible rfl)
  simp only [Act.put, List.setIfInBounds_toArray]; dsimp only [List.set_cons_zero, List.set_cons_succ]; replace hCl := hCl'; clear hCl'
  refine T.qT 19 (some 452) ?v20 rfl rfl hCl ?hy20 (fun hCl' => ?_)
  case hy20 => (intro w hSw; refine T.qVal ?_ hSw; (try dsimp only [List.getElem_toArray, List.getElem_cons_succ, List.getElem_cons_zero]); go_simp; try with_reducible rfl)
  simp only [Act.put, List.setIfInBounds_toArray]; dsimp only [List.set_cons_zero, List.set_cons_succ]; replace hCl := hCl'; clear hCl'
  refine T.qT 20 (some 453) ?v21 rfl rfl hCl ?hy21 (fun hCl' => ?_)
  case hy21 => (intro w hSw; refine T.qVal ?_ hSw; (try dsimp only [List.getElem_toArray, List.getElem_cons_succ, List.getElem_cons_zero]); go_simp; try with_reducible rfl)
  simp only [Act.put, List.setIfInBounds_toArray]; dsimp only [List.set_cons_zero, List.set_cons_succ]; replace hCl := hCl'; clear hCl'
  refine T.qT 21 (some 454) ?v22 rfl rfl hCl ?hy22 (fun hCl' => ?_)
  case hy22 => (intro w hSw; refine T.qVal ?_ hSw; (have fF29 := F29.out w hSw; have fF30 := F30.out w hSw; have fF31 := F31.out w hSw; have fF32 := F32.out w hSw; have fF33 := F33.out w hSw; have fF34 := F34.out w hSw); (try dsimp only [List.getElem_toArray, List.getElem_cons_succ, List.getElem_cons_zero]); go_simp; try with_reducible rfl)
  simp only [Act.put, List.setIfInBounds_toArray]; dsimp only [List.set_cons_zero, List.set_cons_succ]; replace hCl := hCl'; clear hCl'
  refine T.qT 22 (some 455) ((SpV 20 40)) rfl rfl hCl ?hy23 (fun hCl' => ?_)
  case hy23 => (intro w hSw; (have fF29 := F29.out w hSw; have fF30 := F30.out w hSw; have fF31 := F31.out w hSw; have fF32 := F32.out w hSw; have fF33 := F33.out w hSw; have fF34 := F34.out w hSw); (try dsimp only [List.getElem_toArray, List.getElem_cons_succ, List.getElem_cons_zero]); go_simp; (refine (callsIn_wide.2 (B_To_any 20 40 _)).mono ?_; rintro e w3 ⟨rfl, u3⟩; exact ⟨rfl, hSw.trans u3⟩))
  simp only [Act.put, List.setIfInBounds_toArray]; dsimp only [List.set_cons_zero, List.set_cons_succ]
  replace hCl := hCl'; clear hCl'
  refine T.qT 23 (some 456) ?v24 rfl rfl hCl ?hy24 (fun hCl' => ?_)
  case hy24 => (intro w hSw; refine T.qVal ?_ hSw; (try dsimp only [List.getElem_toArray, List.getElem_cons_succ, List.getElem_cons_zero]); go_simp; try with_reducible rfl)
  simp only [Act.put, List.setIfInBounds_toArray]; dsimp only [List.set_cons_zero, List.set_cons_succ]; replace hCl := hCl'; clear hCl'
  refine T.qT 24 (some 457) ?v25 rfl rfl hCl ?hy25 (fun hCl' => ?_)
  case hy25 => (intro w hSw; refine T.qVal ?_ hSw; (try dsimp only [List.getElem_toArray, List.getElem_cons_succ, List.getElem_cons_zero]); go_simp; try with_reducible rfl)
  simp only [Act.put, List.setIfInBounds_toArray]; dsimp only [List.set_cons_zero, List.set_cons_succ]; replace hCl := hCl'; clear hCl'
  refine T.qT 25 (some 458) ?v26 rfl rfl hCl ?hy26 (fun hCl' => ?_)
  case hy26 => (intro w hSw; refine T.qVal ?_ hSw; (try dsimp only [List.getElem_toArray, List.getElem_cons_succ, List.getElem_cons_zero]); go_simp; try with_reducible rfl)
  simp only [Act.put, List.setIfInBounds_toArray]; dsimp only [List.set_cons_zero, List.set_cons_succ]; replace hCl := hCl'; clear hCl'
  refine T.qT 26 (some 459) ?v27 rfl rfl hCl ?hy27 (fun hCl' => ?_)
  case hy27 => (intro w hSw; refine T.qVal ?_ hSw; (try dsimp only [List.getElem_toArray, List.getElem_cons_succ, List.getElem_cons_zero]); go_simp; try with_reducible rfl)
  simp only [Act.put, List.setIfInBounds_toArray]; dsimp only [List.set_cons_zero, List.set_cons_succ]; replace hCl := hCl'; clear hCl'
  refine T.qT 27 (some 460) ?v28 rfl rfl hCl ?hy28 (fun hCl' => ?_)
  case hy28 => (intro w hSw; refine T.qVal ?_ hSw; (try dsimp only [List.getElem_toArray, List.getElem_cons_succ, List.getElem_cons_zero]); go_simp; try with_reducible rfl)
  simp only [Act.put, List.setIfInBounds_toArray]; dsimp only [List.set_cons_zero, List.set_cons_succ]; replace hCl := hCl'; clear hCl'
  refine T.qT 28 (some 461) ?v29 rfl rfl hCl ?hy29 (fun hCl' => ?_)
  case hy29 => (intro w hSw; refine T.qVal ?_ hSw; (try dsimp only [List.getElem_toArray, List.getElem_cons_succ, List.getElem_cons_zero]); go_simp; try with_reducible rfl)
  simp only [Act.put, List.setIfInBounds_toArray]; dsimp only [List.set_cons_zero, List.set_cons_succ]; replace hCl := hCl'; clear hCl'
  refine T.qT 29 (some 462) ?v30 rfl rfl hCl ?hy30 (fun hCl' => ?_)
  case hy30 => (intro w hSw; refine T.qVal ?_ hSw; (try dsimp only [List.getElem_toArray, List.getElem_cons_succ, List.getElem_cons_zero]); go_simp; try with_reducible rfl)
  simp only [Act.put, List.setIfInBounds_toArray]; dsimp only [List.set_cons_zero, List.set_cons_succ]; replace hCl := hCl'; clear hCl'
  refine T.qT 30 (some 463) ?v31 rfl rfl hCl ?hy31 (fun hCl' => ?_)
  case hy31 => (intro w hSw; refine T.qVal ?_ hSw; (have fF29 := F29.out w hSw; have fF30 := F30.out w hSw; have fF31 := F31.out w hSw; have fF32 := F32.out w hSw; have fF33 := F33.out w hSw; have fF34 := F34.out w hSw); (try dsimp only [List.getElem_toArray, List.getElem_cons_succ, List.getElem_cons_zero]); go_simp; try with_reducible rfl)
  simp only [Act.put, List.setIfInBounds_toArray]; dsimp only [List.set_cons_zero, List.set_cons_succ]; replace hCl := hCl'; clear hCl'
  refine T.qT 31 (some 464) ((SpV 0 20)) rfl rfl hCl ?hy32 (fun hCl' => ?_)
  case hy32 => (intro w hSw; (have fF29 := F29.out w hSw; have fF30 := F30.out w hSw; have fF31 := F31.out w hSw; have fF32 := F32.out w hSw; have fF33 := F33.out w hSw; have fF34 := F34.out w hSw); (try dsimp only [List.getElem_toArray, List.getElem_cons_succ, List.getElem_cons_zero]); go_simp; (refine (callsIn_wide.2 (B_To_any 0 20 _)).mono ?_; rintro e w3 ⟨rfl, u3⟩; exact ⟨rfl, hSw.trans u3⟩))
  simp only [Act.put, List.setIfInBounds_toArray]; dsimp only [List.set_cons_zero, List.set_cons_succ]
  replace hCl := hCl'; clear hCl'
  refine T.qT 32 (some 465) ?v33 rfl rfl hCl ?hy33 (fun hCl' => ?_)
  case hy33 => (intro w hSw; refine T.qVal ?_ hSw; (try dsimp only [List.getElem_toArray, List.getElem_cons_succ, List.getElem_cons_zero]); go_simp; try with_reducible rfl)
  simp only [Act.put, List.setIfInBounds_toArray]; dsimp only [List.set_cons_zero, List.set_cons_succ]; replace hCl := hCl'; clear hCl'
  refine T.qT 33 (some 466) ?v34 rfl rfl hCl ?hy34 (fun hCl' => ?_)
  case hy34 => (intro w hSw; refine T.qVal ?_ hSw; (try dsimp only [List.getElem_toArray, List.getElem_cons_succ, List.getElem_cons_zero]); go_simp; try with_reducible rfl)
  simp only [Act.put, List.setIfInBounds_toArray]; dsimp only [List.set_cons_zero, List.set_cons_succ]; replace hCl := hCl'; clear hCl'
  refine T.qT 34 (some 467) ?v35 rfl rfl hCl ?hy35 (fun hCl' => ?_)
  case hy35 => (intro w hSw; refine T.qVal ?_ hSw; (try dsimp only [List.getElem_toArray, List.getElem_cons_succ, List.getElem_cons_zero]); go_simp; try with_reducible rfl)
  simp only [Act.put, List.setIfInBounds_toArray]; dsimp only [List.set_cons_zero, List.set_cons_succ]; replace hCl := hCl'; clear hCl'
  refine T.qT 35 (some 468) ?v36 rfl rfl hCl ?hy36 (fun hCl' => ?_)
  case hy36 => (intro w hSw; refine T.qVal ?_ hSw; (try dsimp only [List.getElem_toArray, List.getElem_cons_succ, List.getElem_cons_zero]); go_simp; try with_reducible rfl)
  simp only [Act.put, List.setIfInBounds_toArray]; dsimp only [List.set_cons_zero, List.set_cons_succ]; replace hCl := hCl'; clear hCl'
  refine T.qT 36 (some 469) ?v37 rfl rfl hCl ?hy37 (fun hCl' => ?_)
  case hy37 => (intro w hSw; refine T.qVal ?_ hSw; (try dsimp only [List.getElem_toArray, List.getElem_cons_succ, List.getElem_cons_zero]); go_simp; try with_reducible rfl)
  simp only [Act.put, List.setIfInBounds_toArray]; dsimp only [List.set_cons_zero, List.set_cons_succ]; replace hCl := hCl'; clear hCl'
  refine T.qT 37 (some 470) ?v38 rfl rfl hCl ?hy38 (fun hCl' => ?_)
  case hy38 => (intro w hSw; refine T.qVal ?_ hSw; (try dsimp only [List.getElem_toArray, List.getElem_cons_succ, List.getElem_cons_zero]); go_simp; try with_reducible rfl)
  simp only [Act.put, List.setIfInBounds_toArray]; dsimp only [List.set_cons_zero, List.set_cons_succ]; replace hCl := hCl'; clear hCl'
  refine T.qT 38 (some 471) ?v39 rfl rfl hCl ?hy39 (fun hCl' => ?_)
  case hy39 => (intro w hSw; refine T.qVal ?_ hSw; (try dsimp only [List.getElem_toArray, List.getElem_cons_succ, List.getElem_cons_zero]); go_simp; try with_reducible rfl)
  simp only [Act.put, List.setIfInBounds_toArray]; dsimp only [List.set_cons_zero, List.set_cons_succ]; replace hCl := hCl'; clear hCl'
  refine T.qT 39 (some 472) ?v40 rfl rfl hCl ?hy40 (fun hCl' => ?_)
  case hy40 => (intro w hSw; refine T.qVal ?_ hSw; (have fF29 := F29.out w hSw; have fF30 := F30.out w hSw; have fF31 := F31.out w hSw; have fF32 := F32.out w hSw; have fF33 := F33.out w hSw; have fF34 := F34.out w hSw); (try dsimp only [List.getElem_toArray, List.getElem_cons_succ, List.getElem_cons_zero]); go_simp; try with_reducible rfl)
  simp only [Act.put, List.setIfInBounds_toArray]; dsimp only [List.set_cons_zero, List.set_cons_succ]; replace hCl := hCl'; clear hCl'
  refine T.qT 40 (some 473) ((SpV (-20) 20)) rfl rfl hCl ?hy41 (fun hCl' => ?_)
  case hy41 => (intro w hSw; (have fF29 := F29.out w hSw; have fF30 := F30.out w hSw; have fF31 := F31.out w hSw; have fF32 := F32.out w hSw; have fF33 := F33.out w hSw; have fF34 := F34.out w hSw); (try dsimp only [List.getElem_toArray, List.getElem_cons_succ, List.getElem_cons_zero]); go_simp; (refine (callsIn_wide.2 (B_To_any (-20) 20 _)).mono ?_; rintro e w3 ⟨rfl, u3⟩; exact ⟨rfl, hSw.trans u3⟩))
  simp only [Act.put, List.setIfInBounds_toArray]; dsimp only [List.set_cons_zero, List.set_cons_succ]
  replace hCl := hCl'; clear hCl'
  refine T.qT 41 (some 474) ?v42 rfl rfl hCl ?hy42 (fun hCl' => ?_)
  case hy42 => (intro w hSw; refine T.qVal ?_ hSw; (try dsimp only [List.getElem_toArray, List.getElem_cons_succ, List.getElem_cons_zero]); go_simp; try with_reducible rfl)
  simp only [Act.put, List.setIfInBounds_toArray]; dsimp only [List.set_cons_zero, List.set_cons_succ]; replace hCl := hCl'; clear hCl'
  refine T.qT 42 (some 475) ?v43 rfl rfl hCl ?hy43 (fun hCl' => ?_)
  case hy43 => (intro w hSw; refine T.qVal ?_ hSw; (try dsimp only [List.getElem_toArray, List.getElem_cons_succ, List.getElem_cons_zero]); go_simp; try with_reducible rfl)
  simp only [Act.put, List.setIfInBounds_toArray]; dsimp only [List.set_cons_zero, List.set_cons_succ]; replace hCl := hCl'; clear hCl'
  refine T.qT 43 (some 476) ?v44 rfl rfl hCl ?hy44 (fun hCl' => ?_)
  case hy44 => (intro w hSw; refine T.qVal ?_ hSw; (try dsimp only [List.getElem_toArray, List.getElem_cons_succ, List.getElem_cons_zero]); go_simp; try with_reducible rfl)
  simp only [Act.put, List.setIfInBounds_toArray]; dsimp only [List.set_cons_zero, List.set_cons_succ]; replace hCl := hCl'; clear hCl'
  refine T.qT 44 (some 477) ?v45 rfl rfl hCl ?hy45 (fun hCl' => ?_)
  case hy45 => (intro w hSw; refine T.qVal ?_ hSw; (try dsimp only [List.getElem_toArray, List.getElem_cons_succ, List.getElem_cons_zero]); go_simp; try with_reducible rfl)
  simp only [Act.put, List.setIfInBounds_toArray]; dsimp only [List.set_cons_zero, List.set_cons_succ]; replace hCl := hCl'; clear hCl'
  refine T.qT 45 (some 478) ?v46 rfl rfl hCl ?hy46 (fun hCl' => ?_)
  case hy46 => (intro w hSw; refine T.qVal ?_ hSw; (try dsimp only [List.getElem_toArray, List.getElem_cons_succ, List.getElem_cons_zero]); go_simp; try with_reducible rfl)
  simp only [Act.put, List.setIfInBounds_toArray]; dsimp only [List.set_cons_zero, List.set_cons_succ]; replace hCl := hCl'; clear hCl'
  refine T.qT 46 (some 479) ?v47 rfl rfl hCl ?hy47 (fun hCl' => ?_)
  case hy47 => (intro w hSw; refine T.qVal ?_ hSw; (try dsimp only [List.getElem_toArray, List.getElem_cons_succ, List.getElem_cons_zero]); go_simp; try with_reducible rfl)
  simp only [Act.put, List.setIfInBounds_toArray]; dsimp only [List.set_cons_zero, List.set_cons_succ]; replace hCl := hCl'; clear hCl'
  refine T.qT 47 (some 480) ?v48 rfl rfl hCl ?hy48 (fun hCl' => ?_)
  case hy48 => (intro w hSw; refine T.qVal ?_ hSw; (try dsimp only [List.getElem_toArray, List.getElem_cons_succ, List.getElem_cons_zero]); go_simp; try with_reducible rfl)
  simp only [Act.put, List.setIfInBounds_toArray]; dsimp only [List.set_cons_zero, List.set_cons_succ]; replace hCl := hCl'; clear hCl'
  refine T.qT 48 (some 481) ?v49 rfl rfl hCl ?hy49 (fun hCl' => ?_)
  case hy49 => (intro w hSw; refine T.qVal ?_ hSw; (try dsimp only [List.getElem_toArray, List.getElem_cons_succ, List.getElem_cons_zero]); go_simp; try with_reducible rfl)
  simp only [Act.put, List.setIfInBounds_toArray]; dsimp only [List.set_cons_zero, List.set_cons_succ]; replace hCl := hCl'; clear hCl'
  refine T.qT 49 (some 482) ?v50 rfl rfl hCl ?hy50 (fun hCl' => ?_)
  case hy50 => (intro w hSw; refine T.qVal ?_ hSw; (have fF29 := F29.out w hSw; have fF30 := F30.out w hSw; have fF31 := F31.out w hSw; have fF32 := F32.out w hSw; have fF33 := F33.out w hSw; have fF34 := F34.out w hSw); (try dsimp only [List.getElem_toArray, List.getElem_cons_succ, List.getElem_cons_zero]); go_simp; try with_reducible rfl)
  simp only [Act.put, List.setIfInBounds_toArray]; dsimp only [List.set_cons_zero, List.set_cons_succ]; replace hCl := hCl'; clear hCl'
  refine T.qT 50 (some 483) ?v51 rfl rfl hCl ?hy51 (fun hCl' => ?_)
  case hy51 => (intro w hSw; refine T.qVal ?_ hSw; (try dsimp only [List.getElem_toArray, List.getElem_cons_succ, List.getElem_cons_zero]); go_simp; try with_reducible rfl)
  simp only [Act.put, List.setIfInBounds_toArray]; dsimp only [List.set_cons_zero, List.set_cons_succ]; replace hCl := hCl'; clear hCl'
  refine T.qT 51 (some 484) ?v52 rfl rfl hCl ?hy52 (fun hCl' => ?_)
  case hy52 => (intro w hSw; refine T.qVal ?_ hSw; (try dsimp only [List.getElem_toArray, List.getElem_cons_succ, List.getElem_cons_zero]); go_simp; try with_reducible rfl)
  simp only [Act.put, List.setIfInBounds_toArray]; dsimp only [List.set_cons_zero, List.set_cons_succ]; replace hCl := hCl'; clear hCl'
  refine T.qT 52 (some 485) ?v53 rfl rfl hCl ?hy53 (fun hCl' => ?_)
  case hy53 => (intro w hSw; refine T.qVal ?_ hSw; (try dsimp only [List.getElem_toArray, List.getElem_cons_succ, List.getElem_cons_zero]); go_simp; try with_reducible rfl)
  simp only [Act.put, List.setIfInBounds_toArray]; dsimp only [List.set_cons_zero, List.set_cons_succ]; replace hCl := hCl'; clear hCl'
  refine T.qT 53 (some 486) ?v54 rfl rfl hCl ?hy54 (fun hCl' => ?_)
  case hy54 => (intro w hSw; refine T.qVal ?_ hSw; (try dsimp only [List.getElem_toArray, List.getElem_cons_succ, List.getElem_cons_zero]); go_simp; try with_reducible rfl)
  simp only [Act.put, List.setIfInBounds_toArray]; dsimp only [List.set_cons_zero, List.set_cons_succ]; replace hCl := hCl'; clear hCl'
  refine T.qT 54 (some 487) ?v55 rfl rfl hCl ?hy55 (fun hCl' => ?_)
  case hy55 => (intro w hSw; refine T.qVal ?_ hSw; (try dsimp only [List.getElem_toArray, List.getElem_cons_succ, List.getElem_cons_zero]); go_simp; try with_reducible rfl)
  simp only [Act.put, List.setIfInBounds_toArray]; dsimp only [List.set_cons_zero, List.set_cons_succ]; replace hCl := hCl'; clear hCl'
  refine T.qT 55 (some 488) ?v56 rfl rfl hCl ?hy56 (fun hCl' => ?_)
  case hy56 => (intro w hSw; refine T.qVal ?_ hSw; (try dsimp only [List.getElem_toArray, List.getElem_cons_succ, List.getElem_cons_zero]); go_simp; try with_reducible rfl)
  simp only [Act.put, List.setIfInBounds_toArray]; dsimp only [List.set_cons_zero, List.set_cons_succ]; replace hCl := hCl'; clear hCl'
  refine T.qT 56 (some 489) ?v57 rfl rfl hCl ?hy57 (fun hCl' => ?_)
  case hy57 => (intro w hSw; refine T.qVal ?_ hSw; (try dsimp only [List.getElem_toArray, List.getElem_cons_succ, List.getElem_cons_zero]); go_simp; try with_reducible rfl)
  simp only [Act.put, List.setIfInBounds_toArray]; dsimp only [List.set_cons_zero, List.set_cons_succ]; replace hCl := hCl'; clear hCl'
  refine T.qT 57 (some 490) ?v58 rfl rfl hCl ?hy58 (fun hCl' => ?_)
  case hy58 => (intro w hSw; refine T.qVal ?_ hSw; (try dsimp only [List.getElem_toArray, List.getElem_cons_succ, List.getElem_cons_zero]); go_simp; try with_reducible rfl)
  simp only [Act.put, List.setIfInBounds_toArray]; dsimp only [List.set_cons_zero, List.set_cons_succ]; replace hCl := hCl'; clear hCl'
  refine T.qT 58 (some 491) ?v59 rfl rfl hCl ?hy59 (fun hCl' => ?_)
  case hy59 => (intro w hSw; refine T.qVal ?_ hSw; (have fF29 := F29.out w hSw; have fF30 := F30.out w hSw; have fF31 := F31.out w hSw; have fF32 := F32.out w hSw; have fF33 := F33.out w hSw; have fF34 := F34.out w hSw); (try dsimp only [List.getElem_toArray, List.getElem_cons_succ, List.getElem_cons_zero]); go_simp; try with_reducible rfl)
  simp only [Act.put, List.setIfInBounds_toArray]; dsimp only [List.set_cons_zero, List.set_cons_succ]; replace hCl := hCl'; clear hCl'
  refine T.qT 59 (some 492) ?v60 rfl rfl hCl ?hy60 (fun hCl' => ?_)
  case hy60 => (intro w hSw; refine T.qVal ?_ hSw; (try dsimp only [List.getElem_toArray, List.getElem_cons_succ, List.getElem_cons_zero]); go_simp; try with_reducible rfl)
  simp only [Act.put, List.setIfInBounds_toArray]; dsimp only [List.set_cons_zero, List.set_cons_succ]; replace hCl := hCl'; clear hCl'
  refine T.qT 60 (some 493) ?v61 rfl rfl hCl ?hy61 (fun hCl' => ?_)
  case hy61 => (intro w hSw; refine T.qVal ?_ hSw; (try dsimp only [List.getElem_toArray, List.getElem_cons_succ, List.getElem_cons_zero]); go_simp; try with_reducible rfl)
  simp only [Act.put, List.setIfInBounds_toArray]; dsimp only [List.set_cons_zero, List.set_cons_succ]; replace hCl := hCl'; clear hCl'
  refine T.qT 61 (some 494) ?v62 rfl rfl hCl ?hy62 (fun hCl' => ?_)
  case hy62 => (intro w hSw; refine T.qVal ?_ hSw; (try dsimp only [List.getElem_toArray, List.getElem_cons_succ, List.getElem_cons_zero]); go_simp; try with_reducible rfl)
  simp only [Act.put, List.setIfInBounds_toArray]; dsimp only [List.set_cons_zero, List.set_cons_succ]; replace hCl := hCl'; clear hCl'
  refine T.qT 62 (some 495) ?v63 rfl rfl hCl ?hy63 (fun hCl' => ?_)
  case hy63 => (intro w hSw; refine T.qVal ?_ hSw; (try dsimp only [List.getElem_toArray, List.getElem_cons_succ, List.getElem_cons_zero]); go_simp; try with_reducible rfl)
  simp only [Act.put, List.setIfInBounds_toArray]; dsimp only [List.set_cons_zero, List.set_cons_succ]; replace hCl := hCl'; clear hCl'
  refine T.qT 63 (some 496) ?v64 rfl rfl hCl ?hy64 (fun hCl' => ?_)
  case hy64 => (intro w hSw; refine T.qVal ?_ hSw; (try dsimp only [List.getElem_toArray, List.getElem_cons_succ, List.getElem_cons_zero]); go_simp; try with_reducible rfl)
  simp only [Act.put, List.setIfInBounds_toArray]; dsimp only [List.set_cons_zero, List.set_cons_succ]; replace hCl := hCl'; clear hCl'
  refine T.qT 64 (some 497) ?v65 rfl rfl hCl ?hy65 (fun hCl' => ?_)
  case hy65 => (intro w hSw; refine T.qVal ?_ hSw; (try dsimp only [List.getElem_toArray, List.getElem_cons_succ, List.getElem_cons_zero]); go_simp; try with_reducible rfl)
  simp only [Act.put, List.setIfInBounds_toArray]; dsimp only [List.set_cons_zero, List.set_cons_succ]; replace hCl := hCl'; clear hCl'
  refine T.qT 65 (some 498) ?v66 rfl rfl hCl ?hy66 (fun hCl' => ?_)
  case hy66 => (intro w hSw; refine T.qVal ?_ hSw; (try dsimp only [List.getElem_toArray, List.getElem_cons_succ, List.getElem_cons_zero]); go_simp; try with_reducible rfl)
  simp only [Act.put, List.setIfInBounds_toArray]; dsimp only [List.set_cons_zero, List.set_cons_succ]; replace hCl := hCl'; clear hCl'
  refine T.qT 66 (some 499) ?v67 rfl rfl hCl ?hy67 (fun hCl' => ?_)
  case hy67 => (intro w hSw; refine T.qVal ?_ hSw; (try dsimp only [List.getElem_toArray, List.getElem_cons_succ, List.getElem_cons_zero]); go_simp; try with_reducible rfl)
  simp only [Act.put, List.setIfInBounds_toArray]; dsimp only [List.set_cons_zero, List.set_cons_succ]; replace hCl := hCl'; clear hCl'
  refine T.qT 67 (some 500) ?v68 rfl rfl hCl ?hy68 (fun hCl' => ?_)
  case hy68 => (intro w hSw; refine T.qVal ?_ hSw; (try dsimp only [List.getElem_toArray, List.getElem_cons_succ, List.getElem_cons_zero]); go_simp; try with_reducible rfl)
  simp only [Act.put, List.setIfInBounds_toArray]; dsimp only [List.set_cons_zero, List.set_cons_succ]; replace hCl := hCl'; clear hCl'
  refine T.qT 68 (some 501) ?v69 rfl rfl hCl ?hy69 (fun hCl' => ?_)
  case hy69 => (intro w hSw; refine T.qVal ?_ hSw; (try dsimp only [List.getElem_toArray, List.getElem_cons_succ, List.getElem_cons_zero]); go_simp; try with_reducible rfl)
  simp only [Act.put, List.setIfInBounds_toArray]; dsimp only [List.set_cons_zero, List.set_cons_succ]; replace hCl := hCl'; clear hCl'
  refine T.tail_intro (by as_aux_lemma => kernel_rfl) (fun Y28 hY28 => ?_)
  replace U := U.trans hY28
  replace m1 := hY28.blk m1
  replace m2 := hY28.blk m2
  replace m3 := hY28.blk m3
  replace m4 := hY28.blk m4
  replace m5 := hY28.blk m5
  replace m7 := hY28.blk m7
  replace IT := IT.up hY28
  clear F29 F30 F31 F32 F33 F34 hY28
  have k7 := blk_new Y28 (.cells #[.int .i64 7] 3) _ rfl
  have n7 := blk_keep (.cells #[.int .i64 7] 3) m7
  have IU := IT.up ((Up.refl Y28).alloc (.cells #[.int .i64 7] 3))
  replace U := U.alloc (.cells #[.int .i64 7] 3)
  refine lastG (i := 69) (by as_aux_lemma => kernel_rfl) rfl (by rfl) (by decide) (fun K hK => ?_)
  go_simp
  refine hK.out _ _ ?_
  clear hK K
  refine lastG2 (i := 70) (j := 72) (by as_aux_lemma => kernel_rfl) rfl rfl (by rfl) (by rfl) (by decide) (by decide) (fun K hK => ?_) (fun K hK => ?_)
  · go_simp
    refine hK.out _ _ ?_
    clear hK K
    refine lastG2 (i := 71) (j := 72) (by as_aux_lemma => kernel_rfl) rfl rfl (by rfl) (by rfl) (by decide) (by decide) (fun K hK => ?_) (fun K hK => ?_)
    · go_simp
      refine hK.out _ _ ?_
      clear hK K
      refine lastG (i := 72) (by as_aux_lemma => kernel_rfl) rfl (by rfl) (by decide) (fun K hK => ?_)
      go_simp
      refine hK.out _ _ ?_
      clear hK K
      refine lastG (i := 73) (by as_aux_lemma => kernel_rfl) rfl (by rfl) (by decide) (fun K hK => ?_)
      go_simp
      refine ⟨trivial, (callsIn_wide.2 (kn_alike IU k7)).mono ?_⟩
      rintro e z1 ⟨rfl, u1⟩
      replace U := U.trans u1
      refine hK.out _ _ ?_
      clear hK K
      refine lastG (i := 74) (by as_aux_lemma => kernel_rfl) rfl (by rfl) (by decide) (fun K hK => ?_)
      go_simp
      refine hK.out _ _ ?_
      clear hK K
      refine lastG (i := 75) (by as_aux_lemma => kernel_rfl) rfl (by rfl) (by decide) (fun K hK => ?_)
      go_simp
      refine hK.out _ _ ?_
      clear hK K
      refine lastG (i := 76) (by as_aux_lemma => kernel_rfl) rfl (by rfl) (by decide) (fun K hK => ?_)
      go_simp
      refine hK.out _ _ ?_
      clear hK K
      refine lastG (i := 77) (by as_aux_lemma => kernel_rfl) rfl (by rfl) (by decide) (fun K hK => ?_)
      go_simp
      refine hK.out _ _ ?_
      clear hK K
      refine lastG (i := 78) (by as_aux_lemma => kernel_rfl) rfl (by rfl) (by decide) (fun K hK => ?_)
      go_simp
      refine ⟨trivial, (callsIn_wide.2 (l_works_any _)).mono ?_⟩
      rintro e z2 ⟨rfl, u2⟩
      replace U := U.trans u2
      refine hK.out _ _ ?_
      clear hK K
      refine lastG (i := 79) (by as_aux_lemma => kernel_rfl) rfl (by rfl) (by decide) (fun K hK => ?_)
      go_simp
      refine hK.out _ _ ?_
      clear hK K
      refine lastG (i := 80) (by as_aux_lemma => kernel_rfl) rfl (by rfl) (by decide) (fun K hK => ?_)
      go_simp
      refine hK.out _ _ ?_
      clear hK K
      refine doneG (by as_aux_lemma => kernel_rfl) ?_ _
      refine S.nrm_intro ?_
      go_wp2
      go_ret
      exact ⟨rfl, U⟩
    · go_simp
      refine hK.out _ _ ?_
      clear hK K
      refine lastG (i := 71) (by as_aux_lemma => kernel_rfl) rfl (by rfl) (by decide) (fun K hK => ?_)
      go_simp
      refine hK.out _ _ ?_
      clear hK K
      refine lastG (i := 73) (by as_aux_lemma => kernel_rfl) rfl (by rfl) (by decide) (fun K hK => ?_)
      go_simp
      refine ⟨trivial, (callsIn_wide.2 (kn_alike IU k7)).mono ?_⟩
      rintro e z1 ⟨rfl, u1⟩
      replace U := U.trans u1
      refine hK.out _ _ ?_
      clear hK K
      refine lastG (i := 74) (by as_aux_lemma => kernel_rfl) rfl (by rfl) (by decide) (fun K hK => ?_)
      go_simp
      refine hK.out _ _ ?_
      clear hK K
      refine lastG (i := 75) (by as_aux_lemma => kernel_rfl) rfl (by rfl) (by decide) (fun K hK => ?_)
      go_simp
      refine hK.out _ _ ?_
      clear hK K
      refine lastG (i := 76) (by as_aux_lemma => kernel_rfl) rfl (by rfl) (by decide) (fun K hK => ?_)
      go_simp
      refine hK.out _ _ ?_
      clear hK K
      refine lastG (i := 77) (by as_aux_lemma => kernel_rfl) rfl (by rfl) (by decide) (fun K hK => ?_)
      go_simp
      refine hK.out _ _ ?_
      clear hK K
      refine lastG (i := 78) (by as_aux_lemma => kernel_rfl) rfl (by rfl) (by decide) (fun K hK => ?_)
      go_simp
      refine ⟨trivial, (callsIn_wide.2 (l_works_any _)).mono ?_⟩
      rintro e z2 ⟨rfl, u2⟩
      replace U := U.trans u2
      refine hK.out _ _ ?_
      clear hK K
      refine lastG (i := 79) (by as_aux_lemma => kernel_rfl) rfl (by rfl) (by decide) (fun K hK => ?_)
      go_simp
      refine hK.out _ _ ?_
      clear hK K
      refine lastG (i := 80) (by as_aux_lemma => kernel_rfl) rfl (by rfl) (by decide) (fun K hK => ?_)
      go_simp
      refine hK.out _ _ ?_
      clear hK K
      refine doneG (by as_aux_lemma => kernel_rfl) ?_ _
      refine S.nrm_intro ?_
      go_wp2
      go_ret
      exact ⟨rfl, U⟩
  · go_simp
    refine hK.out _ _ ?_
    clear hK K
    refine lastG (i := 70) (by as_aux_lemma => kernel_rfl) rfl (by rfl) (by decide) (fun K hK => ?_)
    go_simp
    refine hK.out _ _ ?_
    clear hK K
    refine lastG (i := 71) (by as_aux_lemma => kernel_rfl) rfl (by rfl) (by decide) (fun K hK => ?_)
    go_simp
    refine hK.out _ _ ?_
    clear hK K
    refine lastG (i := 73) (by as_aux_lemma => kernel_rfl) rfl (by rfl) (by decide) (fun K hK => ?_)
    go_simp
    refine ⟨trivial, (callsIn_wide.2 (kn_alike IU k7)).mono ?_⟩
    rintro e z1 ⟨rfl, u1⟩
    replace U := U.trans u1
    refine hK.out _ _ ?_
    clear hK K
    refine lastG (i := 74) (by as_aux_lemma => kernel_rfl) rfl (by rfl) (by decide) (fun K hK => ?_)
    go_simp
    refine hK.out _ _ ?_
    clear hK K
    refine lastG (i := 75) (by as_aux_lemma => kernel_rfl) rfl (by rfl) (by decide) (fun K hK => ?_)
    go_simp
    refine hK.out _ _ ?_
    clear hK K
    refine lastG (i := 76) (by as_aux_lemma => kernel_rfl) rfl (by rfl) (by decide) (fun K hK => ?_)
    go_simp
    refine hK.out _ _ ?_
    clear hK K
    refine lastG (i := 77) (by as_aux_lemma => kernel_rfl) rfl (by rfl) (by decide) (fun K hK => ?_)
    go_simp
    refine hK.out _ _ ?_
    clear hK K
    refine lastG (i := 78) (by as_aux_lemma => kernel_rfl) rfl (by rfl) (by decide) (fun K hK => ?_)
    go_simp
    refine ⟨trivial, (callsIn_wide.2 (l_works_any _)).mono ?_⟩
    rintro e z2 ⟨rfl, u2⟩
    replace U := U.trans u2
    refine hK.out _ _ ?_
    clear hK K
    refine lastG (i := 79) (by as_aux_lemma => kernel_rfl) rfl (by rfl) (by decide) (fun K hK => ?_)
    go_simp
    refine hK.out _ _ ?_
    clear hK K
    refine lastG (i := 80) (by as_aux_lemma => kernel_rfl) rfl (by rfl) (by decide) (fun K hK => ?_)
    go_simp
    refine hK.out _ _ ?_
    clear hK K
    refine doneG (by as_aux_lemma => kernel_rfl) ?_ _
    refine S.nrm_intro ?_
    go_wp2
    go_ret
    exact ⟨rfl, U⟩

end Go.Proofs.Ytlpkheoljbdajaa
