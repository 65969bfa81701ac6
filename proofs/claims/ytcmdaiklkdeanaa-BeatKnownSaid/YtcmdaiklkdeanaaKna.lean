import Derived.Test.YtcmdaiklkdeanaaKn0
/- The law BeatKnown: its end, regions 40 to 49. -/
namespace Go.Proofs.Ytcmdaiklkdeanaa
open Go.RowKit Go.Shelf
attribute [local go_sem] Oper.semAt_some
set_option maxRecDepth 1000000 in
set_option maxHeartbeats 8000000 in
set_option linter.unusedSimpArgs false in
theorem kn_tail27 (c0 c1 c2 c3 c4 c5 c6 c7 c8 c9 c10 c11 c12 c13 c14 c15 c16 c17 c18 c19 c20 c21 c22 c23 c24 c25 c26 c27 c28 c29 c30 c32 c33 c34 c35 c36 c37 c38 c39 c40 c41 c42 c43 c44 c45 c46 c47 c48 c49 c50 c51 c52 c53 c54 c55 c56 c57 c58 c59 c60 c61 c62 c63 c64 c65 c66 c67 c68 c69 c70 c71 c72 c73 c74 c75 c76 c77 c78 c79 c80 c81 c82 c83 c84 c85 c86 c87 c88 c89 c90 c91 c92 c93 c94 c95 c96 c97 c98 c99 c100 c101 c102 c103 c104 c105 c106 c107 c108 c109 c110 c111 c112 c113 c114 c115 c116 c117 c118 c119 c120 c121 c122 c123 c124 c125 c126 c127 c128 c129 c130 c131 c132 c133 c134 c135 c136 c137 c138 c139 c140 c141 c142 c143 c144 c145 c146 c147 c148 c149 c150 c151 c152 c153 c154 c155 c156 c157 c158 c159 c160 c161 c162 c163 c164 c165 c166 c167 c168 c169 c170 c171 c172 c173 c174 c175 c176 c177 c178 c179 c180 c181 c182 c183 c184 c185 c186 c187 c188 c189 c190 c191 c192 c193 c194 c195 c196 c197 c198 c199 c200 c201 c202 c203 c204 c205 c206 c207 c208 c209 c210 c211 c212 c213 c214 c215 c216 c217 c218 c219 c220 c221 c222 c223 c224 c225 c226 c227 c228 c229 c230 c231 c232 c233 c234 c235 c236 c237 c238 c239 c240 c241 c242 c243 c244 c245 c246 c247 c248 c249 c250 c251 c252 c253 c254 c255 c256 c257 c258 c259 c260 c261 c262 c263 c264 c265 c266 c267 c268 c269 c270 c271 c272 c273 c274 c275 c276 c277 c278 c279 c280 c281 c282 c283 c284 c285 c286 c287 c288 c289 c290 c291 c292 c293 c294 c295 c296 c297 c298 c299 c300 c301 c302 c303 c304 c305 c306 c307 c308 c309 c310 c311 c312 c313 c314 c315 c316 c317 c318 c319 c320 c321 c322 c323 c324 c325 c326 : Value) {w0 w : World} {pS pO pC : Nat} (lS : pS < pO) (lO : pO < pC) (lC : w0.heap.size ≤ pC) (mS : mblk w pS = some (.cells #[.int .i64 0, .int .i64 0] 34 (0, 0))) (mO : mblk w pO = some (.cells #[.int .i64 0, .int .i64 0, .int .i64 100000, .int .i64 100000, .int .i64 0, .int .i64 0, .int .i64 100000, .int .i64 100000, .int .i64 0, .int .i64 0, .int .i64 1, .int .i64 1] 63 (0, 0))) (mC : mblk w pC = some (.cells #[.int .i64 1, .slice (some ⟨pS, 0, none⟩) 1 1, .slice (some ⟨pO, 0, none⟩) 3 3, .slice none 0 0] 26 (0, 0))) (U : Up w0 w) : Code.wp Try.prog (Kn.rt 27 Kn.body) (bodyPost Try.prog Try.f14 fun e w' => e = .returned (.bool true) ∧ Up w0 w') ⟨#[c0, c1, c2, c3, c4, c5, c6, c7, c8, c9, c10, c11, c12, c13, c14, c15, c16, c17, c18, c19, c20, c21, c22, c23, c24, c25, c26, c27, c28, c29, c30, (.pointer (some ⟨pC, 0, none⟩)), c32, c33, c34, c35, c36, c37, c38, c39, c40, c41, c42, c43, c44, c45, c46, c47, c48, c49, c50, c51, c52, c53, c54, c55, c56, c57, c58, c59, c60, c61, c62, c63, c64, c65, c66, c67, c68, c69, c70, c71, c72, c73, c74, c75, c76, c77, c78, c79, c80, c81, c82, c83, c84, c85, c86, c87, c88, c89, c90, c91, c92, c93, c94, c95, c96, c97, c98, c99, c100, c101, c102, c103, c104, c105, c106, c107, c108, c109, c110, c111, c112, c113, c114, c115, c116, c117, c118, c119, c120, c121, c122, c123, c124, c125, c126, c127, c128, c129, c130, c131, c132, c133, c134, c135, c136, c137, c138, c139, c140, c141, c142, c143, c144, c145, c146, c147, c148, c149, c150, c151, c152, c153, c154, c155, c156, c157, c158, c159, c160, c161, c162, c163, c164, c165, c166, c167, c168, c169, c170, c171, c172, c173, c174, c175, c176, c177, c178, c179, c180, c181, c182, c183, c184, c185, c186, c187, c188, c189, c190, c191, c192, c193, c194, c195, c196, c197, c198, c199, c200, c201, c202, c203, c204, c205, c206, c207, c208, c209, c210, c211, c212, c213, c214, c215, c216, c217, c218, c219, c220, c221, c222, c223, c224, c225, c226, c227, c228, c229, c230, c231, c232, c233, c234, c235, c236, c237, c238, c239, c240, c241, c242, c243, c244, c245, c246, c247, c248, c249, c250, c251, c252, c253, c254, c255, c256, c257, c258, c259, c260, c261, c262, c263, c264, c265, c266, c267, c268, c269, c270, c271, c272, c273, c274, c275, c276, c277, c278, c279, c280, c281, c282, c283, c284, c285, c286, c287, c288, c289, c290, c291, c292, c293, c294, c295, c296, c297, c298, c299, c300, c301, c302, c303, c304, c305, c306, c307, c308, c309, c310, c311, c312, c313, c314, c315, c316, c317, c318, c319, c320, c321, c322, c323, c324, c325, c326, undef, undef, undef, undef, undef, undef, undef, undef, undef, undef, undef, undef, undef, undef, undef, undef, undef, undef, undef, undef, undef, undef, undef, undef, undef, undef, undef, undef, undef, undef, undef, undef, undef, undef, undef, undef, undef, undef, undef, undef, undef, undef, undef, undef, undef, undef, undef, undef, undef, undef, undef, undef, undef, undef, undef, undef, undef, undef, undef, undef, undef, undef, undef, undef, undef, undef, undef, undef, undef, undef, undef, undef, undef, undef, undef, undef, undef, undef, undef, undef, undef, undef, undef, undef, undef, undef, undef, undef, undef, undef, undef, undef, undef, undef, undef, undef, undef, undef, undef, undef, undef, undef, undef, undef, undef, undef, undef, undef, undef, undef, undef, undef, undef, undef, undef, undef, undef, undef, undef, undef, undef, undef, undef, undef, undef, undef, undef, undef], []⟩ w := by
  have hmx : Try.prog.follows .mixedOrders = true := by kernel_rfl
  conv => arg 2; whnf
  have zC := frozB mC
  go_upto_region 41 with (fail)
  clear zC
  obtain ⟨W1, hW⟩ : ∃ z, w.setCell ⟨pC, 2, none⟩ (.slice (some ⟨pO, 0, none⟩) 2 3) = z := ⟨_, rfl⟩
  replace U : Up w0 W1 := by rw [← hW]; exact Up.set U (p := ⟨pC, 2, none⟩) (show w0.heap.size ≤ pC by omega) _
  replace mS : mblk W1 pS = some (.cells #[.int .i64 0, .int .i64 0] 34 (0, 0)) := by rw [← hW]; exact (blk_set _ _ _ _ (show pS ≠ pC by omega)).trans mS
  replace mO : mblk W1 pO = some (.cells #[.int .i64 0, .int .i64 0, .int .i64 100000, .int .i64 100000, .int .i64 0, .int .i64 0, .int .i64 100000, .int .i64 100000, .int .i64 0, .int .i64 0, .int .i64 1, .int .i64 1] 63 (0, 0)) := by rw [← hW]; exact (blk_set _ _ _ _ (show pO ≠ pC by omega)).trans mO
  replace mC : mblk W1 pC = some (.cells #[.int .i64 1, .slice (some ⟨pS, 0, none⟩) 1 1, .slice (some ⟨pO, 0, none⟩) 2 3, .slice none 0 0] 26 (0, 0)) := by rw [← hW]; exact blk_put mC 2 _
  rw [hW]
  clear hW
  go_wp2_with fail
  refine (kn_far_off (kn_span mS) (kn_far2 mO) (Tab.nil _)).mono ?_
  rintro e x1 ⟨rfl, u2⟩
  replace U := U.trans u2
  replace mS := u2.blk mS
  replace mO := u2.blk mO
  replace mC := u2.blk mC
  clear u2 
  clear mS mO mC
  clear lS lC lO
  have gm1 := U.size
  have m1 := blk_new x1 (.cells #[.int .i64 100000, .int .i64 100000] 34) _ rfl
  replace U := U.alloc (.cells #[.int .i64 100000, .int .i64 100000] 34)
  obtain ⟨pm1, hpm1⟩ : ∃ z, x1.heap.size = z := ⟨_, rfl⟩
  obtain ⟨W3, hW3⟩ : ∃ z, x1.alloc (.cells #[.int .i64 100000, .int .i64 100000] 34) = z := ⟨_, rfl⟩
  rw [hpm1] at m1 gm1
  rw [hW3] at m1 U
  go_wp2_with fail
  clear hpm1 hW3
  refine (l_cellar_nil _).mono ?_
  rintro e x4 ⟨⟨a1, b1, d1, rfl, I1, J1, K1⟩, u5⟩
  replace U := U.trans u5
  replace m1 := u5.blk m1
  clear u5 
  go_wp2_with fail
  refine (kn_t1 I1 J1 K1).mono ?_
  rintro e x6 ⟨rfl, u7⟩
  replace U := U.trans u7
  replace m1 := u7.blk m1
  clear u7 I1 J1 K1
  have dm1m2 := blk_lt m1
  have gm2 := U.size
  have m2 := blk_new x6 (.cells #[.int .i64 (-5), .int .i64 136] 34) _ rfl
  replace m1 := blk_keep (.cells #[.int .i64 (-5), .int .i64 136] 34) m1
  replace U := U.alloc (.cells #[.int .i64 (-5), .int .i64 136] 34)
  obtain ⟨pm2, hpm2⟩ : ∃ z, x6.heap.size = z := ⟨_, rfl⟩
  obtain ⟨W8, hW8⟩ : ∃ z, x6.alloc (.cells #[.int .i64 (-5), .int .i64 136] 34) = z := ⟨_, rfl⟩
  rw [hpm2] at m2 dm1m2 gm2
  rw [hW8] at m2 U m1
  go_wp2_with fail
  clear hpm2 hW8
  refine (l_cellar_nil _).mono ?_
  rintro e x9 ⟨⟨a2, b2, d2, rfl, I2, J2, K2⟩, u10⟩
  replace U := U.trans u10
  replace m1 := u10.blk m1
  replace m2 := u10.blk m2
  clear u10 
  go_wp2_with fail
  refine (kn_t2 I2 J2 K2).mono ?_
  rintro e x11 ⟨rfl, u12⟩
  replace U := U.trans u12
  replace m1 := u12.blk m1
  replace m2 := u12.blk m2
  clear u12 I2 J2 K2
  have dm1m3 := blk_lt m1
  have dm2m3 := blk_lt m2
  have gm3 := U.size
  have m3 := blk_new x11 (.cells #[.int .i64 0, .int .i64 0] 34) _ rfl
  replace m1 := blk_keep (.cells #[.int .i64 0, .int .i64 0] 34) m1
  replace m2 := blk_keep (.cells #[.int .i64 0, .int .i64 0] 34) m2
  replace U := U.alloc (.cells #[.int .i64 0, .int .i64 0] 34)
  go_wp2_with fail
  obtain ⟨pm3, hpm3⟩ : ∃ z, x11.heap.size = z := ⟨_, rfl⟩
  obtain ⟨W13, hW13⟩ : ∃ z, x11.alloc (.cells #[.int .i64 0, .int .i64 0] 34) = z := ⟨_, rfl⟩
  rw [hpm3] at m3 dm1m3 dm2m3 gm3
  rw [hW13] at m3 U m1 m2
  rw [hW13, hpm3]
  skip
  clear hpm3 hW13
  refine (l_cellar_nil _).mono ?_
  rintro e x14 ⟨⟨a3, b3, d3, rfl, I3, J3, K3⟩, u15⟩
  replace U := U.trans u15
  replace m1 := u15.blk m1
  replace m2 := u15.blk m2
  replace m3 := u15.blk m3
  clear u15 
  go_wp2_with fail
  refine (kn_t3 I3 J3 K3).mono ?_
  rintro e x16 ⟨rfl, u17⟩
  replace U := U.trans u17
  replace m1 := u17.blk m1
  replace m2 := u17.blk m2
  replace m3 := u17.blk m3
  clear u17 I3 J3 K3
  have dm1m4 := blk_lt m1
  have dm2m4 := blk_lt m2
  have dm3m4 := blk_lt m3
  have gm4 := U.size
  have m4 := blk_new x16 (.cells #[.int .i64 (-3), .int .i64 0] 34) _ rfl
  replace m1 := blk_keep (.cells #[.int .i64 (-3), .int .i64 0] 34) m1
  replace m2 := blk_keep (.cells #[.int .i64 (-3), .int .i64 0] 34) m2
  replace m3 := blk_keep (.cells #[.int .i64 (-3), .int .i64 0] 34) m3
  replace U := U.alloc (.cells #[.int .i64 (-3), .int .i64 0] 34)
  go_wp2_with fail
  obtain ⟨pm4, hpm4⟩ : ∃ z, x16.heap.size = z := ⟨_, rfl⟩
  obtain ⟨W18, hW18⟩ : ∃ z, x16.alloc (.cells #[.int .i64 (-3), .int .i64 0] 34) = z := ⟨_, rfl⟩
  rw [hpm4] at m4 dm1m4 dm2m4 dm3m4 gm4
  rw [hW18] at m4 U m1 m2 m3
  rw [hW18, hpm4]
  skip
  clear hpm4 hW18
  refine (l_cellar_nil _).mono ?_
  rintro e x19 ⟨⟨a4, b4, d4, rfl, I4, J4, K4⟩, u20⟩
  replace U := U.trans u20
  replace m1 := u20.blk m1
  replace m2 := u20.blk m2
  replace m3 := u20.blk m3
  replace m4 := u20.blk m4
  clear u20 
  go_wp2_with fail
  refine (kn_t4 I4 J4 K4).mono ?_
  rintro e x21 ⟨⟨av, cv, rfl⟩, u22⟩
  replace U := U.trans u22
  replace m1 := u22.blk m1
  replace m2 := u22.blk m2
  replace m3 := u22.blk m3
  replace m4 := u22.blk m4
  clear u22 I4 J4 K4
  go_wp2_with fail
  refine (l_cellar_nil _).mono ?_
  rintro e x23 ⟨⟨a5, b5, d5, rfl, I5, J5, K5⟩, u24⟩
  replace U := U.trans u24
  replace m1 := u24.blk m1
  replace m2 := u24.blk m2
  replace m3 := u24.blk m3
  replace m4 := u24.blk m4
  clear u24 
  go_wp2_with fail
  refine (kn_best I5 J5 K5).mono ?_
  rintro e x25 ⟨rfl, u26⟩
  replace U := U.trans u26
  replace m1 := u26.blk m1
  replace m2 := u26.blk m2
  replace m3 := u26.blk m3
  replace m4 := u26.blk m4
  clear u26 I5 J5 K5
  go_wp2_with fail
  refine (l_cellar_nil _).mono ?_
  rintro e x27 ⟨⟨a6, b6, d6, rfl, I6, J6, K6⟩, u28⟩
  replace U := U.trans u28
  replace m1 := u28.blk m1
  replace m2 := u28.blk m2
  replace m3 := u28.blk m3
  replace m4 := u28.blk m4
  clear u28 
  have e1 := blk_keep (.cells #[.slice (some ⟨x27.heap.size, 0, none⟩) 4 4, .slice (some ⟨x27.heap.size + 1, 0, none⟩) 4 4, .slice (some ⟨x27.heap.size + 1 + 1, 0, none⟩) 3 3] 44) (blk_keep (.cells #[.int .i64 65, .int .i64 65, .int .i64 65] 3) (blk_keep (.cells #[.int .i64 57, .int .i64 58, .int .i64 59, .int .i64 60] 3) (blk_new x27 (.cells #[.int .i64 100, .int .i64 98, .int .i64 98, .int .i64 98] 3) _ rfl)))
  have e2 := blk_keep (.cells #[.slice (some ⟨x27.heap.size, 0, none⟩) 4 4, .slice (some ⟨x27.heap.size + 1, 0, none⟩) 4 4, .slice (some ⟨x27.heap.size + 1 + 1, 0, none⟩) 3 3] 44) (blk_keep (.cells #[.int .i64 65, .int .i64 65, .int .i64 65] 3) (blk_new (x27.alloc (.cells #[.int .i64 100, .int .i64 98, .int .i64 98, .int .i64 98] 3)) (.cells #[.int .i64 57, .int .i64 58, .int .i64 59, .int .i64 60] 3) (x27.heap.size + 1) (by simp)))
  have e3 := blk_keep (.cells #[.slice (some ⟨x27.heap.size, 0, none⟩) 4 4, .slice (some ⟨x27.heap.size + 1, 0, none⟩) 4 4, .slice (some ⟨x27.heap.size + 1 + 1, 0, none⟩) 3 3] 44) (blk_new ((x27.alloc (.cells #[.int .i64 100, .int .i64 98, .int .i64 98, .int .i64 98] 3)).alloc (.cells #[.int .i64 57, .int .i64 58, .int .i64 59, .int .i64 60] 3)) (.cells #[.int .i64 65, .int .i64 65, .int .i64 65] 3) (x27.heap.size + 1 + 1) (by simp))
  have e4 := blk_new (((x27.alloc (.cells #[.int .i64 100, .int .i64 98, .int .i64 98, .int .i64 98] 3)).alloc (.cells #[.int .i64 57, .int .i64 58, .int .i64 59, .int .i64 60] 3)).alloc (.cells #[.int .i64 65, .int .i64 65, .int .i64 65] 3)) (.cells #[.slice (some ⟨x27.heap.size, 0, none⟩) 4 4, .slice (some ⟨x27.heap.size + 1, 0, none⟩) 4 4, .slice (some ⟨x27.heap.size + 1 + 1, 0, none⟩) 3 3] 44) (x27.heap.size + 1 + 1 + 1) (by simp)
  have UA : Up x27 ((((x27.alloc (.cells #[.int .i64 100, .int .i64 98, .int .i64 98, .int .i64 98] 3)).alloc (.cells #[.int .i64 57, .int .i64 58, .int .i64 59, .int .i64 60] 3)).alloc (.cells #[.int .i64 65, .int .i64 65, .int .i64 65] 3)).alloc (.cells #[.slice (some ⟨x27.heap.size, 0, none⟩) 4 4, .slice (some ⟨x27.heap.size + 1, 0, none⟩) 4 4, .slice (some ⟨x27.heap.size + 1 + 1, 0, none⟩) 3 3] 44)) := ((((Up.refl x27).alloc (.cells #[.int .i64 100, .int .i64 98, .int .i64 98, .int .i64 98] 3)).alloc (.cells #[.int .i64 57, .int .i64 58, .int .i64 59, .int .i64 60] 3)).alloc (.cells #[.int .i64 65, .int .i64 65, .int .i64 65] 3)).alloc (.cells #[.slice (some ⟨x27.heap.size, 0, none⟩) 4 4, .slice (some ⟨x27.heap.size + 1, 0, none⟩) 4 4, .slice (some ⟨x27.heap.size + 1 + 1, 0, none⟩) 3 3] 44)
  have IR := kn_rows (x1 := [100, 98, 98, 98]) (x2 := [57, 58, 59, 60]) (x3 := [65, 65, 65]) e1 e2 e3 e4 (by decide) (by decide) (by decide) (by intro j hj; have p : j = 0 ∨ j = 1 ∨ j = 2 ∨ j = 3 := (by have q : j < 4 := hj; omega); rcases p with rfl | rfl | rfl | rfl <;> rfl) (by intro j hj; have p : j = 0 ∨ j = 1 ∨ j = 2 ∨ j = 3 := (by have q : j < 4 := hj; omega); rcases p with rfl | rfl | rfl | rfl <;> rfl) (by intro j hj; have p : j = 0 ∨ j = 1 ∨ j = 2 := (by have q : j < 3 := hj; omega); rcases p with rfl | rfl | rfl <;> rfl)
  clear e1 e2 e3 e4
  replace m1 := UA.blk m1
  replace m2 := UA.blk m2
  replace m3 := UA.blk m3
  replace m4 := UA.blk m4
  replace U := U.trans UA
  replace I6 := I6.up UA
  replace J6 := J6.up UA
  replace K6 := K6.up UA
  clear UA
  go_wp2_with fail
  refine (kn_i1 I6 J6 K6 IR).mono ?_
  rintro e x29 ⟨rfl, u30⟩
  replace U := U.trans u30
  replace m1 := u30.blk m1
  replace m2 := u30.blk m2
  replace m3 := u30.blk m3
  replace m4 := u30.blk m4
  clear u30 I6 J6 K6 IR
  go_wp2_with fail
  refine (l_cellar_nil _).mono ?_
  rintro e x31 ⟨⟨a7, b7, d7, rfl, I7, J7, K7⟩, u32⟩
  replace U := U.trans u32
  replace m1 := u32.blk m1
  replace m2 := u32.blk m2
  replace m3 := u32.blk m3
  replace m4 := u32.blk m4
  clear u32 
  have e1 := blk_keep (.cells #[.slice (some ⟨x31.heap.size, 0, none⟩) 4 4, .slice (some ⟨x31.heap.size + 1, 0, none⟩) 4 4, .slice (some ⟨x31.heap.size + 1 + 1, 0, none⟩) 4 4] 44) (blk_keep (.cells #[.int .i64 65, .int .i64 65, .int .i64 65, .int .i64 65] 3) (blk_keep (.cells #[.int .i64 57, .int .i64 58, .int .i64 59, .int .i64 60] 3) (blk_new x31 (.cells #[.int .i64 100, .int .i64 98, .int .i64 98, .int .i64 98] 3) _ rfl)))
  have e2 := blk_keep (.cells #[.slice (some ⟨x31.heap.size, 0, none⟩) 4 4, .slice (some ⟨x31.heap.size + 1, 0, none⟩) 4 4, .slice (some ⟨x31.heap.size + 1 + 1, 0, none⟩) 4 4] 44) (blk_keep (.cells #[.int .i64 65, .int .i64 65, .int .i64 65, .int .i64 65] 3) (blk_new (x31.alloc (.cells #[.int .i64 100, .int .i64 98, .int .i64 98, .int .i64 98] 3)) (.cells #[.int .i64 57, .int .i64 58, .int .i64 59, .int .i64 60] 3) (x31.heap.size + 1) (by simp)))
  have e3 := blk_keep (.cells #[.slice (some ⟨x31.heap.size, 0, none⟩) 4 4, .slice (some ⟨x31.heap.size + 1, 0, none⟩) 4 4, .slice (some ⟨x31.heap.size + 1 + 1, 0, none⟩) 4 4] 44) (blk_new ((x31.alloc (.cells #[.int .i64 100, .int .i64 98, .int .i64 98, .int .i64 98] 3)).alloc (.cells #[.int .i64 57, .int .i64 58, .int .i64 59, .int .i64 60] 3)) (.cells #[.int .i64 65, .int .i64 65, .int .i64 65, .int .i64 65] 3) (x31.heap.size + 1 + 1) (by simp))
  have e4 := blk_new (((x31.alloc (.cells #[.int .i64 100, .int .i64 98, .int .i64 98, .int .i64 98] 3)).alloc (.cells #[.int .i64 57, .int .i64 58, .int .i64 59, .int .i64 60] 3)).alloc (.cells #[.int .i64 65, .int .i64 65, .int .i64 65, .int .i64 65] 3)) (.cells #[.slice (some ⟨x31.heap.size, 0, none⟩) 4 4, .slice (some ⟨x31.heap.size + 1, 0, none⟩) 4 4, .slice (some ⟨x31.heap.size + 1 + 1, 0, none⟩) 4 4] 44) (x31.heap.size + 1 + 1 + 1) (by simp)
  have UA : Up x31 ((((x31.alloc (.cells #[.int .i64 100, .int .i64 98, .int .i64 98, .int .i64 98] 3)).alloc (.cells #[.int .i64 57, .int .i64 58, .int .i64 59, .int .i64 60] 3)).alloc (.cells #[.int .i64 65, .int .i64 65, .int .i64 65, .int .i64 65] 3)).alloc (.cells #[.slice (some ⟨x31.heap.size, 0, none⟩) 4 4, .slice (some ⟨x31.heap.size + 1, 0, none⟩) 4 4, .slice (some ⟨x31.heap.size + 1 + 1, 0, none⟩) 4 4] 44)) := ((((Up.refl x31).alloc (.cells #[.int .i64 100, .int .i64 98, .int .i64 98, .int .i64 98] 3)).alloc (.cells #[.int .i64 57, .int .i64 58, .int .i64 59, .int .i64 60] 3)).alloc (.cells #[.int .i64 65, .int .i64 65, .int .i64 65, .int .i64 65] 3)).alloc (.cells #[.slice (some ⟨x31.heap.size, 0, none⟩) 4 4, .slice (some ⟨x31.heap.size + 1, 0, none⟩) 4 4, .slice (some ⟨x31.heap.size + 1 + 1, 0, none⟩) 4 4] 44)
  have IR := kn_rows (x1 := [100, 98, 98, 98]) (x2 := [57, 58, 59, 60]) (x3 := [65, 65, 65, 65]) e1 e2 e3 e4 (by decide) (by decide) (by decide) (by intro j hj; have p : j = 0 ∨ j = 1 ∨ j = 2 ∨ j = 3 := (by have q : j < 4 := hj; omega); rcases p with rfl | rfl | rfl | rfl <;> rfl) (by intro j hj; have p : j = 0 ∨ j = 1 ∨ j = 2 ∨ j = 3 := (by have q : j < 4 := hj; omega); rcases p with rfl | rfl | rfl | rfl <;> rfl) (by intro j hj; have p : j = 0 ∨ j = 1 ∨ j = 2 ∨ j = 3 := (by have q : j < 4 := hj; omega); rcases p with rfl | rfl | rfl | rfl <;> rfl)
  clear e1 e2 e3 e4
  replace m1 := UA.blk m1
  replace m2 := UA.blk m2
  replace m3 := UA.blk m3
  replace m4 := UA.blk m4
  replace U := U.trans UA
  replace I7 := I7.up UA
  replace J7 := J7.up UA
  replace K7 := K7.up UA
  clear UA
  go_wp2_with fail
  refine (kn_i2 I7 J7 K7 IR).mono ?_
  rintro e x33 ⟨rfl, u34⟩
  replace U := U.trans u34
  replace m1 := u34.blk m1
  replace m2 := u34.blk m2
  replace m3 := u34.blk m3
  replace m4 := u34.blk m4
  clear u34 I7 J7 K7 IR
  go_wp2_with fail
  have F36 := Lib.hid (fun w (u : Up x33 w) => cellB (u.blk m1))
  have F37 := Lib.hid (fun w (u : Up x33 w) => cellB (u.blk m2))
  have F38 := Lib.hid (fun w (u : Up x33 w) => cellB (u.blk m3))
  have F39 := Lib.hid (fun w (u : Up x33 w) => cellB (u.blk m4))
  refine (wpIn_wide (n := 5)).1 ?_
  refine wpIn_nrm ?_
  refine T.regionQ (fun w' => Up x33 w') 75 1 hmx (by as_aux_lemma => kernel_rfl) (by as_aux_lemma => kernel_rfl) ((Up.refl x33).drew) (fun hCl => ?_)
  refine T.qT 0 (some 380) ?v1 rfl rfl hCl ?hy1 (fun hCl' => ?_)
  case hy1 => (intro w hSw; refine T.qVal ?_ hSw; (try dsimp only [List.getElem_toArray, List.getElem_cons_succ, List.getElem_cons_zero]); go_simp; try with_reducible rfl)
  simp only [Act.put, List.setIfInBounds_toArray]; dsimp only [List.set_cons_zero, List.set_cons_succ]; replace hCl := hCl'; clear hCl'
  refine T.qT 1 (some 381) ?v2 rfl rfl hCl ?hy2 (fun hCl' => ?_)
  case hy2 => (intro w hSw; refine T.qVal ?_ hSw; (try dsimp only [List.getElem_toArray, List.getElem_cons_succ, List.getElem_cons_zero]); go_simp; try with_reducible rfl)
  simp only [Act.put, List.setIfInBounds_toArray]; dsimp only [List.set_cons_zero, List.set_cons_succ]; replace hCl := hCl'; clear hCl'
  refine T.qT 2 (some 382) ?v3 rfl rfl hCl ?hy3 (fun hCl' => ?_)
  case hy3 => (intro w hSw; refine T.qVal ?_ hSw; (try dsimp only [List.getElem_toArray, List.getElem_cons_succ, List.getElem_cons_zero]); go_simp; try with_reducible rfl)
  simp only [Act.put, List.setIfInBounds_toArray]; dsimp only [List.set_cons_zero, List.set_cons_succ]; replace hCl := hCl'; clear hCl'
  refine T.qT 3 (some 383) ?v4 rfl rfl hCl ?hy4 (fun hCl' => ?_)
  case hy4 => (intro w hSw; refine T.qVal ?_ hSw; (have fF36 := F36.out w hSw; have fF37 := F37.out w hSw; have fF38 := F38.out w hSw; have fF39 := F39.out w hSw); (try dsimp only [List.getElem_toArray, List.getElem_cons_succ, List.getElem_cons_zero]); go_simp; try with_reducible rfl)
  simp only [Act.put, List.setIfInBounds_toArray]; dsimp only [List.set_cons_zero, List.set_cons_succ]; replace hCl := hCl'; clear hCl'
  refine T.qT 4 (some 384) ((SpV 100000 100000)) rfl rfl hCl ?hy5 (fun hCl' => ?_)
  case hy5 => (intro w hSw; (have fF36 := F36.out w hSw; have fF37 := F37.out w hSw; have fF38 := F38.out w hSw; have fF39 := F39.out w hSw); (try dsimp only [List.getElem_toArray, List.getElem_cons_succ, List.getElem_cons_zero]); go_simp; (refine (callsIn_wide.2 (B_To_any 100000 100000 _)).mono ?_; rintro e w3 ⟨rfl, u3⟩; exact ⟨rfl, hSw.trans u3⟩))
  simp only [Act.put, List.setIfInBounds_toArray]; dsimp only [List.set_cons_zero, List.set_cons_succ]
  replace hCl := hCl'; clear hCl'
  refine T.qT 5 (some 385) ?v6 rfl rfl hCl ?hy6 (fun hCl' => ?_)
  case hy6 => (intro w hSw; refine T.qVal ?_ hSw; (try dsimp only [List.getElem_toArray, List.getElem_cons_succ, List.getElem_cons_zero]); go_simp; try with_reducible rfl)
  simp only [Act.put, List.setIfInBounds_toArray]; dsimp only [List.set_cons_zero, List.set_cons_succ]; replace hCl := hCl'; clear hCl'
  refine T.qT 6 (some 386) ?v7 rfl rfl hCl ?hy7 (fun hCl' => ?_)
  case hy7 => (intro w hSw; refine T.qVal ?_ hSw; (try dsimp only [List.getElem_toArray, List.getElem_cons_succ, List.getElem_cons_zero]); go_simp; try with_reducible rfl)
  simp only [Act.put, List.setIfInBounds_toArray]; dsimp only [List.set_cons_zero, List.set_cons_succ]; replace hCl := hCl'; clear hCl'
  refine T.qT 7 (some 387) ?v8 rfl rfl hCl ?hy8 (fun hCl' => ?_)
  case hy8 => (intro w hSw; refine T.qVal ?_ hSw; (try dsimp only [List.getElem_toArray, List.getElem_cons_succ, List.getElem_cons_zero]); go_simp; try with_reducible rfl)
  simp only [Act.put, List.setIfInBounds_toArray]; dsimp only [List.set_cons_zero, List.set_cons_succ]; replace hCl := hCl'; clear hCl'
  refine T.qT 8 (some 388) ?v9 rfl rfl hCl ?hy9 (fun hCl' => ?_)
  case hy9 => (intro w hSw; refine T.qVal ?_ hSw; (try dsimp only [List.getElem_toArray, List.getElem_cons_succ, List.getElem_cons_zero]); go_simp; try with_reducible rfl)
  simp only [Act.put, List.setIfInBounds_toArray]; dsimp only [List.set_cons_zero, List.set_cons_succ]; replace hCl := hCl'; clear hCl'
  refine T.qT 9 (some 389) ?v10 rfl rfl hCl ?hy10 (fun hCl' => ?_)
  case hy10 => (intro w hSw; refine T.qVal ?_ hSw; (try dsimp only [List.getElem_toArray, List.getElem_cons_succ, List.getElem_cons_zero]); go_simp; try with_reducible rfl)
  simp only [Act.put, List.setIfInBounds_toArray]; dsimp only [List.set_cons_zero, List.set_cons_succ]; replace hCl := hCl'; clear hCl'
  refine T.qT 10 (some 390) ?v11 rfl rfl hCl ?hy11 (fun hCl' => ?_)
  case hy11 => (intro w hSw; refine T.qVal ?_ hSw; (try dsimp only [List.getElem_toArray, List.getElem_cons_succ, List.getElem_cons_zero]); go_simp; try with_reducible rfl)
  simp only [Act.put, List.setIfInBounds_toArray]; dsimp only [List.set_cons_zero, List.set_cons_succ]; replace hCl := hCl'; clear hCl'
  refine T.qT 11 (some 391) ?v12 rfl rfl hCl ?hy12 (fun hCl' => ?_)
  case hy12 => (intro w hSw; refine T.qVal ?_ hSw; (try dsimp only [List.getElem_toArray, List.getElem_cons_succ, List.getElem_cons_zero]); go_simp; try with_reducible rfl)
  simp only [Act.put, List.setIfInBounds_toArray]; dsimp only [List.set_cons_zero, List.set_cons_succ]; replace hCl := hCl'; clear hCl'
  refine T.qT 12 (some 392) ?v13 rfl rfl hCl ?hy13 (fun hCl' => ?_)
  case hy13 => (intro w hSw; refine T.qVal ?_ hSw; (have fF36 := F36.out w hSw; have fF37 := F37.out w hSw; have fF38 := F38.out w hSw; have fF39 := F39.out w hSw); (try dsimp only [List.getElem_toArray, List.getElem_cons_succ, List.getElem_cons_zero]); go_simp; try with_reducible rfl)
  simp only [Act.put, List.setIfInBounds_toArray]; dsimp only [List.set_cons_zero, List.set_cons_succ]; replace hCl := hCl'; clear hCl'
  refine T.qT 13 (some 393) ((SpV (-5) 136)) rfl rfl hCl ?hy14 (fun hCl' => ?_)
  case hy14 => (intro w hSw; (have fF36 := F36.out w hSw; have fF37 := F37.out w hSw; have fF38 := F38.out w hSw; have fF39 := F39.out w hSw); (try dsimp only [List.getElem_toArray, List.getElem_cons_succ, List.getElem_cons_zero]); go_simp; (refine (callsIn_wide.2 (B_To_any (-5) 136 _)).mono ?_; rintro e w3 ⟨rfl, u3⟩; exact ⟨rfl, hSw.trans u3⟩))
  simp only [Act.put, List.setIfInBounds_toArray]; dsimp only [List.set_cons_zero, List.set_cons_succ]
  replace hCl := hCl'; clear hCl'
  refine T.qT 14 (some 394) ?v15 rfl rfl hCl ?hy15 (fun hCl' => ?_)
  case hy15 => (intro w hSw; refine T.qVal ?_ hSw; (try dsimp only [List.getElem_toArray, List.getElem_cons_succ, List.getElem_cons_zero]); go_simp; try with_reducible rfl)
  simp only [Act.put, List.setIfInBounds_toArray]; dsimp only [List.set_cons_zero, List.set_cons_succ]; replace hCl := hCl'; clear hCl'
  refine T.qT 15 (some 395) ?v16 rfl rfl hCl ?hy16 (fun hCl' => ?_)
  case hy16 => (intro w hSw; refine T.qVal ?_ hSw; (try dsimp only [List.getElem_toArray, List.getElem_cons_succ, List.getElem_cons_zero]); go_simp; try with_reducible rfl)
  simp only [Act.put, List.setIfInBounds_toArray]; dsimp only [List.set_cons_zero, List.set_cons_succ]; replace hCl := hCl'; clear hCl'
  refine T.qT 16 (some 396) ?v17 rfl rfl hCl ?hy17 (fun hCl' => ?_)
  case hy17 => (intro w hSw; refine T.qVal ?_ hSw; (try dsimp only [List.getElem_toArray, List.getElem_cons_succ, List.getElem_cons_zero]); go_simp; try with_reducible rfl)
  simp only [Act.put, List.setIfInBounds_toArray]; dsimp only [List.set_cons_zero, List.set_cons_succ]; replace hCl := hCl'; clear hCl'
  refine T.qT 17 (some 397) ?v18 rfl rfl hCl ?hy18 (fun hCl' => ?_)
  case hy18 => (intro w hSw; refine T.qVal ?_ hSw; (try dsimp only [List.getElem_toArray, List.getElem_cons_succ, List.getElem_cons_zero]); go_simp; try with_reducible rfl)
  simp only [Act.put, List.setIfInBounds_toArray]; dsimp only [List.set_cons_zero, List.set_cons_succ]; replace hCl := hCl'; clear hCl'
  refine T.qT 18 (some 398) ?v19 rfl rfl hCl ?hy19 (fun hCl' => ?_)
  case hy19 => (intro w hSw; refine T.qVal ?_ hSw; (try dsimp only [List.getElem_toArray, List.getElem_cons_succ, List.getElem_cons_zero]); go_simp; try with_reducible rfl)
  simp only [Act.put, List.setIfInBounds_toArray]; dsimp only [List.set_cons_zero, List.set_cons_succ]; replace hCl := hCl'; clear hCl'
  refine T.qT 19 (some 399) ?v20 rfl rfl hCl ?hy20 (fun hCl' => ?_)
  case hy20 => (intro w hSw; refine T.qVal ?_ hSw; (try dsimp only [List.getElem_toArray, List.getElem_cons_succ, List.getElem_cons_zero]); go_simp; try with_reducible rfl)
  simp only [Act.put, List.setIfInBounds_toArray]; dsimp only [List.set_cons_zero, List.set_cons_succ]; replace hCl := hCl'; clear hCl'
  refine T.qT 20 (some 400) ?v21 rfl rfl hCl ?hy21 (fun hCl' => ?_)
  case hy21 => (intro w hSw; refine T.qVal ?_ hSw; (try dsimp only [List.getElem_toArray, List.getElem_cons_succ, List.getElem_cons_zero]); go_simp; try with_reducible rfl)
  simp only [Act.put, List.setIfInBounds_toArray]; dsimp only [List.set_cons_zero, List.set_cons_succ]; replace hCl := hCl'; clear hCl'
  refine T.qT 21 (some 401) ?v22 rfl rfl hCl ?hy22 (fun hCl' => ?_)
  case hy22 => (intro w hSw; refine T.qVal ?_ hSw; (have fF36 := F36.out w hSw; have fF37 := F37.out w hSw; have fF38 := F38.out w hSw; have fF39 := F39.out w hSw); (try dsimp only [List.getElem_toArray, List.getElem_cons_succ, List.getElem_cons_zero]); go_simp; try with_reducible rfl)
  simp only [Act.put, List.setIfInBounds_toArray]; dsimp only [List.set_cons_zero, List.set_cons_succ]; replace hCl := hCl'; clear hCl'
  refine T.qT 22 (some 402) ((SpV 0 0)) rfl rfl hCl ?hy23 (fun hCl' => ?_)
  case hy23 => (intro w hSw; (have fF36 := F36.out w hSw; have fF37 := F37.out w hSw; have fF38 := F38.out w hSw; have fF39 := F39.out w hSw); (try dsimp only [List.getElem_toArray, List.getElem_cons_succ, List.getElem_cons_zero]); go_simp; (refine (callsIn_wide.2 (B_To_any 0 0 _)).mono ?_; rintro e w3 ⟨rfl, u3⟩; exact ⟨rfl, hSw.trans u3⟩))
  simp only [Act.put, List.setIfInBounds_toArray]; dsimp only [List.set_cons_zero, List.set_cons_succ]
  replace hCl := hCl'; clear hCl'
  refine T.qT 23 (some 403) ?v24 rfl rfl hCl ?hy24 (fun hCl' => ?_)
  case hy24 => (intro w hSw; refine T.qVal ?_ hSw; (try dsimp only [List.getElem_toArray, List.getElem_cons_succ, List.getElem_cons_zero]); go_simp; try with_reducible rfl)
  simp only [Act.put, List.setIfInBounds_toArray]; dsimp only [List.set_cons_zero, List.set_cons_succ]; replace hCl := hCl'; clear hCl'
  refine T.qT 24 (some 404) ?v25 rfl rfl hCl ?hy25 (fun hCl' => ?_)
  case hy25 => (intro w hSw; refine T.qVal ?_ hSw; (try dsimp only [List.getElem_toArray, List.getElem_cons_succ, List.getElem_cons_zero]); go_simp; try with_reducible rfl)
  simp only [Act.put, List.setIfInBounds_toArray]; dsimp only [List.set_cons_zero, List.set_cons_succ]; replace hCl := hCl'; clear hCl'
  refine T.qT 25 (some 405) ?v26 rfl rfl hCl ?hy26 (fun hCl' => ?_)
  case hy26 => (intro w hSw; refine T.qVal ?_ hSw; (try dsimp only [List.getElem_toArray, List.getElem_cons_succ, List.getElem_cons_zero]); go_simp; try with_reducible rfl)
  simp only [Act.put, List.setIfInBounds_toArray]; dsimp only [List.set_cons_zero, List.set_cons_succ]; replace hCl := hCl'; clear hCl'
  refine T.qT 26 (some 406) ?v27 rfl rfl hCl ?hy27 (fun hCl' => ?_)
  case hy27 => (intro w hSw; refine T.qVal ?_ hSw; (try dsimp only [List.getElem_toArray, List.getElem_cons_succ, List.getElem_cons_zero]); go_simp; try with_reducible rfl)
  simp only [Act.put, List.setIfInBounds_toArray]; dsimp only [List.set_cons_zero, List.set_cons_succ]; replace hCl := hCl'; clear hCl'
  refine T.qT 27 (some 407) ?v28 rfl rfl hCl ?hy28 (fun hCl' => ?_)
  case hy28 => (intro w hSw; refine T.qVal ?_ hSw; (try dsimp only [List.getElem_toArray, List.getElem_cons_succ, List.getElem_cons_zero]); go_simp; try with_reducible rfl)
  simp only [Act.put, List.setIfInBounds_toArray]; dsimp only [List.set_cons_zero, List.set_cons_succ]; replace hCl := hCl'; clear hCl'
  refine T.qT 28 (some 408) ?v29 rfl rfl hCl ?hy29 (fun hCl' => ?_)
  case hy29 => (intro w hSw; refine T.qVal ?_ hSw; (try dsimp only [List.getElem_toArray, List.getElem_cons_succ, List.getElem_cons_zero]); go_simp; try with_reducible rfl)
  simp only [Act.put, List.setIfInBounds_toArray]; dsimp only [List.set_cons_zero, List.set_cons_succ]; replace hCl := hCl'; clear hCl'
  refine T.qT 29 (some 409) ?v30 rfl rfl hCl ?hy30 (fun hCl' => ?_)
  case hy30 => (intro w hSw; refine T.qVal ?_ hSw; (try dsimp only [List.getElem_toArray, List.getElem_cons_succ, List.getElem_cons_zero]); go_simp; try with_reducible rfl)
  simp only [Act.put, List.setIfInBounds_toArray]; dsimp only [List.set_cons_zero, List.set_cons_succ]; replace hCl := hCl'; clear hCl'
  refine T.qT 30 (some 410) ?v31 rfl rfl hCl ?hy31 (fun hCl' => ?_)
  case hy31 => (intro w hSw; refine T.qVal ?_ hSw; (have fF36 := F36.out w hSw; have fF37 := F37.out w hSw; have fF38 := F38.out w hSw; have fF39 := F39.out w hSw); (try dsimp only [List.getElem_toArray, List.getElem_cons_succ, List.getElem_cons_zero]); go_simp; try with_reducible rfl)
  simp only [Act.put, List.setIfInBounds_toArray]; dsimp only [List.set_cons_zero, List.set_cons_succ]; replace hCl := hCl'; clear hCl'
  refine T.qT 31 (some 411) ((SpV (-3) 0)) rfl rfl hCl ?hy32 (fun hCl' => ?_)
  case hy32 => (intro w hSw; (have fF36 := F36.out w hSw; have fF37 := F37.out w hSw; have fF38 := F38.out w hSw; have fF39 := F39.out w hSw); (try dsimp only [List.getElem_toArray, List.getElem_cons_succ, List.getElem_cons_zero]); go_simp; (refine (callsIn_wide.2 (B_To_any (-3) 0 _)).mono ?_; rintro e w3 ⟨rfl, u3⟩; exact ⟨rfl, hSw.trans u3⟩))
  simp only [Act.put, List.setIfInBounds_toArray]; dsimp only [List.set_cons_zero, List.set_cons_succ]
  replace hCl := hCl'; clear hCl'
  refine T.qT 32 (some 412) ?v33 rfl rfl hCl ?hy33 (fun hCl' => ?_)
  case hy33 => (intro w hSw; refine T.qVal ?_ hSw; (try dsimp only [List.getElem_toArray, List.getElem_cons_succ, List.getElem_cons_zero]); go_simp; try with_reducible rfl)
  simp only [Act.put, List.setIfInBounds_toArray]; dsimp only [List.set_cons_zero, List.set_cons_succ]; replace hCl := hCl'; clear hCl'
  refine T.qT 33 (some 413) ?v34 rfl rfl hCl ?hy34 (fun hCl' => ?_)
  case hy34 => (intro w hSw; refine T.qVal ?_ hSw; (try dsimp only [List.getElem_toArray, List.getElem_cons_succ, List.getElem_cons_zero]); go_simp; try with_reducible rfl)
  simp only [Act.put, List.setIfInBounds_toArray]; dsimp only [List.set_cons_zero, List.set_cons_succ]; replace hCl := hCl'; clear hCl'
  refine T.qT 34 (some 414) ?v35 rfl rfl hCl ?hy35 (fun hCl' => ?_)
  case hy35 => (intro w hSw; refine T.qVal ?_ hSw; (try dsimp only [List.getElem_toArray, List.getElem_cons_succ, List.getElem_cons_zero]); go_simp; try with_reducible rfl)
  simp only [Act.put, List.setIfInBounds_toArray]; dsimp only [List.set_cons_zero, List.set_cons_succ]; replace hCl := hCl'; clear hCl'
  refine T.qT 35 (some 415) ?v36 rfl rfl hCl ?hy36 (fun hCl' => ?_)
  case hy36 => (intro w hSw; refine T.qVal ?_ hSw; (try dsimp only [List.getElem_toArray, List.getElem_cons_succ, List.getElem_cons_zero]); go_simp; try with_reducible rfl)
  simp only [Act.put, List.setIfInBounds_toArray]; dsimp only [List.set_cons_zero, List.set_cons_succ]; replace hCl := hCl'; clear hCl'
  refine T.qT 36 (some 416) ?v37 rfl rfl hCl ?hy37 (fun hCl' => ?_)
  case hy37 => (intro w hSw; refine T.qVal ?_ hSw; (try dsimp only [List.getElem_toArray, List.getElem_cons_succ, List.getElem_cons_zero]); go_simp; try with_reducible rfl)
  simp only [Act.put, List.setIfInBounds_toArray]; dsimp only [List.set_cons_zero, List.set_cons_succ]; replace hCl := hCl'; clear hCl'
  refine T.qT 37 (some 417) ?v38 rfl rfl hCl ?hy38 (fun hCl' => ?_)
  case hy38 => (intro w hSw; refine T.qVal ?_ hSw; (try dsimp only [List.getElem_toArray, List.getElem_cons_succ, List.getElem_cons_zero]); go_simp; try with_reducible rfl)
  simp only [Act.put, List.setIfInBounds_toArray]; dsimp only [List.set_cons_zero, List.set_cons_succ]; replace hCl := hCl'; clear hCl'
  refine T.qT 38 (some 418) ?v39 rfl rfl hCl ?hy39 (fun hCl' => ?_)
  case hy39 => (intro w hSw; refine T.qVal ?_ hSw; (try dsimp only [List.getElem_toArray, List.getElem_cons_succ, List.getElem_cons_zero]); go_simp; try with_reducible rfl)
  simp only [Act.put, List.setIfInBounds_toArray]; dsimp only [List.set_cons_zero, List.set_cons_succ]; replace hCl := hCl'; clear hCl'
  refine T.qT 39 (some 419) ?v40 rfl rfl hCl ?hy40 (fun hCl' => ?_)
  case hy40 => (intro w hSw; refine T.qVal ?_ hSw; (try dsimp only [List.getElem_toArray, List.getElem_cons_succ, List.getElem_cons_zero]); go_simp; try with_reducible rfl)
  simp only [Act.put, List.setIfInBounds_toArray]; dsimp only [List.set_cons_zero, List.set_cons_succ]; replace hCl := hCl'; clear hCl'
  refine T.qT 40 (some 420) ?v41 rfl rfl hCl ?hy41 (fun hCl' => ?_)
  case hy41 => (intro w hSw; refine T.qVal ?_ hSw; (have fF36 := F36.out w hSw; have fF37 := F37.out w hSw; have fF38 := F38.out w hSw; have fF39 := F39.out w hSw); (try dsimp only [List.getElem_toArray, List.getElem_cons_succ, List.getElem_cons_zero]); go_simp; try with_reducible rfl)
  simp only [Act.put, List.setIfInBounds_toArray]; dsimp only [List.set_cons_zero, List.set_cons_succ]; replace hCl := hCl'; clear hCl'
  refine T.qT 41 (some 421) ?v42 rfl rfl hCl ?hy42 (fun hCl' => ?_)
  case hy42 => (intro w hSw; refine T.qVal ?_ hSw; (try dsimp only [List.getElem_toArray, List.getElem_cons_succ, List.getElem_cons_zero]); go_simp; try with_reducible rfl)
  simp only [Act.put, List.setIfInBounds_toArray]; dsimp only [List.set_cons_zero, List.set_cons_succ]; replace hCl := hCl'; clear hCl'
  refine T.qT 42 (some 422) ?v43 rfl rfl hCl ?hy43 (fun hCl' => ?_)
  case hy43 => (intro w hSw; refine T.qVal ?_ hSw; (try dsimp only [List.getElem_toArray, List.getElem_cons_succ, List.getElem_cons_zero]); go_simp; try with_reducible rfl)
  simp only [Act.put, List.setIfInBounds_toArray]; dsimp only [List.set_cons_zero, List.set_cons_succ]; replace hCl := hCl'; clear hCl'
  refine T.qT 43 (some 423) ?v44 rfl rfl hCl ?hy44 (fun hCl' => ?_)
  case hy44 => (intro w hSw; refine T.qVal ?_ hSw; (try dsimp only [List.getElem_toArray, List.getElem_cons_succ, List.getElem_cons_zero]); go_simp; try with_reducible rfl)
  simp only [Act.put, List.setIfInBounds_toArray]; dsimp only [List.set_cons_zero, List.set_cons_succ]; replace hCl := hCl'; clear hCl'
  refine T.qT 44 (some 424) ?v45 rfl rfl hCl ?hy45 (fun hCl' => ?_)
  case hy45 => (intro w hSw; refine T.qVal ?_ hSw; (try dsimp only [List.getElem_toArray, List.getElem_cons_succ, List.getElem_cons_zero]); go_simp; try with_reducible rfl)
  simp only [Act.put, List.setIfInBounds_toArray]; dsimp only [List.set_cons_zero, List.set_cons_succ]; replace hCl := hCl'; clear hCl'
  refine T.qT 45 (some 425) ?v46 rfl rfl hCl ?hy46 (fun hCl' => ?_)
  case hy46 => (intro w hSw; refine T.qVal ?_ hSw; (try dsimp only [List.getElem_toArray, List.getElem_cons_succ, List.getElem_cons_zero]); go_simp; try with_reducible rfl)
  simp only [Act.put, List.setIfInBounds_toArray]; dsimp only [List.set_cons_zero, List.set_cons_succ]; replace hCl := hCl'; clear hCl'
  refine T.qT 46 (some 426) ?v47 rfl rfl hCl ?hy47 (fun hCl' => ?_)
  case hy47 => (intro w hSw; refine T.qVal ?_ hSw; (try dsimp only [List.getElem_toArray, List.getElem_cons_succ, List.getElem_cons_zero]); go_simp; try with_reducible rfl)
  simp only [Act.put, List.setIfInBounds_toArray]; dsimp only [List.set_cons_zero, List.set_cons_succ]; replace hCl := hCl'; clear hCl'
  refine T.qT 47 (some 427) ?v48 rfl rfl hCl ?hy48 (fun hCl' => ?_)
  case hy48 => (intro w hSw; refine T.qVal ?_ hSw; (try dsimp only [List.getElem_toArray, List.getElem_cons_succ, List.getElem_cons_zero]); go_simp; try with_reducible rfl)
  simp only [Act.put, List.setIfInBounds_toArray]; dsimp only [List.set_cons_zero, List.set_cons_succ]; replace hCl := hCl'; clear hCl'
  refine T.qT 48 (some 428) ?v49 rfl rfl hCl ?hy49 (fun hCl' => ?_)
  case hy49 => (intro w hSw; refine T.qVal ?_ hSw; (try dsimp only [List.getElem_toArray, List.getElem_cons_succ, List.getElem_cons_zero]); go_simp; try with_reducible rfl)
  simp only [Act.put, List.setIfInBounds_toArray]; dsimp only [List.set_cons_zero, List.set_cons_succ]; replace hCl := hCl'; clear hCl'
  refine T.qT 49 (some 429) ?v50 rfl rfl hCl ?hy50 (fun hCl' => ?_)
  case hy50 => (intro w hSw; refine T.qVal ?_ hSw; (try dsimp only [List.getElem_toArray, List.getElem_cons_succ, List.getElem_cons_zero]); go_simp; try with_reducible rfl)
  simp only [Act.put, List.setIfInBounds_toArray]; dsimp only [List.set_cons_zero, List.set_cons_succ]; replace hCl := hCl'; clear hCl'
  refine T.qT 50 (some 430) ?v51 rfl rfl hCl ?hy51 (fun hCl' => ?_)
  case hy51 => (intro w hSw; refine T.qVal ?_ hSw; (try dsimp only [List.getElem_toArray, List.getElem_cons_succ, List.getElem_cons_zero]); go_simp; try with_reducible rfl)
  simp only [Act.put, List.setIfInBounds_toArray]; dsimp only [List.set_cons_zero, List.set_cons_succ]; replace hCl := hCl'; clear hCl'
  refine T.qT 51 (some 431) ?v52 rfl rfl hCl ?hy52 (fun hCl' => ?_)
  case hy52 => (intro w hSw; refine T.qVal ?_ hSw; (try dsimp only [List.getElem_toArray, List.getElem_cons_succ, List.getElem_cons_zero]); go_simp; try with_reducible rfl)
  simp only [Act.put, List.setIfInBounds_toArray]; dsimp only [List.set_cons_zero, List.set_cons_succ]; replace hCl := hCl'; clear hCl'
  refine T.qT 52 (some 432) ?v53 rfl rfl hCl ?hy53 (fun hCl' => ?_)
  case hy53 => (intro w hSw; refine T.qVal ?_ hSw; (try dsimp only [List.getElem_toArray, List.getElem_cons_succ, List.getElem_cons_zero]); go_simp; try with_reducible rfl)
  simp only [Act.put, List.setIfInBounds_toArray]; dsimp only [List.set_cons_zero, List.set_cons_succ]; replace hCl := hCl'; clear hCl'
  refine T.qT 53 (some 433) ?v54 rfl rfl hCl ?hy54 (fun hCl' => ?_)
  case hy54 => (intro w hSw; refine T.qVal ?_ hSw; (try dsimp only [List.getElem_toArray, List.getElem_cons_succ, List.getElem_cons_zero]); go_simp; try with_reducible rfl)
  simp only [Act.put, List.setIfInBounds_toArray]; dsimp only [List.set_cons_zero, List.set_cons_succ]; replace hCl := hCl'; clear hCl'
  refine T.qT 54 (some 434) ?v55 rfl rfl hCl ?hy55 (fun hCl' => ?_)
  case hy55 => (intro w hSw; refine T.qVal ?_ hSw; (try dsimp only [List.getElem_toArray, List.getElem_cons_succ, List.getElem_cons_zero]); go_simp; try with_reducible rfl)
  simp only [Act.put, List.setIfInBounds_toArray]; dsimp only [List.set_cons_zero, List.set_cons_succ]; replace hCl := hCl'; clear hCl'
  refine T.qT 55 (some 435) ?v56 rfl rfl hCl ?hy56 (fun hCl' => ?_)
  case hy56 => (intro w hSw; refine T.qVal ?_ hSw; (try dsimp only [List.getElem_toArray, List.getElem_cons_succ, List.getElem_cons_zero]); go_simp; try with_reducible rfl)
  simp only [Act.put, List.setIfInBounds_toArray]; dsimp only [List.set_cons_zero, List.set_cons_succ]; replace hCl := hCl'; clear hCl'
  refine T.qT 56 (some 436) ?v57 rfl rfl hCl ?hy57 (fun hCl' => ?_)
  case hy57 => (intro w hSw; refine T.qVal ?_ hSw; (try dsimp only [List.getElem_toArray, List.getElem_cons_succ, List.getElem_cons_zero]); go_simp; try with_reducible rfl)
  simp only [Act.put, List.setIfInBounds_toArray]; dsimp only [List.set_cons_zero, List.set_cons_succ]; replace hCl := hCl'; clear hCl'
  refine T.qT 57 (some 437) ?v58 rfl rfl hCl ?hy58 (fun hCl' => ?_)
  case hy58 => (intro w hSw; refine T.qVal ?_ hSw; (try dsimp only [List.getElem_toArray, List.getElem_cons_succ, List.getElem_cons_zero]); go_simp; try with_reducible rfl)
  simp only [Act.put, List.setIfInBounds_toArray]; dsimp only [List.set_cons_zero, List.set_cons_succ]; replace hCl := hCl'; clear hCl'
  refine T.qT 58 (some 438) ?v59 rfl rfl hCl ?hy59 (fun hCl' => ?_)
  case hy59 => (intro w hSw; refine T.qVal ?_ hSw; (try dsimp only [List.getElem_toArray, List.getElem_cons_succ, List.getElem_cons_zero]); go_simp; try with_reducible rfl)
  simp only [Act.put, List.setIfInBounds_toArray]; dsimp only [List.set_cons_zero, List.set_cons_succ]; replace hCl := hCl'; clear hCl'
  refine T.qT 59 (some 439) ?v60 rfl rfl hCl ?hy60 (fun hCl' => ?_)
  case hy60 => (intro w hSw; refine T.qVal ?_ hSw; (try dsimp only [List.getElem_toArray, List.getElem_cons_succ, List.getElem_cons_zero]); go_simp; try with_reducible rfl)
  simp only [Act.put, List.setIfInBounds_toArray]; dsimp only [List.set_cons_zero, List.set_cons_succ]; replace hCl := hCl'; clear hCl'
  refine T.qT 60 (some 440) ?v61 rfl rfl hCl ?hy61 (fun hCl' => ?_)
  case hy61 => (intro w hSw; refine T.qVal ?_ hSw; (try dsimp only [List.getElem_toArray, List.getElem_cons_succ, List.getElem_cons_zero]); go_simp; try with_reducible rfl)
  simp only [Act.put, List.setIfInBounds_toArray]; dsimp only [List.set_cons_zero, List.set_cons_succ]; replace hCl := hCl'; clear hCl'
  refine T.qT 61 (some 441) ?v62 rfl rfl hCl ?hy62 (fun hCl' => ?_)
  case hy62 => (intro w hSw; refine T.qVal ?_ hSw; (try dsimp only [List.getElem_toArray, List.getElem_cons_succ, List.getElem_cons_zero]); go_simp; try with_reducible rfl)
  simp only [Act.put, List.setIfInBounds_toArray]; dsimp only [List.set_cons_zero, List.set_cons_succ]; replace hCl := hCl'; clear hCl'
  refine T.qT 62 (some 442) ?v63 rfl rfl hCl ?hy63 (fun hCl' => ?_)
  case hy63 => (intro w hSw; refine T.qVal ?_ hSw; (try dsimp only [List.getElem_toArray, List.getElem_cons_succ, List.getElem_cons_zero]); go_simp; try with_reducible rfl)
  simp only [Act.put, List.setIfInBounds_toArray]; dsimp only [List.set_cons_zero, List.set_cons_succ]; replace hCl := hCl'; clear hCl'
  refine T.qT 63 (some 443) ?v64 rfl rfl hCl ?hy64 (fun hCl' => ?_)
  case hy64 => (intro w hSw; refine T.qVal ?_ hSw; (try dsimp only [List.getElem_toArray, List.getElem_cons_succ, List.getElem_cons_zero]); go_simp; try with_reducible rfl)
  simp only [Act.put, List.setIfInBounds_toArray]; dsimp only [List.set_cons_zero, List.set_cons_succ]; replace hCl := hCl'; clear hCl'
  refine T.qT 64 (some 444) ?v65 rfl rfl hCl ?hy65 (fun hCl' => ?_)
  case hy65 => (intro w hSw; refine T.qVal ?_ hSw; (try dsimp only [List.getElem_toArray, List.getElem_cons_succ, List.getElem_cons_zero]); go_simp; try with_reducible rfl)
  simp only [Act.put, List.setIfInBounds_toArray]; dsimp only [List.set_cons_zero, List.set_cons_succ]; replace hCl := hCl'; clear hCl'
  refine T.qT 65 (some 445) ?v66 rfl rfl hCl ?hy66 (fun hCl' => ?_)
  case hy66 => (intro w hSw; refine T.qVal ?_ hSw; (try dsimp only [List.getElem_toArray, List.getElem_cons_succ, List.getElem_cons_zero]); go_simp; try with_reducible rfl)
  simp only [Act.put, List.setIfInBounds_toArray]; dsimp only [List.set_cons_zero, List.set_cons_succ]; replace hCl := hCl'; clear hCl'
  refine T.qT 66 (some 446) ?v67 rfl rfl hCl ?hy67 (fun hCl' => ?_)
  case hy67 => (intro w hSw; refine T.qVal ?_ hSw; (try dsimp only [List.getElem_toArray, List.getElem_cons_succ, List.getElem_cons_zero]); go_simp; try with_reducible rfl)
  simp only [Act.put, List.setIfInBounds_toArray]; dsimp only [List.set_cons_zero, List.set_cons_succ]; replace hCl := hCl'; clear hCl'
  refine T.qT 67 (some 447) ?v68 rfl rfl hCl ?hy68 (fun hCl' => ?_)
  case hy68 => (intro w hSw; refine T.qVal ?_ hSw; (try dsimp only [List.getElem_toArray, List.getElem_cons_succ, List.getElem_cons_zero]); go_simp; try with_reducible rfl)
  simp only [Act.put, List.setIfInBounds_toArray]; dsimp only [List.set_cons_zero, List.set_cons_succ]; replace hCl := hCl'; clear hCl'
  refine T.qT 68 (some 448) ?v69 rfl rfl hCl ?hy69 (fun hCl' => ?_)
  case hy69 => (intro w hSw; refine T.qVal ?_ hSw; (try dsimp only [List.getElem_toArray, List.getElem_cons_succ, List.getElem_cons_zero]); go_simp; try with_reducible rfl)
  simp only [Act.put, List.setIfInBounds_toArray]; dsimp only [List.set_cons_zero, List.set_cons_succ]; replace hCl := hCl'; clear hCl'
  refine T.qT 69 (some 449) ?v70 rfl rfl hCl ?hy70 (fun hCl' => ?_)
  case hy70 => (intro w hSw; refine T.qVal ?_ hSw; (try dsimp only [List.getElem_toArray, List.getElem_cons_succ, List.getElem_cons_zero]); go_simp; try with_reducible rfl)
  simp only [Act.put, List.setIfInBounds_toArray]; dsimp only [List.set_cons_zero, List.set_cons_succ]; replace hCl := hCl'; clear hCl'
  refine T.qT 70 (some 450) ?v71 rfl rfl hCl ?hy71 (fun hCl' => ?_)
  case hy71 => (intro w hSw; refine T.qVal ?_ hSw; (try dsimp only [List.getElem_toArray, List.getElem_cons_succ, List.getElem_cons_zero]); go_simp; try with_reducible rfl)
  simp only [Act.put, List.setIfInBounds_toArray]; dsimp only [List.set_cons_zero, List.set_cons_succ]; replace hCl := hCl'; clear hCl'
  refine T.qT 71 (some 451) ?v72 rfl rfl hCl ?hy72 (fun hCl' => ?_)
  case hy72 => (intro w hSw; refine T.qVal ?_ hSw; (try dsimp only [List.getElem_toArray, List.getElem_cons_succ, List.getElem_cons_zero]); go_simp; try with_reducible rfl)
  simp only [Act.put, List.setIfInBounds_toArray]; dsimp only [List.set_cons_zero, List.set_cons_succ]; replace hCl := hCl'; clear hCl'
  refine T.qT 72 (some 452) ?v73 rfl rfl hCl ?hy73 (fun hCl' => ?_)
  case hy73 => (intro w hSw; refine T.qVal ?_ hSw; (try dsimp only [List.getElem_toArray, List.getElem_cons_succ, List.getElem_cons_zero]); go_simp; try with_reducible rfl)
  simp only [Act.put, List.setIfInBounds_toArray]; dsimp only [List.set_cons_zero, List.set_cons_succ]; replace hCl := hCl'; clear hCl'
  refine T.qT 73 (some 453) ((.bool true)) rfl rfl hCl ?hy74 (fun hCl' => ?_)
  case hy74 => (intro w hSw; (have fF36 := F36.out w hSw; have fF37 := F37.out w hSw; have fF38 := F38.out w hSw; have fF39 := F39.out w hSw); (try dsimp only [List.getElem_toArray, List.getElem_cons_succ, List.getElem_cons_zero]); go_simp; (refine (callsIn_wide.2 (l_works_any _)).mono ?_; rintro e w3 ⟨rfl, u3⟩; exact ⟨rfl, hSw.trans u3⟩))
  simp only [Act.put, List.setIfInBounds_toArray]; dsimp only [List.set_cons_zero, List.set_cons_succ]
  replace hCl := hCl'; clear hCl'
  refine T.qT 74 (some 454) ?v75 rfl rfl hCl ?hy75 (fun hCl' => ?_)
  case hy75 => (intro w hSw; refine T.qVal ?_ hSw; (try dsimp only [List.getElem_toArray, List.getElem_cons_succ, List.getElem_cons_zero]); go_simp; try with_reducible rfl)
  simp only [Act.put, List.setIfInBounds_toArray]; dsimp only [List.set_cons_zero, List.set_cons_succ]; replace hCl := hCl'; clear hCl'
  refine T.tail_intro (by as_aux_lemma => kernel_rfl) (fun Y35 hY35 => ?_)
  replace U := U.trans hY35
  replace m1 := hY35.blk m1
  replace m2 := hY35.blk m2
  replace m3 := hY35.blk m3
  replace m4 := hY35.blk m4
  clear F36 F37 F38 F39 hY35
  refine lastG (i := 75) (by as_aux_lemma => kernel_rfl) rfl (by rfl) (by decide) (fun K hK => ?_)
  go_simp
  refine hK.out _ _ ?_
  clear hK K
  refine doneG (by as_aux_lemma => kernel_rfl) ?_ _
  refine S.nrm_intro ?_
  go_wp2
  go_ret
  exact ⟨rfl, U⟩

end Go.Proofs.Ytcmdaiklkdeanaa
