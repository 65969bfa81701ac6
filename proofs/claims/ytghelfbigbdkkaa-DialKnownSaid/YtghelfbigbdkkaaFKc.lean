import Derived.Deep.Cut
import Derived.Test.YtghelfbigbdkkaaFKb
/- The law DialKnown: what comes behind its third loop, up to its last region. -/
namespace Go.Proofs.Ytghelfbigbdkkaa
open Go.RowKit
set_option maxRecDepth 1000000 in
set_option maxHeartbeats 8000000 in
set_option linter.unusedSimpArgs false in
theorem kn_tail13 (c0 c1 c2 c3 c4 c5 c6 c7 c8 c9 c10 c11 c12 c13 c14 c15 c16 c17 c18 c19 c20 c21 c22 c23 c24 c25 c26 c27 c28 c29 c30 c31 c32 c33 c34 c35 c36 c37 c38 c39 c40 c41 c42 c43 c44 c45 c46 c47 c48 c49 c50 c51 c52 c53 c54 c55 c56 c57 c58 c59 c60 c61 c62 c63 c64 c65 c66 c67 c68 c69 c70 c71 c72 c73 c74 c75 c76 c77 c78 c79 c80 c81 c82 c83 c84 c85 c86 c87 c88 c89 c90 c91 c92 c93 c94 c95 c96 c97 c98 c99 c100 c101 c102 c103 c104 c105 c106 c107 c108 c109 c110 c111 c112 c113 c114 c115 c116 c117 c118 c119 c120 c121 c122 c123 c124 c125 c126 c127 c128 c129 c130 c131 c132 c133 c134 c135 c136 c137 c138 c139 c140 c141 c142 c143 c144 c145 c146 c147 c148 c149 c150 c151 c152 c153 c154 c155 c156 c157 c158 c159 c160 c161 c162 c163 c164 c165 c166 c167 c168 c169 c170 c171 c172 c173 c174 c175 c176 c177 c178 c179 c180 c181 c182 c183 c184 c185 c186 c187 c188 c189 c190 c191 c192 c193 c194 c195 c196 c197 c198 c199 c200 c201 c202 c203 c204 c205 c206 c207 c208 c209 c210 c211 c212 c213 c214 c215 c216 c217 c218 c219 c220 c221 c222 c223 c224 c225 c226 c227 c228 c229 c230 c231 c232 c233 c234 c235 c236 c237 c238 c239 c240 c241 c242 c243 c244 c245 c246 c247 c248 c249 c250 c251 c252 c253 c254 c255 c256 c257 c258 c259 c260 c261 c262 c263 c264 c265 c266 c267 c268 c269 c270 c271 c272 c273 c274 c275 c276 c277 c278 c279 c280 c281 c282 c283 c284 c285 c286 c287 c288 c289 c290 c291 c292 c293 c294 c295 c296 c297 c298 c299 c300 c301 c302 c303 c304 c305 c306 c307 c308 c309 c310 c311 c312 c313 c314 c315 c316 c317 c318 c319 c320 c321 c322 c323 c324 c325 c326 c327 c328 c329 c330 c331 c332 c333 c334 c335 c336 c337 c338 c339 c340 c341 c342 c343 : Value) {w wr : World} (U20 : Up w wr) :
    Code.wp Try.prog (Kn.rt 13 Kn.body) (bodyPost Try.prog Try.f3 fun e w' => e = .returned (.bool true) ∧ Up w w') ⟨#[c0, c1, c2, c3, c4, c5, c6, c7, c8, c9, c10, c11, c12, c13, c14, c15, c16, c17, c18, c19, c20, c21, c22, c23, c24, c25, c26, c27, c28, c29, c30, c31, c32, c33, c34, c35, c36, c37, c38, c39, c40, c41, c42, c43, c44, c45, c46, c47, c48, c49, c50, c51, c52, c53, c54, c55, c56, c57, c58, c59, c60, c61, c62, c63, c64, c65, c66, c67, c68, c69, c70, c71, c72, c73, c74, c75, c76, c77, c78, c79, c80, c81, c82, c83, c84, c85, c86, c87, c88, c89, c90, c91, c92, c93, c94, c95, c96, c97, c98, c99, c100, c101, c102, c103, c104, c105, c106, c107, c108, c109, c110, c111, c112, c113, c114, c115, c116, c117, c118, c119, c120, c121, c122, c123, c124, c125, c126, c127, c128, c129, c130, c131, c132, c133, c134, c135, c136, c137, c138, c139, c140, c141, c142, c143, c144, c145, c146, c147, c148, c149, c150, c151, c152, c153, c154, c155, c156, c157, c158, c159, c160, c161, c162, c163, c164, c165, c166, c167, c168, c169, c170, c171, c172, c173, c174, c175, c176, c177, c178, c179, c180, c181, c182, c183, c184, c185, c186, c187, c188, c189, c190, c191, c192, c193, c194, c195, c196, c197, c198, c199, c200, c201, c202, c203, c204, c205, c206, c207, c208, c209, c210, c211, c212, c213, c214, c215, c216, c217, c218, c219, c220, c221, c222, c223, c224, c225, c226, c227, c228, c229, c230, c231, c232, c233, c234, c235, c236, c237, c238, c239, c240, c241, c242, c243, c244, c245, c246, c247, c248, c249, c250, c251, c252, c253, c254, c255, c256, c257, c258, c259, c260, c261, c262, c263, c264, c265, c266, c267, c268, c269, c270, c271, c272, c273, c274, c275, c276, c277, c278, c279, c280, c281, c282, c283, c284, c285, c286, c287, c288, c289, c290, c291, c292, c293, c294, c295, c296, c297, c298, c299, c300, c301, c302, c303, c304, c305, c306, c307, c308, c309, c310, c311, c312, c313, c314, c315, c316, c317, c318, c319, c320, c321, c322, c323, c324, c325, c326, c327, c328, c329, c330, c331, c332, c333, c334, c335, c336, c337, c338, c339, c340, c341, c342, c343, undef, undef, undef, undef, undef, undef, undef, undef, undef, undef, undef, undef, undef, undef, undef, undef, undef, undef, undef, undef, undef, undef, undef, undef, undef, undef, undef, undef, undef, undef, undef, undef, undef, undef, undef, undef, undef, undef, undef, undef, undef, undef, undef, undef, undef, undef, undef, undef, undef, undef, undef, undef, undef, undef, undef, undef, undef, undef, undef, undef, undef, undef, undef, undef, undef, undef, undef, undef, undef, undef, undef, undef, undef, undef, undef, undef, undef, undef, undef, undef, undef, undef, undef, undef, undef, undef, undef, undef, undef, undef, undef, undef, undef, undef, undef, undef, undef, undef, undef, undef, undef, undef, undef, undef, undef, undef, undef, undef, undef, undef, undef, undef, undef, undef, undef, undef, undef, undef, undef, undef, undef, undef, undef, undef, undef, undef, undef, undef, undef, undef, undef, undef, undef, undef, undef, undef, undef, undef, undef, undef, undef, undef, undef, undef, undef, undef, undef, undef, undef, undef, undef, undef, undef, undef, undef, undef, undef, undef, undef, undef, undef, undef, undef, undef, undef, undef, undef, undef, undef, undef, undef, undef, undef, undef, undef, undef, undef, undef, undef, undef, undef, undef, undef, undef, undef, undef, undef, undef, undef, undef], []⟩ wr := by
  conv => arg 2; whnf
  go_wp2_with fail
  refine (l_week_any _ _ _).mono ?_
  rintro e z44 ⟨_, rfl, u, AW⟩
  have R44 := (U20).trans u
  clear u U20
  go_wp2_with fail
  refine (Kn.len2 AW).mono ?_
  rintro e z45 ⟨rfl, u⟩
  have R45 := (R44).trans u
  replace AW := AW.up u
  clear u R44
  clear AW
  go_wp2_with fail
  refine (l_week_any _ _ _).mono ?_
  rintro e z46 ⟨_, rfl, u, AW⟩
  have R46 := (R45).trans u
  clear u R45
  go_wp2_with fail
  refine (Kn.rdOut AW (by omega)).mono ?_
  rintro e z47 ⟨rfl, u⟩
  have R47 := (R46).trans u
  clear u R46
  clear AW
  go_wp2_with fail
  have R47' := R47.alloc (.cells #[.int .i64 0, .int .i64 0, .int .i64 0, .int .i64 0] 34)
  clear R47
  refine (l_week_any _ _ _).mono ?_
  rintro e z48 ⟨_, rfl, u, AW⟩
  have R48 := (R47').trans u
  clear u R47'
  go_wp2_with fail
  refine (Kn.rdOut AW (by omega)).mono ?_
  rintro e z49 ⟨rfl, u⟩
  have R49 := (R48).trans u
  clear u R48
  clear AW
  go_wp2_with fail
  have R49' := R49.alloc (.cells #[.int .i64 0, .int .i64 0, .int .i64 0, .int .i64 0] 34)
  clear R49
  refine (l_week_any _ _ _).mono ?_
  rintro e z50 ⟨_, rfl, u, AW⟩
  have R50 := (R49').trans u
  clear u R49'
  go_wp2_with fail
  refine (Kn.next1 AW).mono ?_
  rintro e z51 ⟨rfl, u⟩
  have R51 := (R50).trans u
  replace AW := AW.up u
  clear u R50
  clear AW
  go_wp2_with fail
  refine (l_week_any _ _ _).mono ?_
  rintro e z52 ⟨_, rfl, u, AW⟩
  have R52 := (R51).trans u
  clear u R51
  go_wp2_with fail
  refine (Kn.next2 AW).mono ?_
  rintro e z53 ⟨rfl, u⟩
  have R53 := (R52).trans u
  replace AW := AW.up u
  clear u R52
  clear AW
  go_wp2_with fail
  refine (l_week_any _ _ _).mono ?_
  rintro e z54 ⟨_, rfl, u, AW⟩
  have R54 := (R53).trans u
  clear u R53
  go_wp2_with fail
  refine (Kn.next3 AW).mono ?_
  rintro e z55 ⟨rfl, u⟩
  have R55 := (R54).trans u
  replace AW := AW.up u
  clear u R54
  clear AW
  go_wp2_with fail
  refine (l_week_any _ _ _).mono ?_
  rintro e z56 ⟨_, rfl, u, AW⟩
  have R56 := (R55).trans u
  clear u R55
  go_wp2_with fail
  refine (l_town_any _).mono ?_
  rintro e z57 ⟨_, rfl, u, BT⟩
  have R57 := (R56).trans u
  replace AW := AW.up u
  clear u R56
  go_wp2_with fail
  refine (Kn.loc241 AW BT).mono ?_
  rintro e z58 ⟨rfl, u⟩
  have R58 := (R57).trans u
  clear u R57
  clear AW
  clear BT
  go_wp2_with fail
  have R58' := R58.alloc (.cells #[.int .i64 0, .int .i64 0, .int .i64 0, .int .i64 0] 34)
  clear R58
  refine (l_week_any _ _ _).mono ?_
  rintro e z59 ⟨_, rfl, u, AW⟩
  have R59 := (R58').trans u
  clear u R58'
  go_wp2_with fail
  refine (l_at_any _ _ _ _ _).mono ?_
  rintro e z60 ⟨rfl, u⟩
  have R60 := (R59).trans u
  replace AW := AW.up u
  clear u R59
  go_wp2_with fail
  refine (Kn.tickN AW).mono ?_
  rintro e z61 ⟨rfl, u⟩
  have R61 := (R60).trans u
  replace AW := AW.up u
  clear u R60
  clear AW
  go_wp2_with fail
  refine (l_week_any _ _ _).mono ?_
  rintro e z62 ⟨_, rfl, u, AW⟩
  have R62 := (R61).trans u
  clear u R61
  go_wp2_with fail
  refine (Kn.rd240 AW).mono ?_
  rintro e z63 ⟨rfl, u⟩
  have R63 := (R62).trans u
  clear u R62
  clear AW
  go_wp2_with fail
  obtain ⟨Z64, hZ⟩ : ∃ Z, z63.alloc (.cells #[.int .i64 1, .int .i64 2, .int .i64 3, .int .i64 9] 34) = Z := ⟨_, rfl⟩
  obtain ⟨rr, hr⟩ : ∃ r, z63.heap.size = r := ⟨_, rfl⟩
  have kr : mblk Z64 rr = some (.cells #[.int .i64 1, .int .i64 2, .int .i64 3, .int .i64 9] 34 (0, 0)) := by rw [← hZ]; exact blk_new _ _ _ hr.symm
  have R64 : Up w Z64 := by rw [← hZ]; exact R63.alloc _
  rw [hZ, hr]
  clear hZ hr R63
  refine (l_week_any _ _ _).mono ?_
  rintro e z65 ⟨_, rfl, u, AW⟩
  have R65 := (R64).trans u
  replace kr := u.blk (kr)
  clear u R64
  go_wp2_with fail
  refine (Kn.tot AW).mono ?_
  rintro e z66 ⟨rfl, u⟩
  have R66 := (R65).trans u
  replace kr := u.blk (kr)
  replace AW := AW.up u
  clear u R65
  clear AW
  go_wp2_with fail
  refine (l_week_any _ _ _).mono ?_
  rintro e z67 ⟨_, rfl, u, AW⟩
  have R67 := (R66).trans u
  replace kr := u.blk (kr)
  clear u R66
  go_wp2_with fail
  refine (Kn.len1 AW).mono ?_
  rintro e z68 ⟨rfl, u⟩
  have R68 := (R67).trans u
  replace kr := u.blk (kr)
  replace AW := AW.up u
  clear u R67
  clear AW
  go_wp2_with fail
  refine (l_week_any _ _ _).mono ?_
  rintro e z69 ⟨_, rfl, u, AW⟩
  have R69 := (R68).trans u
  replace kr := u.blk (kr)
  clear u R68
  go_wp2_with fail
  refine (Kn.next4 AW).mono ?_
  rintro e z70 ⟨rfl, u⟩
  have R70 := (R69).trans u
  replace kr := u.blk (kr)
  replace AW := AW.up u
  clear u R69
  clear AW
  go_wp2_with fail
  refine (l_week_any _ _ _).mono ?_
  rintro e z71 ⟨_, rfl, u, AW⟩
  have R71 := (R70).trans u
  replace kr := u.blk (kr)
  clear u R70
  go_wp2_with fail
  refine (l_town_any _).mono ?_
  rintro e z72 ⟨_, rfl, u, BT⟩
  have R72 := (R71).trans u
  replace kr := u.blk (kr)
  replace AW := AW.up u
  clear u R71
  go_wp2_with fail
  refine (Kn.loc59 AW BT).mono ?_
  rintro e z73 ⟨rfl, u⟩
  have R73 := (R72).trans u
  replace kr := u.blk (kr)
  clear u R72
  clear AW
  clear BT
  go_wp2_with fail
  obtain ⟨Z74, hZ⟩ : ∃ Z, z73.alloc (.cells #[.int .i64 0, .int .i64 2, .int .i64 2, .int .i64 9] 34) = Z := ⟨_, rfl⟩
  obtain ⟨rx, hr⟩ : ∃ r, z73.heap.size = r := ⟨_, rfl⟩
  have kx : mblk Z74 rx = some (.cells #[.int .i64 0, .int .i64 2, .int .i64 2, .int .i64 9] 34 (0, 0)) := by rw [← hZ]; exact blk_new _ _ _ hr.symm
  have R74 : Up w Z74 := by rw [← hZ]; exact R73.alloc _
  replace kr : mblk Z74 rr = some (.cells #[.int .i64 1, .int .i64 2, .int .i64 3, .int .i64 9] 34 (0, 0)) := by rw [← hZ]; exact blk_keep _ kr
  rw [hZ, hr]
  clear hZ hr R73
  refine (l_week_any _ _ _).mono ?_
  rintro e z75 ⟨_, rfl, u, AW⟩
  have R75 := (R74).trans u
  replace kr := u.blk (kr)
  replace kx := u.blk (kx)
  clear u R74
  go_wp2_with fail
  refine (Kn.locM AW).mono ?_
  rintro e z76 ⟨rfl, u⟩
  have R76 := (R75).trans u
  replace kr := u.blk (kr)
  replace kx := u.blk (kx)
  clear u R75
  clear AW
  go_wp2_with fail
  obtain ⟨Z77, hZ⟩ : ∃ Z, z76.alloc (.cells #[.int .i64 (-1), .int .i64 2, .int .i64 3, .int .i64 0] 34) = Z := ⟨_, rfl⟩
  obtain ⟨ry, hr⟩ : ∃ r, z76.heap.size = r := ⟨_, rfl⟩
  have ky : mblk Z77 ry = some (.cells #[.int .i64 (-1), .int .i64 2, .int .i64 3, .int .i64 0] 34 (0, 0)) := by rw [← hZ]; exact blk_new _ _ _ hr.symm
  have R77 : Up w Z77 := by rw [← hZ]; exact R76.alloc _
  replace kr : mblk Z77 rr = some (.cells #[.int .i64 1, .int .i64 2, .int .i64 3, .int .i64 9] 34 (0, 0)) := by rw [← hZ]; exact blk_keep _ kr
  replace kx : mblk Z77 rx = some (.cells #[.int .i64 0, .int .i64 2, .int .i64 2, .int .i64 9] 34 (0, 0)) := by rw [← hZ]; exact blk_keep _ kx
  rw [hZ, hr]
  clear hZ hr R76
  refine (l_week_any _ _ _).mono ?_
  rintro e z78 ⟨_, rfl, u, AW⟩
  have R78 := (R77).trans u
  replace kr := u.blk (kr)
  replace kx := u.blk (kx)
  replace ky := u.blk (ky)
  clear u R77
  go_wp2_with fail
  refine (l_town_any _).mono ?_
  rintro e z79 ⟨_, rfl, u, BT⟩
  have R79 := (R78).trans u
  replace kr := u.blk (kr)
  replace kx := u.blk (kx)
  replace ky := u.blk (ky)
  replace AW := AW.up u
  clear u R78
  go_wp2_with fail
  refine (l_at_any _ _ _ _ _).mono ?_
  rintro e z80 ⟨rfl, u⟩
  have R80 := (R79).trans u
  replace kr := u.blk (kr)
  replace kx := u.blk (kx)
  replace ky := u.blk (ky)
  replace AW := AW.up u
  replace BT := BT.up u
  clear u R79
  go_wp2_with fail
  refine (Kn.ticks1 AW BT).mono ?_
  rintro e z81 ⟨lv, rfl, u, SL⟩
  have R81 := (R80).trans u
  replace kr := u.blk (kr)
  replace kx := u.blk (kx)
  replace ky := u.blk (ky)
  clear u R80
  clear AW
  clear BT
  go_wp2_with fail
  refine (l_week_any _ _ _).mono ?_
  rintro e z82 ⟨_, rfl, u, AW⟩
  have R82 := (R81).trans u
  replace kr := u.blk (kr)
  replace kx := u.blk (kx)
  replace ky := u.blk (ky)
  replace SL := SL.up (u)
  clear u R81
  go_wp2_with fail
  refine (l_town_any _).mono ?_
  rintro e z83 ⟨_, rfl, u, BT⟩
  have R83 := (R82).trans u
  replace kr := u.blk (kr)
  replace kx := u.blk (kx)
  replace ky := u.blk (ky)
  replace SL := SL.up (u)
  replace AW := AW.up u
  clear u R82
  go_wp2_with fail
  refine (l_at_any _ _ _ _ _).mono ?_
  rintro e z84 ⟨rfl, u⟩
  have R84 := (R83).trans u
  replace kr := u.blk (kr)
  replace kx := u.blk (kx)
  replace ky := u.blk (ky)
  replace SL := SL.up (u)
  replace AW := AW.up u
  replace BT := BT.up u
  clear u R83
  go_wp2_with fail
  refine (Kn.ticks0 AW BT).mono ?_
  rintro e z85 ⟨lq, lk, rfl, u⟩
  have R85 := (R84).trans u
  replace kr := u.blk (kr)
  replace kx := u.blk (kx)
  replace ky := u.blk (ky)
  replace SL := SL.up (u)
  clear u R84
  clear AW
  clear BT
  dsimp only
  go_step
  go_step
  go_step
  go_step
  go_step
  go_step
  go_step
  go_step
  go_step
  go_step
  go_step
  go_step
  go_step
  go_step
  go_step
  go_step
  go_step
  go_step
  go_step
  exact kn_tail30 _ _ _ _ _ _ _ _ _ _ _ _ _ _ _ _ _ _ _ _ _ _ _ _ _ _ _ _ _ _ _ _ _ _ _ _ _ _ _ _ _ _ _ _ _ _ _ _ _ _ _ _ _ _ _ _ _ _ _ _ _ _ _ _ _ _ _ _ _ _ _ _ _ _ _ _ _ _ _ _ _ _ _ _ _ _ _ _ _ _ _ _ _ _ _ _ _ _ _ _ _ _ _ _ _ _ _ _ _ _ _ _ _ _ _ _ _ _ _ _ _ _ _ _ _ _ _ _ _ _ _ _ _ _ _ _ _ _ _ _ _ _ _ _ _ _ _ _ _ _ _ _ _ _ _ _ _ _ _ _ _ _ _ _ _ _ _ _ _ _ _ _ _ _ _ _ _ _ _ _ _ _ _ _ _ _ _ _ _ _ _ _ _ _ _ _ _ _ _ _ _ _ _ _ _ _ _ _ _ _ _ _ _ _ _ _ _ _ _ _ _ _ _ _ _ _ _ _ _ _ _ _ _ _ _ _ _ _ _ _ _ _ _ _ _ _ _ _ _ _ _ _ _ _ _ _ _ _ _ _ _ _ _ _ _ _ _ _ _ _ _ _ _ _ _ _ _ _ _ _ _ _ _ _ _ _ _ _ _ _ _ _ _ _ _ _ _ _ _ _ _ _ _ _ _ _ _ _ _ _ _ _ _ _ _ _ _ _ _ _ _ _ _ _ _ _ _ _ _ _ _ _ _ _ _ _ _ _ _ _ _ _ _ _ _ _ _ _ _ _ _ _ _ _ _ _ _ _ _ _ _ _ _ _ _ _ _ _ _ _ _ _ _ _ _ _ _ _ _ _ _ _ _ _ _ _ _ _ _ _ _ _ _ _ _ _ _ _ _ _ _ _ _ _ _ _ _ _ _ _ _ _ _ _ _ _ _ _ _ _ _ _ _ _ _ _ _ _ _ _ _ _ _ _ _ _ _ _ _ _ _ _ _ _ _ _ R85 kr kx ky SL

end Go.Proofs.Ytghelfbigbdkkaa
