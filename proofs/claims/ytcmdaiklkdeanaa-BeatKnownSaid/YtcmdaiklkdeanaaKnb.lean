import Derived.Deep.Cut
import Derived.Test.YtcmdaiklkdeanaaKna
/- The law BeatKnown: regions 23 to 35. -/
namespace Go.Proofs.Ytcmdaiklkdeanaa
open Go.RowKit Go.Shelf
attribute [local go_sem] Oper.semAt_some
set_option maxRecDepth 1000000 in
set_option maxHeartbeats 8000000 in
set_option linter.unusedSimpArgs false in
theorem kn_tail12 (c0 c1 c2 c3 c4 c5 c6 c7 c8 c9 c10 c11 c12 c13 c14 c15 c16 c17 c18 c19 c20 c21 c22 c23 c24 c25 c26 c27 c28 c29 c30 c31 c32 c33 c34 c35 c36 c37 c38 c39 c40 c41 c42 c43 c44 c45 c46 c47 c48 c49 c50 c51 c52 c53 c54 c55 c56 c57 c58 c59 c60 c61 c62 c63 c64 c65 c66 c67 c68 c69 c70 c71 c72 c73 c74 c75 c76 c77 c78 c79 c80 c81 c82 c83 c84 c85 c86 c87 c88 c89 c90 c91 c92 c93 c94 c95 c96 c97 c98 c99 c100 c101 c102 c103 c104 c105 c106 c107 c108 c109 c110 c111 c112 c113 c114 c115 c116 c117 c118 c119 c120 c121 c122 c123 c124 c125 c126 c127 c128 c129 c130 c131 c132 c133 c134 c135 c136 c137 c138 c139 c140 c141 c142 c143 c144 c145 c146 c147 c148 c149 c150 c151 c152 c153 c154 c155 c156 c157 c158 c159 c160 c161 c162 c163 c164 c165 c166 c167 c168 c169 c170 c171 c172 c173 c174 c175 c176 c177 c178 c179 c180 c181 c182 c183 c184 c185 c186 c187 c188 c189 c190 c191 c192 c193 c194 c195 c196 c197 c198 c199 c200 c201 c202 c203 c204 : Value) {w0 w : World} (U : Up w0 w) : Code.wp Try.prog (Kn.rt 12 Kn.body) (bodyPost Try.prog Try.f14 fun e w' => e = .returned (.bool true) ∧ Up w0 w') ⟨#[c0, c1, c2, c3, c4, c5, c6, c7, c8, c9, c10, c11, c12, c13, c14, c15, c16, c17, c18, c19, c20, c21, c22, c23, c24, c25, c26, c27, c28, c29, c30, c31, c32, c33, c34, c35, c36, c37, c38, c39, c40, c41, c42, c43, c44, c45, c46, c47, c48, c49, c50, c51, c52, c53, c54, c55, c56, c57, c58, c59, c60, c61, c62, c63, c64, c65, c66, c67, c68, c69, c70, c71, c72, c73, c74, c75, c76, c77, c78, c79, c80, c81, c82, c83, c84, c85, c86, c87, c88, c89, c90, c91, c92, c93, c94, c95, c96, c97, c98, c99, c100, c101, c102, c103, c104, c105, c106, c107, c108, c109, c110, c111, c112, c113, c114, c115, c116, c117, c118, c119, c120, c121, c122, c123, c124, c125, c126, c127, c128, c129, c130, c131, c132, c133, c134, c135, c136, c137, c138, c139, c140, c141, c142, c143, c144, c145, c146, c147, c148, c149, c150, c151, c152, c153, c154, c155, c156, c157, c158, c159, c160, c161, c162, c163, c164, c165, c166, c167, c168, c169, c170, c171, c172, c173, c174, c175, c176, c177, c178, c179, c180, c181, c182, c183, c184, c185, c186, c187, c188, c189, c190, c191, c192, c193, c194, c195, c196, c197, c198, c199, c200, c201, c202, c203, c204, undef, undef, undef, undef, undef, undef, undef, undef, undef, undef, undef, undef, undef, undef, undef, undef, undef, undef, undef, undef, undef, undef, undef, undef, undef, undef, undef, undef, undef, undef, undef, undef, undef, undef, undef, undef, undef, undef, undef, undef, undef, undef, undef, undef, undef, undef, undef, undef, undef, undef, undef, undef, undef, undef, undef, undef, undef, undef, undef, undef, undef, undef, undef, undef, undef, undef, undef, undef, undef, undef, undef, undef, undef, undef, undef, undef, undef, undef, undef, undef, undef, undef, undef, undef, undef, undef, undef, undef, undef, undef, undef, undef, undef, undef, undef, undef, undef, undef, undef, undef, undef, undef, undef, undef, undef, undef, undef, undef, undef, undef, undef, undef, undef, undef, undef, undef, undef, undef, undef, undef, undef, undef, undef, undef, undef, undef, undef, undef, undef, undef, undef, undef, undef, undef, undef, undef, undef, undef, undef, undef, undef, undef, undef, undef, undef, undef, undef, undef, undef, undef, undef, undef, undef, undef, undef, undef, undef, undef, undef, undef, undef, undef, undef, undef, undef, undef, undef, undef, undef, undef, undef, undef, undef, undef, undef, undef, undef, undef, undef, undef, undef, undef, undef, undef, undef, undef, undef, undef, undef, undef, undef, undef, undef, undef, undef, undef, undef, undef, undef, undef, undef, undef, undef, undef, undef, undef, undef, undef, undef, undef, undef, undef, undef, undef, undef, undef, undef, undef, undef, undef, undef, undef, undef, undef, undef, undef, undef, undef, undef, undef, undef, undef, undef, undef, undef, undef, undef, undef, undef, undef, undef, undef, undef, undef, undef, undef, undef, undef, undef, undef], []⟩ w := by
  conv => arg 2; whnf
  go_wp2_with fail
  refine (l_torn_any _).mono ?_
  rintro e x1 ⟨⟨g0, rfl, M0, _⟩, u2⟩
  replace U := U.trans u2
  clear u2 
  go_wp2_with fail
  refine (l_cellar_torn M0).mono ?_
  rintro e x3 ⟨⟨a0, b0, d0, rfl, I0, J0, K0⟩, u4⟩
  replace U := U.trans u4
  clear u4 M0
  obtain ⟨pa0, pc0, epv⟩ : ∃ pa pc, d0 = .slice pa 5 pc := by
    obtain ⟨a', c', e, _⟩ := K0.is
    exact ⟨a', c', e⟩
  subst epv
  go_wp2_with fail
  refine (kn_a1 I0 J0 K0).mono ?_
  rintro e x5 ⟨rfl, u6⟩
  replace U := U.trans u6
  clear u6 I0 J0 K0
  replace U := U.alloc (.cells #[.int .i64 0, .int .i64 0] 34)
  go_wp2_with fail
  refine (l_cellar_nil _).mono ?_
  rintro e x7 ⟨⟨a8, b8, d8, rfl, I8, J8, K8⟩, u8⟩
  replace U := U.trans u8
  clear u8 
  go_wp2_with fail
  refine (kn_a2 I8 J8 K8).mono ?_
  rintro e x9 ⟨rfl, u10⟩
  replace U := U.trans u10
  clear u10 I8 J8 K8
  replace U := U.alloc (.cells #[.int .i64 0, .int .i64 0] 34)
  go_wp2_with fail
  refine (l_cellar_nil _).mono ?_
  rintro e x11 ⟨⟨a9, b9, d9, rfl, I9, J9, K9⟩, u12⟩
  replace U := U.trans u12
  clear u12 
  go_wp2_with fail
  refine (kn_a3 I9 J9 K9).mono ?_
  rintro e x13 ⟨rfl, u14⟩
  replace U := U.trans u14
  clear u14 I9 J9 K9
  replace U := U.alloc (.cells #[.int .i64 0, .int .i64 0] 34)
  go_wp2_with fail
  refine (l_cellar_nil _).mono ?_
  rintro e x15 ⟨⟨a10, b10, d10, rfl, I10, J10, K10⟩, u16⟩
  replace U := U.trans u16
  clear u16 
  go_wp2_with fail
  refine (kn_a4 I10 J10 K10).mono ?_
  rintro e x17 ⟨rfl, u18⟩
  replace U := U.trans u18
  clear u18 I10 J10 K10
  replace U := U.alloc (.cells #[.int .i64 0, .int .i64 0] 34)
  go_wp2_with fail
  refine (l_cellar_nil _).mono ?_
  rintro e x19 ⟨⟨a11, b11, d11, rfl, I11, J11, K11⟩, u20⟩
  replace U := U.trans u20
  clear u20 
  go_wp2_with fail
  refine (kn_a5 I11 J11 K11).mono ?_
  rintro e x21 ⟨rfl, u22⟩
  replace U := U.trans u22
  clear u22 I11 J11 K11
  go_wp2_with fail
  refine (l_torn_any _).mono ?_
  rintro e x23 ⟨⟨g12, rfl, M12, _⟩, u24⟩
  replace U := U.trans u24
  clear u24 
  go_wp2_with fail
  refine (l_cellar_torn M12).mono ?_
  rintro e x25 ⟨⟨a12, b12, d12, rfl, I12, J12, K12⟩, u26⟩
  replace U := U.trans u26
  clear u26 M12
  obtain ⟨pa12, pc12, epv⟩ : ∃ pa pc, d12 = .slice pa 5 pc := by
    obtain ⟨a', c', e, _⟩ := K12.is
    exact ⟨a', c', e⟩
  subst epv
  go_wp2_with fail
  refine (kn_a6 I12 J12 K12).mono ?_
  rintro e x27 ⟨rfl, u28⟩
  replace U := U.trans u28
  clear u28 I12 J12 K12
  go_wp2_with fail
  refine (l_torn_any _).mono ?_
  rintro e x29 ⟨⟨g13, rfl, M13, _⟩, u30⟩
  replace U := U.trans u30
  clear u30 
  go_wp2_with fail
  refine (l_cellar_torn M13).mono ?_
  rintro e x31 ⟨⟨a13, b13, d13, rfl, I13, J13, K13⟩, u32⟩
  replace U := U.trans u32
  clear u32 M13
  obtain ⟨pa13, pc13, epv⟩ : ∃ pa pc, d13 = .slice pa 5 pc := by
    obtain ⟨a', c', e, _⟩ := K13.is
    exact ⟨a', c', e⟩
  subst epv
  go_wp2_with fail
  refine (kn_f1 I13 J13 K13).mono ?_
  rintro e x33 ⟨rfl, u34⟩
  replace U := U.trans u34
  clear u34 I13 J13 K13
  go_wp2_with fail
  refine (l_torn_any _).mono ?_
  rintro e x35 ⟨⟨g14, rfl, M14, _⟩, u36⟩
  replace U := U.trans u36
  clear u36 
  go_wp2_with fail
  refine (l_cellar_torn M14).mono ?_
  rintro e x37 ⟨⟨a14, b14, d14, rfl, I14, J14, K14⟩, u38⟩
  replace U := U.trans u38
  clear u38 M14
  obtain ⟨pa14, pc14, epv⟩ : ∃ pa pc, d14 = .slice pa 5 pc := by
    obtain ⟨a', c', e, _⟩ := K14.is
    exact ⟨a', c', e⟩
  subst epv
  go_wp2_with fail
  refine (kn_f2 I14 J14 K14).mono ?_
  rintro e x39 ⟨rfl, u40⟩
  replace U := U.trans u40
  clear u40 I14 J14 K14
  go_wp2_with fail
  refine (l_torn_any _).mono ?_
  rintro e x41 ⟨⟨g15, rfl, M15, _⟩, u42⟩
  replace U := U.trans u42
  clear u42 
  go_wp2_with fail
  refine (l_cellar_torn M15).mono ?_
  rintro e x43 ⟨⟨a15, b15, d15, rfl, I15, J15, K15⟩, u44⟩
  replace U := U.trans u44
  clear u44 M15
  obtain ⟨pa15, pc15, epv⟩ : ∃ pa pc, d15 = .slice pa 5 pc := by
    obtain ⟨a', c', e, _⟩ := K15.is
    exact ⟨a', c', e⟩
  subst epv
  go_wp2_with fail
  refine (kn_f3 I15 J15 K15).mono ?_
  rintro e x45 ⟨rfl, u46⟩
  replace U := U.trans u46
  clear u46 I15 J15 K15
  go_wp2_with fail
  refine (l_torn_any _).mono ?_
  rintro e x47 ⟨⟨g16, rfl, M16, _⟩, u48⟩
  replace U := U.trans u48
  clear u48 
  go_wp2_with fail
  refine (l_cellar_torn M16).mono ?_
  rintro e x49 ⟨⟨a16, b16, d16, rfl, I16, J16, K16⟩, u50⟩
  replace U := U.trans u50
  clear u50 M16
  obtain ⟨pa16, pc16, epv⟩ : ∃ pa pc, d16 = .slice pa 5 pc := by
    obtain ⟨a', c', e, _⟩ := K16.is
    exact ⟨a', c', e⟩
  subst epv
  go_wp2_with fail
  refine (kn_f4 I16 J16 K16).mono ?_
  rintro e x51 ⟨rfl, u52⟩
  replace U := U.trans u52
  clear u52 I16 J16 K16
  go_wp2_with fail
  refine (l_torn_any _).mono ?_
  rintro e x53 ⟨⟨g17, rfl, M17, _⟩, u54⟩
  replace U := U.trans u54
  clear u54 
  go_wp2_with fail
  refine (l_cellar_torn M17).mono ?_
  rintro e x55 ⟨⟨a17, b17, d17, rfl, I17, J17, K17⟩, u56⟩
  replace U := U.trans u56
  clear u56 M17
  obtain ⟨pa17, pc17, epv⟩ : ∃ pa pc, d17 = .slice pa 5 pc := by
    obtain ⟨a', c', e, _⟩ := K17.is
    exact ⟨a', c', e⟩
  subst epv
  go_wp2_with fail
  refine (kn_f5 I17 J17 K17).mono ?_
  rintro e x57 ⟨rfl, u58⟩
  replace U := U.trans u58
  clear u58 I17 J17 K17
  have mS := blk_new x57 (.cells #[.int .i64 0, .int .i64 0] 34) _ rfl
  replace U := U.alloc (.cells #[.int .i64 0, .int .i64 0] 34)
  obtain ⟨pS, hpS⟩ : ∃ q, x57.heap.size = q := ⟨_, rfl⟩
  rw [hpS] at mS
  go_wp2_with fail
  try rw [hpS]
  clear hpS
  refine (B_To_any 100000 100000 _).mono ?_
  rintro e x59 ⟨rfl, u60⟩
  replace U := U.trans u60
  replace mS := u60.blk mS
  clear u60 
  go_wp2_with fail
  refine (B_To_any 100000 100000 _).mono ?_
  rintro e x61 ⟨rfl, u62⟩
  replace U := U.trans u62
  replace mS := u62.blk mS
  clear u62 
  go_wp2_with fail
  refine (B_To_any 1 1 _).mono ?_
  rintro e x63 ⟨rfl, u64⟩
  replace U := U.trans u64
  replace mS := u64.blk mS
  clear u64 
  have mO := blk_keep (.cells #[.int .i64 1, .slice (some ⟨pS, 0, none⟩) 1 1, .slice (some ⟨x63.heap.size, 0, none⟩) 3 3, .slice none 0 0] 26) (blk_new x63 (.cells #[.int .i64 0, .int .i64 0, .int .i64 100000, .int .i64 100000, .int .i64 0, .int .i64 0, .int .i64 100000, .int .i64 100000, .int .i64 0, .int .i64 0, .int .i64 1, .int .i64 1] 63) _ rfl)
  have mC := blk_new (x63.alloc (.cells #[.int .i64 0, .int .i64 0, .int .i64 100000, .int .i64 100000, .int .i64 0, .int .i64 0, .int .i64 100000, .int .i64 100000, .int .i64 0, .int .i64 0, .int .i64 1, .int .i64 1] 63)) (.cells #[.int .i64 1, .slice (some ⟨pS, 0, none⟩) 1 1, .slice (some ⟨x63.heap.size, 0, none⟩) 3 3, .slice none 0 0] 26) (x63.heap.size + 1) (by simp)
  have lS := blk_lt mS
  have lz := U.size
  replace mS := blk_keep (.cells #[.int .i64 1, .slice (some ⟨pS, 0, none⟩) 1 1, .slice (some ⟨x63.heap.size, 0, none⟩) 3 3, .slice none 0 0] 26) (blk_keep (.cells #[.int .i64 0, .int .i64 0, .int .i64 100000, .int .i64 100000, .int .i64 0, .int .i64 0, .int .i64 100000, .int .i64 100000, .int .i64 0, .int .i64 0, .int .i64 1, .int .i64 1] 63) mS)
  replace U := (U.alloc (.cells #[.int .i64 0, .int .i64 0, .int .i64 100000, .int .i64 100000, .int .i64 0, .int .i64 0, .int .i64 100000, .int .i64 100000, .int .i64 0, .int .i64 0, .int .i64 1, .int .i64 1] 63)).alloc (.cells #[.int .i64 1, .slice (some ⟨pS, 0, none⟩) 1 1, .slice (some ⟨x63.heap.size, 0, none⟩) 3 3, .slice none 0 0] 26)
  have lC := blk_lt mC
  have lO := blk_lt mO
  go_wp2_with fail
  obtain ⟨pC, hpC⟩ : ∃ q, x63.heap.size + 1 = q := ⟨_, rfl⟩
  obtain ⟨W0, hW0⟩ : ∃ z, (x63.alloc (.cells #[.int .i64 0, .int .i64 0, .int .i64 100000, .int .i64 100000, .int .i64 0, .int .i64 0, .int .i64 100000, .int .i64 100000, .int .i64 0, .int .i64 0, .int .i64 1, .int .i64 1] 63)).alloc (.cells #[.int .i64 1, .slice (some ⟨pS, 0, none⟩) 1 1, .slice (some ⟨x63.heap.size, 0, none⟩) 3 3, .slice none 0 0] 26) = z := ⟨_, rfl⟩
  have nC : x63.heap.size < pC := by omega
  obtain ⟨pO, hpO⟩ : ∃ q, x63.heap.size = q := ⟨_, rfl⟩
  rw [hpC] at mC
  rw [hW0] at mS mO mC U lC lO
  rw [hW0]
  try rw [hpC]
  rw [hpO] at lS lz lO mO mC nC
  try rw [hpO]
  rw [hpC] at lC
  clear hpC hW0 hpO
  refine (kn_far_wrong (kn_span mS) (kn_far3 mO) (Tab.nil _)).mono ?_
  rintro e x65 ⟨rfl, u66⟩
  replace U := U.trans u66
  replace mS := u66.blk mS
  replace mO := u66.blk mO
  replace mC := u66.blk mC
  clear u66 
  have lc : w0.heap.size ≤ pC := by omega
  go_upto_if 326 with (fail)
  go_step
  go_step
  go_step
  go_step
  exact kn_tail27 _ _ _ _ _ _ _ _ _ _ _ _ _ _ _ _ _ _ _ _ _ _ _ _ _ _ _ _ _ _ _ _ _ _ _ _ _ _ _ _ _ _ _ _ _ _ _ _ _ _ _ _ _ _ _ _ _ _ _ _ _ _ _ _ _ _ _ _ _ _ _ _ _ _ _ _ _ _ _ _ _ _ _ _ _ _ _ _ _ _ _ _ _ _ _ _ _ _ _ _ _ _ _ _ _ _ _ _ _ _ _ _ _ _ _ _ _ _ _ _ _ _ _ _ _ _ _ _ _ _ _ _ _ _ _ _ _ _ _ _ _ _ _ _ _ _ _ _ _ _ _ _ _ _ _ _ _ _ _ _ _ _ _ _ _ _ _ _ _ _ _ _ _ _ _ _ _ _ _ _ _ _ _ _ _ _ _ _ _ _ _ _ _ _ _ _ _ _ _ _ _ _ _ _ _ _ _ _ _ _ _ _ _ _ _ _ _ _ _ _ _ _ _ _ _ _ _ _ _ _ _ _ _ _ _ _ _ _ _ _ _ _ _ _ _ _ _ _ _ _ _ _ _ _ _ _ _ _ _ _ _ _ _ _ _ _ _ _ _ _ _ _ _ _ _ _ _ _ _ _ _ _ _ _ _ _ _ _ _ _ _ _ _ _ _ _ _ _ _ _ _ _ _ _ _ _ _ _ _ _ _ _ _ _ _ _ _ _ _ _ _ _ _ _ _ _ lS nC lc mS mO mC U

end Go.Proofs.Ytcmdaiklkdeanaa
