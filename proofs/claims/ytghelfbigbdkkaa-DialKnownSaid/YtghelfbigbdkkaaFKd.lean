import Derived.Deep.Cut
import Derived.Test.YtghelfbigbdkkaaFKc
/- The law DialKnown: its third loop. -/
namespace Go.Proofs.Ytghelfbigbdkkaa
open Go.RowKit
set_option maxRecDepth 1000000 in
set_option maxHeartbeats 8000000 in
set_option linter.unusedSimpArgs false in
theorem kn_tail11 (c0 c1 c2 c3 c4 c5 c6 c7 c8 c9 c10 c11 c12 c13 c14 c15 c16 c17 c18 c19 c20 c21 c22 c23 c24 c25 c26 c27 c28 c29 c30 c31 c32 c33 c34 c35 c36 c37 c38 c39 c40 c41 c42 c43 c44 c45 c46 c47 c48 c49 c50 c51 c52 c53 c54 c55 c56 c57 c58 c59 c60 c61 c62 c63 c64 c65 c66 c67 c68 c69 c70 c71 c72 c73 c74 c75 c76 c77 c78 c79 c80 c81 c82 c83 c84 c85 c86 c87 c88 c89 c90 c91 c92 c93 c94 c95 c96 c97 c98 c99 c100 c101 c102 c103 c104 c105 c106 c107 c108 c109 c110 c111 c112 c113 c114 c115 c116 c117 c118 c119 c120 c121 c122 c123 c124 c125 c126 c127 c128 c129 c130 c131 c132 c133 c134 c135 c136 c137 c138 c139 c140 c141 c142 c143 c144 c145 c146 c147 c148 c149 c150 c151 c152 c153 c154 c155 c156 c157 c158 c159 c160 c161 c162 c163 c164 c165 c166 c167 c168 c169 c170 c171 c172 c173 c174 c175 c176 c177 c178 c179 c180 c181 c182 c183 c184 c185 c186 c187 c188 c189 c190 c191 c192 c193 c194 c195 c196 c197 c198 c199 c200 c201 c202 c203 c204 c205 c206 c207 c208 c209 c210 c211 c212 c213 c214 c215 c216 c217 c218 c219 c220 c221 c222 c223 c224 c225 c226 c227 c228 c229 c230 c231 c232 c233 c234 c235 c236 c237 c238 c239 c240 c241 c242 c243 c244 c245 c246 c247 c248 c249 c250 c251 c252 c253 c254 c255 c256 c257 c258 c259 c260 c261 c262 c263 c264 c265 c266 c267 c268 c269 c270 c271 c272 c273 c274 c275 c276 c277 c278 c279 c280 c281 c282 c283 c284 c285 c286 c287 c288 c289 c290 c291 c292 c293 c294 c295 c296 c297 c298 c299 c300 c301 c302 c303 : Value) {w wr : World} (U11 : Up w wr) :
    Code.wp Try.prog (Kn.rt 11 Kn.body) (bodyPost Try.prog Try.f3 fun e w' => e = .returned (.bool true) ∧ Up w w') ⟨#[c0, c1, c2, c3, c4, c5, c6, c7, c8, c9, c10, c11, c12, c13, c14, c15, c16, c17, c18, c19, c20, c21, c22, c23, c24, c25, c26, c27, c28, c29, c30, c31, c32, c33, c34, c35, c36, c37, c38, c39, c40, c41, c42, c43, c44, c45, c46, c47, c48, c49, c50, c51, c52, c53, c54, c55, c56, c57, c58, c59, c60, c61, c62, c63, c64, c65, c66, c67, c68, c69, c70, c71, c72, c73, c74, c75, c76, c77, c78, c79, c80, c81, c82, c83, c84, c85, c86, c87, c88, c89, c90, c91, c92, c93, c94, c95, c96, c97, c98, c99, c100, c101, c102, c103, c104, c105, c106, c107, c108, c109, c110, c111, c112, c113, c114, c115, c116, c117, c118, c119, c120, c121, c122, c123, c124, c125, c126, c127, c128, c129, c130, c131, c132, c133, c134, c135, c136, c137, c138, c139, c140, c141, c142, c143, c144, c145, c146, c147, c148, c149, c150, c151, c152, c153, c154, c155, c156, c157, c158, c159, c160, c161, c162, c163, c164, c165, c166, c167, c168, c169, c170, c171, c172, c173, c174, c175, c176, c177, c178, c179, c180, c181, c182, c183, c184, c185, c186, c187, c188, c189, c190, c191, c192, c193, c194, c195, c196, c197, c198, c199, c200, c201, c202, c203, c204, c205, c206, c207, c208, c209, c210, c211, c212, c213, c214, c215, c216, c217, c218, c219, c220, c221, c222, c223, c224, c225, c226, c227, c228, c229, c230, c231, c232, c233, c234, c235, c236, c237, c238, c239, c240, c241, c242, c243, c244, c245, c246, c247, c248, c249, c250, c251, c252, c253, c254, c255, c256, c257, c258, c259, c260, c261, c262, c263, c264, c265, c266, c267, c268, c269, c270, c271, c272, c273, c274, c275, c276, c277, c278, c279, c280, c281, c282, c283, c284, c285, c286, c287, c288, c289, c290, c291, c292, c293, c294, c295, c296, c297, c298, c299, c300, c301, c302, c303, undef, undef, undef, undef, undef, undef, undef, undef, undef, undef, undef, undef, undef, undef, undef, undef, undef, undef, undef, undef, undef, undef, undef, undef, undef, undef, undef, undef, undef, undef, undef, undef, undef, undef, undef, undef, undef, undef, undef, undef, undef, undef, undef, undef, undef, undef, undef, undef, undef, undef, undef, undef, undef, undef, undef, undef, undef, undef, undef, undef, undef, undef, undef, undef, undef, undef, undef, undef, undef, undef, undef, undef, undef, undef, undef, undef, undef, undef, undef, undef, undef, undef, undef, undef, undef, undef, undef, undef, undef, undef, undef, undef, undef, undef, undef, undef, undef, undef, undef, undef, undef, undef, undef, undef, undef, undef, undef, undef, undef, undef, undef, undef, undef, undef, undef, undef, undef, undef, undef, undef, undef, undef, undef, undef, undef, undef, undef, undef, undef, undef, undef, undef, undef, undef, undef, undef, undef, undef, undef, undef, undef, undef, undef, undef, undef, undef, undef, undef, undef, undef, undef, undef, undef, undef, undef, undef, undef, undef, undef, undef, undef, undef, undef, undef, undef, undef, undef, undef, undef, undef, undef, undef, undef, undef, undef, undef, undef, undef, undef, undef, undef, undef, undef, undef, undef, undef, undef, undef, undef, undef, undef, undef, undef, undef, undef, undef, undef, undef, undef, undef, undef, undef, undef, undef, undef, undef, undef, undef, undef, undef, undef, undef, undef, undef, undef, undef, undef, undef, undef, undef, undef, undef, undef, undef, undef, undef, undef, undef, undef, undef], []⟩ wr := by
  conv => arg 2; whnf
  go_wp2_with fail
  refine (l_at_any _ _ _ _ _).mono ?_
  rintro e x29 ⟨rfl, u29⟩
  have U12 := U11.trans u29
  clear u29 U11
  go_wp2_with fail
  refine (l_at_any _ _ _ _ _).mono ?_
  rintro e x30 ⟨rfl, u30⟩
  have U13 := U12.trans u30
  clear u30 U12
  go_wp2_with fail
  refine (l_at_any _ _ _ _ _).mono ?_
  rintro e x31 ⟨rfl, u31⟩
  have U14 := U13.trans u31
  clear u31 U13
  go_wp2_with fail
  refine (l_at_any _ _ _ _ _).mono ?_
  rintro e x32 ⟨rfl, u32⟩
  have U15 := U14.trans u32
  clear u32 U14
  go_wp2_with fail
  refine (l_at_any _ _ _ _ _).mono ?_
  rintro e x33 ⟨rfl, u33⟩
  have U16 := U15.trans u33
  clear u33 U15
  go_wp2_with fail
  refine (l_at_any _ _ _ _ _).mono ?_
  rintro e x34 ⟨rfl, u34⟩
  have U17 := U16.trans u34
  clear u34 U16
  go_wp2_with fail
  refine (l_at_any _ _ _ _ _).mono ?_
  rintro e x35 ⟨rfl, u35⟩
  have U18 := U17.trans u35
  clear u35 U17
  go_wp2_with fail
  refine (l_at_any _ _ _ _ _).mono ?_
  rintro e x36 ⟨rfl, u36⟩
  have U19 := U18.trans u36
  clear u36 U18
  go_wp2_with fail
  obtain ⟨Y, hY⟩ : ∃ Y, x36.alloc (.cells #[.int .i64 1, .int .i64 2, .int .i64 3, .int .i64 10, .int .i64 0, .int .i64 2, .int .i64 2, .int .i64 10, .int .i64 0, .int .i64 2, .int .i64 3, .int .i64 11, .int .i64 2, .int .i64 0, .int .i64 0, .int .i64 0, .int .i64 (-1), .int .i64 0, .int .i64 0, .int .i64 0, .int .i64 0, .int .i64 3, .int .i64 0, .int .i64 0, .int .i64 0, .int .i64 0, .int .i64 4, .int .i64 0, .int .i64 0, .int .i64 0, .int .i64 0, .int .i64 (-1)] 34) = Y := ⟨_, rfl⟩
  obtain ⟨g3, hg3⟩ : ∃ g3, x36.heap.size = g3 := ⟨_, rfl⟩
  have kr : mblk Y g3 = some (.cells #[.int .i64 1, .int .i64 2, .int .i64 3, .int .i64 10, .int .i64 0, .int .i64 2, .int .i64 2, .int .i64 10, .int .i64 0, .int .i64 2, .int .i64 3, .int .i64 11, .int .i64 2, .int .i64 0, .int .i64 0, .int .i64 0, .int .i64 (-1), .int .i64 0, .int .i64 0, .int .i64 0, .int .i64 0, .int .i64 3, .int .i64 0, .int .i64 0, .int .i64 0, .int .i64 0, .int .i64 4, .int .i64 0, .int .i64 0, .int .i64 0, .int .i64 0, .int .i64 (-1)] 34 (0, 0)) := by rw [← hY]; exact blk_new _ _ _ hg3.symm
  have UY : Up w Y := by rw [← hY]; exact U19.alloc _
  have HR := Lib.hid (Kn.rds kr)
  have hgl := blk_lt kr
  rw [hY, hg3]
  clear hY hg3 kr U19
  go_loopw [30] (fun iv wr => ∃ j : Nat, j ≤ 8 ∧ iv = .int .i64 j ∧ Up Y wr) (fun iv _ => 8 - (intOf iv).toNat)
  case atStart => exact ⟨0, by omega, rfl, Up.refl _⟩
  case round =>
    obtain ⟨j, hj, rfl, V⟩ := hrel
    by_cases hlt : j < 8
    · obtain ⟨p0, p1, p2, p3, q0, q1, q2, q3, hp⟩ := HR.out j hlt
      have HQ := Lib.hid (fun w' (u : Up Y w') => show w'.cell? ⟨g3, j * 4, none⟩ = some (.int .i64 p0) ∧ w'.cell? ⟨g3, j * 4 + 1, none⟩ = some (.int .i64 p1) ∧ w'.cell? ⟨g3, j * 4 + 2, none⟩ = some (.int .i64 p2) ∧ w'.cell? ⟨g3, j * 4 + 3, none⟩ = some (.int .i64 p3) from ⟨(u.facts.1 g3 _ hgl).trans q0, (u.facts.1 g3 _ hgl).trans q1, (u.facts.1 g3 _ hgl).trans q2, (u.facts.1 g3 _ hgl).trans q3⟩)
      have HP := Lib.hid hp
      have HJ := Lib.hid (show j + 1 ≤ 8 from hlt)
      clear q0 q1 q2 q3 hp HR
      obtain ⟨q0, q1, q2, q3⟩ := HQ.out _ V
      clear q0 q1 q2 q3
      go_wp2_with fail
      refine wp_region_held_drew (S := fun w' => Up Y w' ∧ w'.cell? ⟨g3, j * 4, none⟩ = some (.int .i64 p0) ∧ w'.cell? ⟨g3, j * 4 + 1, none⟩ = some (.int .i64 p1) ∧ w'.cell? ⟨g3, j * 4 + 2, none⟩ = some (.int .i64 p2) ∧ w'.cell? ⟨g3, j * 4 + 3, none⟩ = some (.int .i64 p3)) (by as_aux_lemma => kernel_rfl) ⟨V.drew, HQ.out _ V.drew⟩ (fun hHeld => ?_)
      clear V
      refine takeH (i := 1) (d := (some 321)) (v := ?v1) rfl rfl (by as_aux_lemma => kernel_rfl) (by as_aux_lemma => kernel_rfl) (by as_aux_lemma => kernel_rfl) (fun _ _ _ h => h) (by rfl) ?hy1 (by assumption) ?_
      case hy1 => ((intro w hSw; (try dsimp only at hSw); (try go_split_ands); go_simp); try with_reducible rfl)
      simp only [Act.put, List.setIfInBounds_toArray]; dsimp only [List.set_cons_zero, List.set_cons_succ]
      refine takeH (i := 2) (d := (some 322)) (v := ?v2) rfl rfl (by as_aux_lemma => kernel_rfl) (by as_aux_lemma => kernel_rfl) (by as_aux_lemma => kernel_rfl) (fun _ _ _ h => h) (by rfl) ?hy2 (by assumption) ?_
      case hy2 => ((intro w hSw; (try dsimp only at hSw); (try go_split_ands); go_simp); try with_reducible rfl)
      simp only [Act.put, List.setIfInBounds_toArray]; dsimp only [List.set_cons_zero, List.set_cons_succ]
      refine takeH (i := 3) (d := (some 323)) (v := ?v3) rfl rfl (by as_aux_lemma => kernel_rfl) (by as_aux_lemma => kernel_rfl) (by as_aux_lemma => kernel_rfl) (fun _ _ _ h => h) (by rfl) ?hy3 (by assumption) ?_
      case hy3 => ((intro w hSw; (try dsimp only at hSw); (try go_split_ands); go_simp); try with_reducible rfl)
      simp only [Act.put, List.setIfInBounds_toArray]; dsimp only [List.set_cons_zero, List.set_cons_succ]
      refine takeH (i := 4) (d := (some 324)) (v := ?v4) rfl rfl (by as_aux_lemma => kernel_rfl) (by as_aux_lemma => kernel_rfl) (by as_aux_lemma => kernel_rfl) (fun _ _ _ h => h) (by rfl) ?hy4 (by assumption) ?_
      case hy4 => ((intro w hSw; (try dsimp only at hSw); (try go_split_ands); go_simp); try with_reducible rfl)
      simp only [Act.put, List.setIfInBounds_toArray]; dsimp only [List.set_cons_zero, List.set_cons_succ]
      refine wpAnyH_ready (rs := [0]) (by as_aux_lemma => kernel_rfl) (by simp) ?_
      refine AllReadyH.cons rfl (fun K hK => ?_) AllReadyH.nil
      go_simp
      refine (l_week_any _ _ _).mono ?_
      rintro e x37 ⟨b37, rfl, u37, AW⟩
      go_wp2_with fail
      skip
      refine hK.out _ _ ⟨hHeld.1.trans u37, HQ.out _ (hHeld.1.trans u37)⟩ (fun hHeld => ?_)
      clear hK K u37
      refine wpAnyH_ready (rs := [5]) (by as_aux_lemma => kernel_rfl) (by simp) ?_
      refine AllReadyH.cons rfl (fun K hK => ?_) AllReadyH.nil
      go_simp
      refine (Kn.tick4 AW HP.out).mono ?_
      rintro e x38 ⟨rfl, u38⟩
      go_wp2_with fail
      refine hK.out _ _ ⟨hHeld.1.trans u38, HQ.out _ (hHeld.1.trans u38)⟩ (fun hHeld => ?_)
      clear hK K u38
      refine takeH (i := 6) (d := (some 319)) (v := ?v7) rfl rfl (by as_aux_lemma => kernel_rfl) (by as_aux_lemma => kernel_rfl) (by as_aux_lemma => kernel_rfl) (fun _ _ _ h => h) (by rfl) ?hy7 (by assumption) ?_
      case hy7 => ((intro w hSw; (try dsimp only at hSw); (try go_split_ands); go_simp); try with_reducible rfl)
      simp only [Act.put, List.setIfInBounds_toArray]; dsimp only [List.set_cons_zero, List.set_cons_succ]
      refine takeH (i := 7) (d := (some 326)) (v := ?v8) rfl rfl (by as_aux_lemma => kernel_rfl) (by as_aux_lemma => kernel_rfl) (by as_aux_lemma => kernel_rfl) (fun _ _ _ h => h) (by rfl) ?hy8 (by assumption) ?_
      case hy8 => ((intro w hSw; (try dsimp only at hSw); (try go_split_ands); go_simp); try with_reducible rfl)
      simp only [Act.put, List.setIfInBounds_toArray]; dsimp only [List.set_cons_zero, List.set_cons_succ]
      refine takeH (i := 8) (d := (some 327)) (v := ?v9) rfl rfl (by as_aux_lemma => kernel_rfl) (by as_aux_lemma => kernel_rfl) (by as_aux_lemma => kernel_rfl) (fun _ _ _ h => h) (by rfl) ?hy9 (by assumption) ?_
      case hy9 => ((intro w hSw; (try dsimp only at hSw); (try go_split_ands); go_simp); try with_reducible rfl)
      simp only [Act.put, List.setIfInBounds_toArray]; dsimp only [List.set_cons_zero, List.set_cons_succ]
      refine takeH (i := 9) (d := (some 31)) (v := ?v10) rfl rfl (by as_aux_lemma => kernel_rfl) (by as_aux_lemma => kernel_rfl) (by as_aux_lemma => kernel_rfl) (fun _ _ _ h => h) (by rfl) ?hy10 (by assumption) ?_
      case hy10 => ((intro w hSw; (try dsimp only at hSw); (try go_split_ands); go_simp); try with_reducible rfl)
      simp only [Act.put, List.setIfInBounds_toArray]; dsimp only [List.set_cons_zero, List.set_cons_succ]
      refine takeH (i := 10) (d := (some 32)) (v := ?v11) rfl rfl (by as_aux_lemma => kernel_rfl) (by as_aux_lemma => kernel_rfl) (by as_aux_lemma => kernel_rfl) (fun _ _ _ h => h) (by rfl) ?hy11 (by assumption) ?_
      case hy11 => ((intro w hSw; (try dsimp only at hSw); (try go_split_ands); go_simp); try with_reducible rfl)
      simp only [Act.put, List.setIfInBounds_toArray]; dsimp only [List.set_cons_zero, List.set_cons_succ]
      refine wpAnyH_done (by as_aux_lemma => kernel_rfl) ?_ _
      have V39 := hHeld.1
      clear hHeld
      clear AW
      go_wp2_with fail
      refine wp_region_held_drew (S := fun w' => Up Y w' ∧ w'.cell? ⟨g3, j * 4, none⟩ = some (.int .i64 p0) ∧ w'.cell? ⟨g3, j * 4 + 1, none⟩ = some (.int .i64 p1) ∧ w'.cell? ⟨g3, j * 4 + 2, none⟩ = some (.int .i64 p2) ∧ w'.cell? ⟨g3, j * 4 + 3, none⟩ = some (.int .i64 p3)) (by as_aux_lemma => kernel_rfl) ⟨V39.drew, HQ.out _ V39.drew⟩ (fun hHeld => ?_)
      clear V39
      refine takeH (i := 2) (d := (some 331)) (v := ?v12) rfl rfl (by as_aux_lemma => kernel_rfl) (by as_aux_lemma => kernel_rfl) (by as_aux_lemma => kernel_rfl) (fun _ _ _ h => h) (by rfl) ?hy12 (by assumption) ?_
      case hy12 => ((intro w hSw; (try dsimp only at hSw); (try go_split_ands); go_simp); try with_reducible rfl)
      simp only [Act.put, List.setIfInBounds_toArray]; dsimp only [List.set_cons_zero, List.set_cons_succ]
      refine takeH (i := 3) (d := (some 332)) (v := ?v13) rfl rfl (by as_aux_lemma => kernel_rfl) (by as_aux_lemma => kernel_rfl) (by as_aux_lemma => kernel_rfl) (fun _ _ _ h => h) (by rfl) ?hy13 (by assumption) ?_
      case hy13 => ((intro w hSw; (try dsimp only at hSw); (try go_split_ands); go_simp); try with_reducible rfl)
      simp only [Act.put, List.setIfInBounds_toArray]; dsimp only [List.set_cons_zero, List.set_cons_succ]
      refine takeH (i := 4) (d := (some 333)) (v := ?v14) rfl rfl (by as_aux_lemma => kernel_rfl) (by as_aux_lemma => kernel_rfl) (by as_aux_lemma => kernel_rfl) (fun _ _ _ h => h) (by rfl) ?hy14 (by assumption) ?_
      case hy14 => ((intro w hSw; (try dsimp only at hSw); (try go_split_ands); go_simp); try with_reducible rfl)
      simp only [Act.put, List.setIfInBounds_toArray]; dsimp only [List.set_cons_zero, List.set_cons_succ]
      refine takeH (i := 5) (d := (some 334)) (v := ?v15) rfl rfl (by as_aux_lemma => kernel_rfl) (by as_aux_lemma => kernel_rfl) (by as_aux_lemma => kernel_rfl) (fun _ _ _ h => h) (by rfl) ?hy15 (by assumption) ?_
      case hy15 => ((intro w hSw; (try dsimp only at hSw); (try go_split_ands); go_simp); try with_reducible rfl)
      simp only [Act.put, List.setIfInBounds_toArray]; dsimp only [List.set_cons_zero, List.set_cons_succ]
      refine wpAnyH_ready (rs := [0]) (by as_aux_lemma => kernel_rfl) (by simp) ?_
      refine AllReadyH.cons rfl (fun K hK => ?_) AllReadyH.nil
      go_simp
      refine (l_week_any _ _ _).mono ?_
      rintro e x40 ⟨b40, rfl, u40, AW⟩
      go_wp2_with fail
      skip
      refine hK.out _ _ ⟨hHeld.1.trans u40, HQ.out _ (hHeld.1.trans u40)⟩ (fun hHeld => ?_)
      clear hK K u40
      refine wpAnyH_ready (rs := [1]) (by as_aux_lemma => kernel_rfl) (by simp) ?_
      refine AllReadyH.cons rfl (fun K hK => ?_) AllReadyH.nil
      go_simp
      refine (l_at_any _ _ _ _ _).mono ?_
      rintro e x41 ⟨rfl, u41⟩
      go_wp2_with fail
      replace AW := AW.up u41
      refine hK.out _ _ ⟨hHeld.1.trans u41, HQ.out _ (hHeld.1.trans u41)⟩ (fun hHeld => ?_)
      clear hK K u41
      refine wpAnyH_ready (rs := [6]) (by as_aux_lemma => kernel_rfl) (by simp) ?_
      refine AllReadyH.cons rfl (fun K hK => ?_) AllReadyH.nil
      go_simp
      refine (Kn.apart4 AW HP.out).mono ?_
      rintro e x42 ⟨rfl, u42⟩
      go_wp2_with fail
      refine hK.out _ _ ⟨hHeld.1.trans u42, HQ.out _ (hHeld.1.trans u42)⟩ (fun hHeld => ?_)
      clear hK K u42
      refine takeH (i := 7) (d := (some 328)) (v := ?v19) rfl rfl (by as_aux_lemma => kernel_rfl) (by as_aux_lemma => kernel_rfl) (by as_aux_lemma => kernel_rfl) (fun _ _ _ h => h) (by rfl) ?hy19 (by assumption) ?_
      case hy19 => ((intro w hSw; (try dsimp only at hSw); (try go_split_ands); go_simp); try with_reducible rfl)
      simp only [Act.put, List.setIfInBounds_toArray]; dsimp only [List.set_cons_zero, List.set_cons_succ]
      refine takeH (i := 8) (d := (some 336)) (v := ?v20) rfl rfl (by as_aux_lemma => kernel_rfl) (by as_aux_lemma => kernel_rfl) (by as_aux_lemma => kernel_rfl) (fun _ _ _ h => h) (by rfl) ?hy20 (by assumption) ?_
      case hy20 => ((intro w hSw; (try dsimp only at hSw); (try go_split_ands); go_simp); try with_reducible rfl)
      simp only [Act.put, List.setIfInBounds_toArray]; dsimp only [List.set_cons_zero, List.set_cons_succ]
      refine takeH (i := 9) (d := (some 337)) (v := ?v21) rfl rfl (by as_aux_lemma => kernel_rfl) (by as_aux_lemma => kernel_rfl) (by as_aux_lemma => kernel_rfl) (fun _ _ _ h => h) (by rfl) ?hy21 (by assumption) ?_
      case hy21 => ((intro w hSw; (try dsimp only at hSw); (try go_split_ands); go_simp); try with_reducible rfl)
      simp only [Act.put, List.setIfInBounds_toArray]; dsimp only [List.set_cons_zero, List.set_cons_succ]
      refine takeH (i := 10) (d := (some 33)) (v := ?v22) rfl rfl (by as_aux_lemma => kernel_rfl) (by as_aux_lemma => kernel_rfl) (by as_aux_lemma => kernel_rfl) (fun _ _ _ h => h) (by rfl) ?hy22 (by assumption) ?_
      case hy22 => ((intro w hSw; (try dsimp only at hSw); (try go_split_ands); go_simp); try with_reducible rfl)
      simp only [Act.put, List.setIfInBounds_toArray]; dsimp only [List.set_cons_zero, List.set_cons_succ]
      refine takeH (i := 11) (d := (some 34)) (v := ?v23) rfl rfl (by as_aux_lemma => kernel_rfl) (by as_aux_lemma => kernel_rfl) (by as_aux_lemma => kernel_rfl) (fun _ _ _ h => h) (by rfl) ?hy23 (by assumption) ?_
      case hy23 => ((intro w hSw; (try dsimp only at hSw); (try go_split_ands); go_simp); try with_reducible rfl)
      simp only [Act.put, List.setIfInBounds_toArray]; dsimp only [List.set_cons_zero, List.set_cons_succ]
      refine wpAnyH_done (by as_aux_lemma => kernel_rfl) ?_ _
      have V43 := hHeld.1
      clear hHeld
      go_wp2
      go_roundw
      case rel => exact ⟨j + 1, HJ.out, by go_num, V43⟩
      case measure => have := HJ.out; simp [intOf]; omega
    · have n8 : ¬ ((j : Int) < 8) := by omega
      have U20 := UY.trans V
      clear UY V HR hj hlt hgl
      go_upto_if 316 with (fail)
      go_step
      go_step
      go_step
      go_step
      go_step
      go_step
      exact kn_tail13 _ _ _ _ _ _ _ _ _ _ _ _ _ _ _ _ _ _ _ _ _ _ _ _ _ _ _ _ _ _ _ _ _ _ _ _ _ _ _ _ _ _ _ _ _ _ _ _ _ _ _ _ _ _ _ _ _ _ _ _ _ _ _ _ _ _ _ _ _ _ _ _ _ _ _ _ _ _ _ _ _ _ _ _ _ _ _ _ _ _ _ _ _ _ _ _ _ _ _ _ _ _ _ _ _ _ _ _ _ _ _ _ _ _ _ _ _ _ _ _ _ _ _ _ _ _ _ _ _ _ _ _ _ _ _ _ _ _ _ _ _ _ _ _ _ _ _ _ _ _ _ _ _ _ _ _ _ _ _ _ _ _ _ _ _ _ _ _ _ _ _ _ _ _ _ _ _ _ _ _ _ _ _ _ _ _ _ _ _ _ _ _ _ _ _ _ _ _ _ _ _ _ _ _ _ _ _ _ _ _ _ _ _ _ _ _ _ _ _ _ _ _ _ _ _ _ _ _ _ _ _ _ _ _ _ _ _ _ _ _ _ _ _ _ _ _ _ _ _ _ _ _ _ _ _ _ _ _ _ _ _ _ _ _ _ _ _ _ _ _ _ _ _ _ _ _ _ _ _ _ _ _ _ _ _ _ _ _ _ _ _ _ _ _ _ _ _ _ _ _ _ _ _ _ _ _ _ _ _ _ _ _ _ _ _ _ _ _ _ _ _ _ _ _ _ _ _ _ _ _ _ _ _ _ _ _ _ _ _ _ _ _ _ _ U20

end Go.Proofs.Ytghelfbigbdkkaa
